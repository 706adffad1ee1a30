/-
  What the laws' size counters answer: the walks.
  What the laws' copiers answer: the walks.
  What the laws' toMod answers: the walk.
-/
import Derived.Deep.Cut
import Derived.Test.YticdggnnpjachaaGreatCcSrcRowToCostMath
namespace Go.Proofs.YticdggnnpjachaaGreat
set_option maxRecDepth 100000
set_option maxHeartbeats 6400000
open Go.RowKit Go.PlainAid Go.Sort
def zea (x:ByteArray):Prop:=x.size≤9223372036854775807
theorem zpV (a:Option Addr) (J:Nat) (l:List ByteArray) (left:Int) (w:World) (O:RowAt w a (fun x=>[Value.string x]) 1 l) (hl:l.length≤9223372036854775807) (A: ∀x∈l,zea x) (h0:0≤left) (h1:left≤1048576):
  Calls Tryz.prog 40 #[.slice a l.length J,.int .i64 left] w fun e w'=>zcG left (l.length+zQ zca l) e∧Below w.heap.size w w':=by
 have HR:=zc O
 have Z:=zc A
 clear O A
 by_cases aa:(l.length:Int)≤left
 case neg=>
  go_enter Tryz.func40,Tryz.ntmps40
  go_wp2
  go_ret
  exact⟨⟨-1,rfl,by omega,by omega,fun h=>by omega⟩,Below.refl _ _⟩
 go_enter Tryz.func40,Tryz.ntmps40
 go_wp2
 go_loopg [1,5] l.length (fun k s1 s5 wr=>∃(j:Nat) (z:Int),s5= .int .i64 j∧s1= .int .i64 z∧j+k=l.length∧0≤z∧z≤left∧z+((l.length+zQ zca (l.take j):Nat):Int)=left∧Below w.heap.size w wr)
 case atStart=>exact⟨0,_,rfl,rfl,by omega,by omega,by omega,by simp[zQ],Below.refl _ _⟩
 case round=>
  obtain⟨j,z,rfl,rfl,hj,Y,L,o,A⟩:=hrel
  have V:=zc o
  have E:=zc A
  clear o A
  by_cases M:j<l.length
  ·have q:(j:Int)<(l.length:Int):=by omega
   obtain⟨x,I⟩: ∃x,l[j]? =some x:=⟨_,List.getElem?_eq_getElem M⟩
   obtain⟨b,ab,rfl,N⟩:=(HR.out.later E.out).get I
   have D:=Z.out x (List.mem_of_getElem? I)
   have X:=zc (zeC zca I)
   have c0:=N 0 _ rfl
   simp only[Nat.add_zero,Nat.mul_one] at c0
   clear N I
   obtain⟨H,n⟩: ∃H,H=j+1:=⟨_,rfl⟩
   have ej:(j:Int)+1=(H:Int):=by omega
   have U:=zc n
   clear n
   unfold zea at D
   by_cases K:0≤z-(x.size:Int)
   ·go_wp2
    go_roundg (gk-1)
    case rel=>exact⟨H,_,rfl,rfl,by have:=U.out;omega,K,by omega,by have:=V.out;have:zca x=x.size:=rfl;rw[U.out,X.out];omega,E.out⟩
    case measure=>omega
   ·go_wp2
    go_ret
    exact⟨⟨-1,rfl,by omega,by omega,fun h=>by omega⟩,E.out⟩
  ·have q: ¬(j:Int)<(l.length:Int):=by omega
   obtain rfl:j=l.length:=by omega
   go_wp2
   go_ret
   exact⟨⟨z,rfl,by omega,L,fun _=>by have:=V.out;rw[List.take_length] at this;exact this⟩,E.out⟩
def zdz (x:Im):Prop:=x.spec.size≤9223372036854775807∧x.first.size≤9223372036854775807∧x.loc.size≤9223372036854775807
theorem zpW (x:Im) (left:Int) (w:World) (j:zdz x) (A:0≤left) (q:left≤1048576):
  Calls Tryz.prog 96 #[.agg #[.string x.spec,.string x.first,.string x.loc],.int .i64 left] w fun e n=>zcG left (zbE x) e∧Below w.heap.size w n:=by
 unfold zdz at j
 obtain⟨z,D,o⟩:=j
 go_enter Tryz.func96,Tryz.ntmps96
 go_wp2
 ·go_ret
  exact⟨⟨-1,rfl,by omega,by omega,fun h=>by omega⟩,(Below.refl _ _).alloc (Nat.le_refl _) _⟩
 ·go_ret
  exact⟨⟨-1,rfl,by omega,by omega,fun h=>by omega⟩,(Below.refl _ _).alloc (Nat.le_refl _) _⟩
 ·go_ret
  exact⟨⟨-1,rfl,by omega,by omega,fun h=>by omega⟩,(Below.refl _ _).alloc (Nat.le_refl _) _⟩
 ·go_ret
  exact⟨⟨_,rfl,by omega,by omega,fun _=>by unfold zbE;omega⟩,(Below.refl _ _).alloc (Nat.le_refl _) _⟩
theorem zpX (a:Option Addr) (V:Nat) (l:List Im) (left:Int) (w:World) (hr:RowAt w a imL 3 l) (hl:l.length≤9223372036854775807) (H: ∀x∈l,zdz x) (h0:0≤left) (h1:left≤1048576):
  Calls Tryz.prog 41 #[.slice a l.length V,.int .i64 left] w fun e w'=>zcG left (l.length+zQ zbE l) e∧Below w.heap.size w w':=by
 have HR:=zc hr
 have HG:=zc H
 clear hr H
 by_cases ac:(l.length:Int)≤left
 case neg=>
  go_enter Tryz.func41,Tryz.ntmps41
  go_wp2
  go_ret
  exact⟨⟨-1,rfl,by omega,by omega,fun h=>by omega⟩,Below.refl _ _⟩
 go_enter Tryz.func41,Tryz.ntmps41
 go_wp2
 go_loopg [1,5] l.length (fun k s1 s5 wr=>∃(j:Nat) (z:Int),s5= .int .i64 j∧s1= .int .i64 z∧j+k=l.length∧0≤z∧z≤left∧z+((l.length+zQ zbE (l.take j):Nat):Int)=left∧Below w.heap.size w wr)
 case atStart=>exact⟨0,_,rfl,rfl,by omega,by omega,by omega,by simp[zQ],Below.refl _ _⟩
 case round=>
  obtain⟨j,z,rfl,rfl,hj,O,X,A,H⟩:=hrel
  have HZ:=zc A
  have K:=zc H
  clear A H
  by_cases Y:j<l.length
  ·have E:(j:Int)<(l.length:Int):=by omega
   obtain⟨x,N⟩: ∃x,l[j]? =some x:=⟨_,List.getElem?_eq_getElem Y⟩
   obtain⟨b,ad,rfl,L⟩:=(HR.out.later K.out).get N
   have n:=HG.out x (List.mem_of_getElem? N)
   have HC:=zc (zeC zbE N)
   have Z:=L 0 _ rfl
   have c1:=L 1 _ rfl
   have c2:=L 2 _ rfl
   simp only[Nat.add_zero] at Z
   clear L N
   obtain⟨M,q⟩: ∃M,M=j+1:=⟨_,rfl⟩
   have ej:(j:Int)+1=(M:Int):=by omega
   have HJ:=zc q
   clear q
   go_wp2_with fail
   refine (zpW x z _ n O (by omega)).mono ?_
   rintro e w1 ⟨⟨z1,rfl,ab,aa,J⟩,D⟩
   have I:=zc (K.out.trans (D.mono K.out.size))
   have U:=zc J
   clear D J n Z c1 c2
   by_cases o:0≤z1
   ·go_wp2
    go_roundg (gk-1)
    case rel=>exact⟨M,z1,rfl,rfl,by have:=HJ.out;omega,o,by omega,by have:=HZ.out;have:=U.out o;rw[HJ.out,HC.out];omega,I.out⟩
    case measure=>omega
   ·go_wp2
    go_ret
    exact⟨⟨-1,rfl,by omega,by omega,fun h=>by omega⟩,I.out⟩
  ·have E: ¬(j:Int)<(l.length:Int):=by omega
   obtain rfl:j=l.length:=by omega
   go_wp2
   go_ret
   exact⟨⟨z,rfl,by omega,X,fun _=>by have:=HZ.out;rw[List.take_length] at this;exact this⟩,K.out⟩
def zd0 (x:Ep):Prop:=x.name.size≤9223372036854775807∧x.loc.size≤9223372036854775807∧x.spec.size≤9223372036854775807
theorem zpY (x:Ep) (left:Int) (w:World) (j:zd0 x) (A:0≤left) (q:left≤1048576):
  Calls Tryz.prog 97 #[.agg #[.int .i64 x.kind,.string x.name,.string x.loc,.string x.spec],.int .i64 left] w fun e n=>zcG left (zbF x) e∧Below w.heap.size w n:=by
 unfold zd0 at j
 obtain⟨z,D,o⟩:=j
 go_enter Tryz.func97,Tryz.ntmps97
 go_wp2
 ·go_ret
  exact⟨⟨-1,rfl,by omega,by omega,fun h=>by omega⟩,(Below.refl _ _).alloc (Nat.le_refl _) _⟩
 ·go_ret
  exact⟨⟨-1,rfl,by omega,by omega,fun h=>by omega⟩,(Below.refl _ _).alloc (Nat.le_refl _) _⟩
 ·go_ret
  exact⟨⟨-1,rfl,by omega,by omega,fun h=>by omega⟩,(Below.refl _ _).alloc (Nat.le_refl _) _⟩
 ·go_ret
  exact⟨⟨_,rfl,by omega,by omega,fun _=>by unfold zbF;omega⟩,(Below.refl _ _).alloc (Nat.le_refl _) _⟩
theorem zpZ (a:Option Addr) (V:Nat) (l:List Ep) (left:Int) (w:World) (hr:RowAt w a epL 4 l) (hl:l.length≤9223372036854775807) (I: ∀x∈l,zd0 x) (h0:0≤left) (h1:left≤1048576):
  Calls Tryz.prog 42 #[.slice a l.length V,.int .i64 left] w fun e w'=>zcG left (l.length+zQ zbF l) e∧Below w.heap.size w w':=by
 have HR:=zc hr
 have HG:=zc I
 clear hr I
 by_cases ac:(l.length:Int)≤left
 case neg=>
  go_enter Tryz.func42,Tryz.ntmps42
  go_wp2
  go_ret
  exact⟨⟨-1,rfl,by omega,by omega,fun h=>by omega⟩,Below.refl _ _⟩
 go_enter Tryz.func42,Tryz.ntmps42
 go_wp2
 go_loopg [1,5] l.length (fun k s1 s5 wr=>∃(j:Nat) (z:Int),s5= .int .i64 j∧s1= .int .i64 z∧j+k=l.length∧0≤z∧z≤left∧z+((l.length+zQ zbF (l.take j):Nat):Int)=left∧Below w.heap.size w wr)
 case atStart=>exact⟨0,_,rfl,rfl,by omega,by omega,by omega,by simp[zQ],Below.refl _ _⟩
 case round=>
  obtain⟨j,z,rfl,rfl,hj,O,X,A,I⟩:=hrel
  have HZ:=zc A
  have L:=zc I
  clear A I
  by_cases Y:j<l.length
  ·have H:(j:Int)<(l.length:Int):=by omega
   obtain⟨x,N⟩: ∃x,l[j]? =some x:=⟨_,List.getElem?_eq_getElem Y⟩
   obtain⟨b,ad,rfl,E⟩:=(HR.out.later L.out).get N
   have n:=HG.out x (List.mem_of_getElem? N)
   have HC:=zc (zeC zbF N)
   have Z:=E 0 _ rfl
   have c1:=E 1 _ rfl
   have c2:=E 2 _ rfl
   have c3:=E 3 _ rfl
   simp only[Nat.add_zero] at Z
   clear E N
   obtain⟨M,q⟩: ∃M,M=j+1:=⟨_,rfl⟩
   have ej:(j:Int)+1=(M:Int):=by omega
   have HJ:=zc q
   clear q
   go_wp2_with fail
   refine (zpY x z _ n O (by omega)).mono ?_
   rintro e w1 ⟨⟨z1,rfl,ab,aa,K⟩,D⟩
   have J:=zc (L.out.trans (D.mono L.out.size))
   have U:=zc K
   clear D K n Z c1 c2 c3
   by_cases o:0≤z1
   ·go_wp2
    go_roundg (gk-1)
    case rel=>exact⟨M,z1,rfl,rfl,by have:=HJ.out;omega,o,by omega,by have:=HZ.out;have:=U.out o;rw[HJ.out,HC.out];omega,J.out⟩
    case measure=>omega
   ·go_wp2
    go_ret
    exact⟨⟨-1,rfl,by omega,by omega,fun h=>by omega⟩,J.out⟩
  ·have H: ¬(j:Int)<(l.length:Int):=by omega
   obtain rfl:j=l.length:=by omega
   go_wp2
   go_ret
   exact⟨⟨z,rfl,by omega,X,fun _=>by have:=HZ.out;rw[List.take_length] at this;exact this⟩,L.out⟩
def zd1 (x:Sm):Prop:=x.name.size≤9223372036854775807
theorem zqa (x:Sm) (left:Int) (w:World) (n:zd1 x) (q:0≤left) (o:left≤1048576):
  Calls Tryz.prog 98 #[.agg #[.int .i64 x.kind,.string x.name,.int .i64 x.expr],.int .i64 left] w fun e j=>zcG left (zcb x) e∧Below w.heap.size w j:=by
 unfold zd1 at n
 go_enter Tryz.func98,Tryz.ntmps98
 go_wp2
 ·go_ret
  exact⟨⟨-1,rfl,by omega,by omega,fun h=>by omega⟩,(Below.refl _ _).alloc (Nat.le_refl _) _⟩
 ·go_ret
  exact⟨⟨_,rfl,by omega,by omega,fun _=>by unfold zcb;omega⟩,(Below.refl _ _).alloc (Nat.le_refl _) _⟩
theorem zqb (a:Option Addr) (V:Nat) (l:List Sm) (left:Int) (w:World) (hr:RowAt w a smL 3 l) (hl:l.length≤9223372036854775807) (H: ∀x∈l,zd1 x) (h0:0≤left) (h1:left≤1048576):
  Calls Tryz.prog 43 #[.slice a l.length V,.int .i64 left] w fun e w'=>zcG left (l.length+zQ zcb l) e∧Below w.heap.size w w':=by
 have HR:=zc hr
 have HG:=zc H
 clear hr H
 by_cases ac:(l.length:Int)≤left
 case neg=>
  go_enter Tryz.func43,Tryz.ntmps43
  go_wp2
  go_ret
  exact⟨⟨-1,rfl,by omega,by omega,fun h=>by omega⟩,Below.refl _ _⟩
 go_enter Tryz.func43,Tryz.ntmps43
 go_wp2
 go_loopg [1,5] l.length (fun k s1 s5 wr=>∃(j:Nat) (z:Int),s5= .int .i64 j∧s1= .int .i64 z∧j+k=l.length∧0≤z∧z≤left∧z+((l.length+zQ zcb (l.take j):Nat):Int)=left∧Below w.heap.size w wr)
 case atStart=>exact⟨0,_,rfl,rfl,by omega,by omega,by omega,by simp[zQ],Below.refl _ _⟩
 case round=>
  obtain⟨j,z,rfl,rfl,hj,O,X,A,H⟩:=hrel
  have HZ:=zc A
  have K:=zc H
  clear A H
  by_cases Y:j<l.length
  ·have E:(j:Int)<(l.length:Int):=by omega
   obtain⟨x,N⟩: ∃x,l[j]? =some x:=⟨_,List.getElem?_eq_getElem Y⟩
   obtain⟨b,ad,rfl,L⟩:=(HR.out.later K.out).get N
   have n:=HG.out x (List.mem_of_getElem? N)
   have HC:=zc (zeC zcb N)
   have Z:=L 0 _ rfl
   have c1:=L 1 _ rfl
   have c2:=L 2 _ rfl
   simp only[Nat.add_zero] at Z
   clear L N
   obtain⟨M,q⟩: ∃M,M=j+1:=⟨_,rfl⟩
   have ej:(j:Int)+1=(M:Int):=by omega
   have HJ:=zc q
   clear q
   go_wp2_with fail
   refine (zqa x z _ n O (by omega)).mono ?_
   rintro e w1 ⟨⟨z1,rfl,ab,aa,J⟩,D⟩
   have I:=zc (K.out.trans (D.mono K.out.size))
   have U:=zc J
   clear D J n Z c1 c2
   by_cases o:0≤z1
   ·go_wp2
    go_roundg (gk-1)
    case rel=>exact⟨M,z1,rfl,rfl,by have:=HJ.out;omega,o,by omega,by have:=HZ.out;have:=U.out o;rw[HJ.out,HC.out];omega,I.out⟩
    case measure=>omega
   ·go_wp2
    go_ret
    exact⟨⟨-1,rfl,by omega,by omega,fun h=>by omega⟩,I.out⟩
  ·have E: ¬(j:Int)<(l.length:Int):=by omega
   obtain rfl:j=l.length:=by omega
   go_wp2
   go_ret
   exact⟨⟨z,rfl,by omega,X,fun _=>by have:=HZ.out;rw[List.take_length] at this;exact this⟩,K.out⟩
def zd2 (x:Ex):Prop:=x.name.size≤9223372036854775807∧x.field.size≤9223372036854775807
theorem zqc (x:Ex) (left:Int) (w:World) (j:zd2 x) (z:0≤left) (o:left≤1048576):
  Calls Tryz.prog 99 #[.agg #[.int .i64 x.kind,.int .i64 x.num,.string x.name,.string x.field,.int .i64 x.l,.int .i64 x.r],.int .i64 left] w fun e n=>zcG left (zcw x) e∧Below w.heap.size w n:=by
 unfold zd2 at j
 obtain⟨q,A⟩:=j
 go_enter Tryz.func99,Tryz.ntmps99
 go_wp2
 ·go_ret
  exact⟨⟨-1,rfl,by omega,by omega,fun h=>by omega⟩,(Below.refl _ _).alloc (Nat.le_refl _) _⟩
 ·go_ret
  exact⟨⟨-1,rfl,by omega,by omega,fun h=>by omega⟩,(Below.refl _ _).alloc (Nat.le_refl _) _⟩
 ·go_ret
  exact⟨⟨_,rfl,by omega,by omega,fun _=>by unfold zcw;omega⟩,(Below.refl _ _).alloc (Nat.le_refl _) _⟩
theorem zqd (a:Option Addr) (V:Nat) (l:List Ex) (left:Int) (w:World) (hr:RowAt w a exL 6 l) (hl:l.length≤9223372036854775807) (I: ∀x∈l,zd2 x) (h0:0≤left) (h1:left≤1048576):
  Calls Tryz.prog 44 #[.slice a l.length V,.int .i64 left] w fun e w'=>zcG left (l.length+zQ zcw l) e∧Below w.heap.size w w':=by
 have HR:=zc hr
 have HG:=zc I
 clear hr I
 by_cases ac:(l.length:Int)≤left
 case neg=>
  go_enter Tryz.func44,Tryz.ntmps44
  go_wp2
  go_ret
  exact⟨⟨-1,rfl,by omega,by omega,fun h=>by omega⟩,Below.refl _ _⟩
 go_enter Tryz.func44,Tryz.ntmps44
 go_wp2
 go_loopg [1,5] l.length (fun k s1 s5 wr=>∃(j:Nat) (z:Int),s5= .int .i64 j∧s1= .int .i64 z∧j+k=l.length∧0≤z∧z≤left∧z+((l.length+zQ zcw (l.take j):Nat):Int)=left∧Below w.heap.size w wr)
 case atStart=>exact⟨0,_,rfl,rfl,by omega,by omega,by omega,by simp[zQ],Below.refl _ _⟩
 case round=>
  obtain⟨j,z,rfl,rfl,hj,O,X,D,I⟩:=hrel
  have HZ:=zc D
  have L:=zc I
  clear D I
  by_cases Y:j<l.length
  ·have H:(j:Int)<(l.length:Int):=by omega
   obtain⟨x,N⟩: ∃x,l[j]? =some x:=⟨_,List.getElem?_eq_getElem Y⟩
   obtain⟨b,ad,rfl,o⟩:=(HR.out.later L.out).get N
   have n:=HG.out x (List.mem_of_getElem? N)
   have HC:=zc (zeC zcw N)
   have Z:=o 0 _ rfl
   have c1:=o 1 _ rfl
   have c2:=o 2 _ rfl
   have c3:=o 3 _ rfl
   have c4:=o 4 _ rfl
   have c5:=o 5 _ rfl
   simp only[Nat.add_zero] at Z
   clear o N
   obtain⟨M,A⟩: ∃M,M=j+1:=⟨_,rfl⟩
   have ej:(j:Int)+1=(M:Int):=by omega
   have HJ:=zc A
   clear A
   go_wp2_with fail
   refine (zqc x z _ n O (by omega)).mono ?_
   rintro e w1 ⟨⟨z1,rfl,ab,aa,K⟩,E⟩
   have J:=zc (L.out.trans (E.mono L.out.size))
   have U:=zc K
   clear E K n Z c1 c2 c3 c4 c5
   by_cases q:0≤z1
   ·go_wp2
    go_roundg (gk-1)
    case rel=>exact⟨M,z1,rfl,rfl,by have:=HJ.out;omega,q,by omega,by have:=HZ.out;have:=U.out q;rw[HJ.out,HC.out];omega,J.out⟩
    case measure=>omega
   ·go_wp2
    go_ret
    exact⟨⟨-1,rfl,by omega,by omega,fun h=>by omega⟩,J.out⟩
  ·have H: ¬(j:Int)<(l.length:Int):=by omega
   obtain rfl:j=l.length:=by omega
   go_wp2
   go_ret
   exact⟨⟨z,rfl,by omega,X,fun _=>by have:=HZ.out;rw[List.take_length] at this;exact this⟩,L.out⟩
structure MA where
 a0:Option Addr
 a1:Option Addr
 a2:Option Addr
 a3:Option Addr
 a4:Option Addr
 c0:Nat
 c1:Nat
 c2:Nat
 c3:Nat
 c4:Nat
def zcZ (A:MA) (m:Md):Value:=.agg #[.slice A.a0 m.rq.length A.c0,.slice A.a1 m.im.length A.c1,.slice A.a2 m.ep.length A.c2,.slice A.a3 m.st.length A.c3,.slice A.a4 m.ex.length A.c4]
def ModIn (w:World) (A:MA) (m:Md):Prop:=RowAt w A.a0 (fun x=>[Value.string x]) 1 m.rq∧RowAt w A.a1 imL 3 m.im∧RowAt w A.a2 epL 4 m.ep∧RowAt w A.a3 smL 3 m.st∧RowAt w A.a4 exL 6 m.ex
theorem ModIn.later {w n:World} {A:MA} {m:Md} (h:ModIn w A m) (j:Below w.heap.size w n):ModIn n A m:=⟨h.1.later j,h.2.1.later j,h.2.2.1.later j,h.2.2.2.1.later j,h.2.2.2.2.later j⟩
def zf3 (m:Md):Prop:=(m.rq.length≤9223372036854775807∧∀x∈m.rq,zea x)∧(m.im.length≤9223372036854775807∧∀x∈m.im,zdz x)∧(m.ep.length≤9223372036854775807∧∀x∈m.ep,zd0 x)∧(m.st.length≤9223372036854775807∧∀x∈m.st,zd1 x)∧(m.ex.length≤9223372036854775807∧∀x∈m.ex,zd2 x)
theorem zqe (A:MA) (m:Md) (left:Int) (w:World) (hr:ModIn w A m) (j:zf3 m) (h0:0≤left) (h1:left≤1048576):
  Calls Tryz.prog 11 #[zcZ A m,.int .i64 left] w fun e w'=>zcG left (zcQ m) e∧Below w.heap.size w w':=by
 have HR:=zc hr
 have z:=zc j
 clear hr j
 unfold zcZ
 go_enter Tryz.func11,Tryz.ntmps11
 go_upto_region 1 with fail
 have V:Hid (Below w.heap.size w (w.alloc (.cells #[.slice A.a0 m.rq.length A.c0,.slice A.a1 m.im.length A.c1,.slice A.a2 m.ep.length A.c2,.slice A.a3 m.st.length A.c3,.slice A.a4 m.ex.length A.c4] 39))):=(Below.refl _ _).alloc (Nat.le_refl _) _
 refine zah (R:=fun W=>W.heap[w.heap.size]? =some (.cells #[.slice A.a0 m.rq.length A.c0,.slice A.a1 m.im.length A.c1,.slice A.a2 m.ep.length A.c2,.slice A.a3 m.st.length A.c3,.slice A.a4 m.ex.length A.c4] 39 (0,0))∧ModIn W A m∧Below w.heap.size w W) ⟨heap_alloc_new w _,HR.out.later V.out,V.out⟩ ?_
 obtain⟨gx,M⟩: ∃gx,gx=w.heap.size:=⟨_,rfl⟩
 rw[←M]
 rintro w0 ⟨hx,hm,j⟩
 rw[M] at j
 clear M V HR
 have Y:=zc hx
 have M0:=zc hm
 have O:=zc j
 clear hx hm j
 obtain⟨n,E,o,H,q,D⟩:=zk Y.out
 go_wp2_with fail
 refine (zpV A.a0 A.c0 m.rq left w0 M0.out.1 z.out.1.1 z.out.1.2 (by omega) (by omega)).mono ?_
 rintro e w1 ⟨⟨z0,rfl,y0,u0,v0⟩,j⟩
 have L:=zc (O.out.trans (j.mono O.out.size))
 have M1:=zc (M0.out.later j)
 have X:=zc ((j.block _ (Array.getElem?_eq_some_iff.1 Y.out).1).trans Y.out)
 have V0:=zc v0
 clear j v0 n E o H q D
 obtain⟨n,E,o,H,q,D⟩:=zk X.out
 by_cases t0:0≤z0
 case neg=>
  go_wp2
  go_ret
  exact⟨⟨-1,rfl,by omega,by omega,fun h=>by omega⟩,L.out⟩
 go_wp2_with fail
 refine (zpX A.a1 A.c1 m.im z0 w1 M1.out.2.1 z.out.2.1.1 z.out.2.1.2 (by omega) (by omega)).mono ?_
 rintro e w2 ⟨⟨z1,rfl,y1,u1,v1⟩,j⟩
 have K:=zc (L.out.trans (j.mono L.out.size))
 have M2:=zc (M1.out.later j)
 have X2:=zc ((j.block _ (Array.getElem?_eq_some_iff.1 X.out).1).trans X.out)
 have V1:=zc v1
 clear j v1 n E o H q D
 obtain⟨n,E,o,H,q,D⟩:=zk X2.out
 by_cases t1:0≤z1
 case neg=>
  go_wp2
  go_ret
  exact⟨⟨-1,rfl,by omega,by omega,fun h=>by omega⟩,K.out⟩
 go_wp2_with fail
 refine (zpZ A.a2 A.c2 m.ep z1 w2 M2.out.2.2.1 z.out.2.2.1.1 z.out.2.2.1.2 (by omega) (by omega)).mono ?_
 rintro e w3 ⟨⟨z2,rfl,y2,u2,v2⟩,j⟩
 have I:=zc (K.out.trans (j.mono K.out.size))
 have M3:=zc (M2.out.later j)
 have Z:=zc ((j.block _ (Array.getElem?_eq_some_iff.1 X2.out).1).trans X2.out)
 have V2:=zc v2
 clear j v2 n E o H q D
 obtain⟨n,E,o,H,q,D⟩:=zk Z.out
 by_cases t2:0≤z2
 case neg=>
  go_wp2
  go_ret
  exact⟨⟨-1,rfl,by omega,by omega,fun h=>by omega⟩,I.out⟩
 go_wp2_with fail
 refine (zqb A.a3 A.c3 m.st z2 w3 M3.out.2.2.2.1 z.out.2.2.2.1.1 z.out.2.2.2.1.2 (by omega) (by omega)).mono ?_
 rintro e w4 ⟨⟨z3,rfl,y3,u3,v3⟩,j⟩
 have J:=zc (I.out.trans (j.mono I.out.size))
 have M4:=zc (M3.out.later j)
 have U:=zc ((j.block _ (Array.getElem?_eq_some_iff.1 Z.out).1).trans Z.out)
 have V3:=zc v3
 clear j v3 n E o H q D
 obtain⟨n,E,o,H,q,D⟩:=zk U.out
 by_cases t3:0≤z3
 case neg=>
  go_wp2
  go_ret
  exact⟨⟨-1,rfl,by omega,by omega,fun h=>by omega⟩,J.out⟩
 go_wp2_with fail
 refine (zqd A.a4 A.c4 m.ex z3 w4 M4.out.2.2.2.2 z.out.2.2.2.2.1 z.out.2.2.2.2.2 (by omega) (by omega)).mono ?_
 rintro e w5 ⟨⟨z4,rfl,y4,u4,v4⟩,j⟩
 have N:=zc (J.out.trans (j.mono J.out.size))
 have M5:=zc (M4.out.later j)
 have X5:=zc ((j.block _ (Array.getElem?_eq_some_iff.1 U.out).1).trans U.out)
 have V4:=zc v4
 clear j v4 n E o H q D
 obtain⟨n,E,o,H,q,D⟩:=zk X5.out
 by_cases t4:0≤z4
 case neg=>
  go_wp2
  go_ret
  exact⟨⟨-1,rfl,by omega,by omega,fun h=>by omega⟩,N.out⟩
 go_wp2
 go_ret
 exact⟨⟨z4,rfl,by omega,by omega,fun _=>by have q0:=V0.out t0;have q1:=V1.out t1;have q2:=V2.out t2;have q3:=V3.out t3;have q4:=V4.out t4;unfold zcQ;omega⟩,N.out⟩
theorem Tryz.infoTStr:(Tryz.prog.info? 9).map (fun i=>(i.zero,i.size,i.bytes))=some (some (.string {data:=#[]}),1,16):=by kernel_rfl
theorem zqf (a:Option Addr) (O:Nat) (l:List ByteArray) (w:World) (hr:RowAt w a (fun x=>[Value.string x]) 1 l) (hl:l.length≤1048576):
  Calls Tryz.prog 46 #[.slice a l.length O] w fun e w'=>zeA w 9 1 l.length (l.flatMap (fun x=>[Value.string x])) e w':=by
 have HR:=zc hr
 clear hr
 obtain⟨i0,hi,K,X,J⟩:=info_parts Tryz.infoTStr
 go_enter Tryz.func46,Tryz.ntmps46
 go_wp2_with (first|(at_make;refine wpList_make_full w rfl _ _ 22 rfl w.heap.size 9 i0 _ 1 Tryz.underlying22 hi K X .i64 .i64 _ _ l.length (by rfl) (by rfl) rfl rfl (by rw[J];omega) (by unfold maxLen;omega) (Nat.le_refl _) ?_))
 intro L n o
 have U:=zc ((Below.refl _ _).grown o (Nat.le_refl _) (fun k h=>by cases h):Below w.heap.size w L)
 have q:Hid (OwnC L w.heap.size 9 1 w.heap.size l.length (l.flatMap (fun x=>[Value.string x])) 0):=⟨_,n,fun j hj=>absurd hj (Nat.not_lt_zero j)⟩
 clear n o
 obtain⟨g,D⟩: ∃g,g=w.heap.size:=⟨_,rfl⟩
 have M:=zc D
 rw[←D]
 rw[←D] at q
 have N:Hid (OwnC L w.heap.size 9 1 g l.length (l.flatMap (fun x=>[Value.string x])) 0):=by rw[←D];exact q.out
 clear D q
 go_wp2
 go_loopg [4] l.length (fun k i wr=>∃j:Nat,i= .int .i64 j∧j+k=l.length∧OwnC wr w.heap.size 9 1 g l.length (l.flatMap (fun x=>[Value.string x])) (j*1)∧Below w.heap.size w wr)
 case atStart=>exact⟨0,rfl,by omega,N.out,U.out⟩
 case round=>
  obtain⟨j,rfl,hj,ho,hb⟩:=hrel
  have H:=zc ho
  have I:=zc hb
  clear ho hb
  by_cases Y:j<l.length
  ·have A:(j:Int)<(l.length:Int):=by omega
   obtain⟨x,Z⟩: ∃x,l[j]? =some x:=⟨_,List.getElem?_eq_getElem Y⟩
   obtain⟨b,aa,rfl,hc⟩:=(HR.out.later I.out).get Z
   have HX:=zc Z
   clear Z
   have c0:=hc 0 _ rfl
   simp only[Nat.add_zero,Nat.mul_one] at c0
   clear hc
   obtain⟨E,z⟩: ∃E,E=j+1:=⟨_,rfl⟩
   have ej:(j:Int)+1=(E:Int):=by omega
   have HJ:=zc z
   clear z
   obtain⟨v0,g0⟩:=H.out.has (j*1) (by omega)
   have f0:=H.out.free (j*1)
   have HN:=zc (H.out.put (by omega) (zbx (f:=(fun x=>[Value.string x])) (m:=1) (fun _=>rfl) l j x 0 _ HX.out rfl))
   simp only[Nat.mul_one] at g0 f0
   have V:w.heap.size≤g:=by have:=M.out;omega
   go_wp2
   go_roundg (gk-1)
   case rel=>exact⟨E,rfl,by have:=HJ.out;omega,by have:=HN.out;simp only[Nat.mul_one] at this;rw[HJ.out,Nat.mul_one];exact this,(I.out.setCell V _)⟩
   case measure=>omega
  ·have A: ¬(j:Int)<(l.length:Int):=by omega
   obtain rfl:j=l.length:=by omega
   go_wp2
   go_ret
   exact⟨g,rfl,H.out.all (ze9 (f:=(fun x=>[Value.string x])) (fun _=>rfl) l),I.out⟩
theorem Tryz.infoTIm:(Tryz.prog.info? 100).map (fun i=>(i.zero,i.size,i.bytes))=some (some (.agg #[.string {data:=#[]},.string {data:=#[]},.string {data:=#[]}]),3,48):=by kernel_rfl
theorem zqg (x:Im) (w:World):
  Calls Tryz.prog 100 #[.agg #[.string x.spec,.string x.first,.string x.loc]] w fun e h=>e= .returned (.agg #[.string x.spec,.string x.first,.string x.loc])∧Below w.heap.size w h:=by
 go_enter Tryz.func100,Tryz.ntmps100
 go_wp2
 refine bodyPost_ret (results_cell_row rfl _ _ (w.heap.size+1) 100 #[.string x.spec,.string x.first,.string x.loc] (0,0) _ rfl ?_ Tryz.underlying100 rfl (by kernel_rfl)) rfl ?_
 ·rw[heap_alloc_old _ _ (by show _<((w.heap.push _).push _).size;simp)]
  exact heap_alloc2_new w _ _
 ·exact⟨rfl,(((Below.refl _ _).alloc (Nat.le_refl _) _).alloc (by show _≤(w.heap.push _).size;simp) _).alloc (by show _≤((w.heap.push _).push _).size;simp;omega) _⟩
theorem zqh (a:Option Addr) (X:Nat) (l:List Im) (w:World) (hr:RowAt w a imL 3 l) (hl:l.length≤1048576):
  Calls Tryz.prog 47 #[.slice a l.length X] w fun e w'=>zeA w 100 3 l.length (l.flatMap imL) e w':=by
 have HR:=zc hr
 clear hr
 obtain⟨i0,hi,N,aa,M⟩:=info_parts Tryz.infoTIm
 go_enter Tryz.func47,Tryz.ntmps47
 go_wp2_with (first|(at_make;refine wpList_make_full w rfl _ _ 23 rfl w.heap.size 100 i0 _ 3 Tryz.underlying23 hi N aa .i64 .i64 _ _ l.length (by rfl) (by rfl) rfl rfl (by rw[M];omega) (by unfold maxLen;omega) (Nat.le_refl _) ?_))
 intro O o q
 have Z:=zc ((Below.refl _ _).grown q (Nat.le_refl _) (fun k h=>by cases h):Below w.heap.size w O)
 have z:Hid (OwnC O w.heap.size 100 3 w.heap.size l.length (l.flatMap imL) 0):=⟨_,o,fun j hj=>absurd hj (Nat.not_lt_zero j)⟩
 clear o q
 obtain⟨g,I⟩: ∃g,g=w.heap.size:=⟨_,rfl⟩
 have U:=zc I
 rw[←I]
 rw[←I] at z
 have V:Hid (OwnC O w.heap.size 100 3 g l.length (l.flatMap imL) 0):=by rw[←I];exact z.out
 clear I z
 go_wp2
 go_loopg [4] l.length (fun k i wr=>∃j:Nat,i= .int .i64 j∧j+k=l.length∧OwnC wr w.heap.size 100 3 g l.length (l.flatMap imL) (j*3)∧Below w.heap.size w wr)
 case atStart=>exact⟨0,rfl,by omega,V.out,Z.out⟩
 case round=>
  obtain⟨j,rfl,hj,ho,hb⟩:=hrel
  have HO:=zc ho
  have J:=zc hb
  clear ho hb
  by_cases ab:j<l.length
  ·have H:(j:Int)<(l.length:Int):=by omega
   obtain⟨x,hx⟩: ∃x,l[j]? =some x:=⟨_,List.getElem?_eq_getElem ab⟩
   obtain⟨b,ac,rfl,K⟩:=(HR.out.later J.out).get hx
   have HX:=zc hx
   clear hx
   have c0:=K 0 _ rfl
   have c1:=K 1 _ rfl
   have c2:=K 2 _ rfl
   simp only[Nat.add_zero] at c0
   clear K
   obtain⟨L,E⟩: ∃L,L=j+1:=⟨_,rfl⟩
   have ej:(j:Int)+1=(L:Int):=by omega
   have HJ:=zc E
   clear E
   go_wp2_with fail
   refine (zqg x _).mono ?_
   rintro e w2 ⟨rfl,D⟩
   have n:=zc (HO.out.later D)
   have Y:=zc (J.out.trans (D.mono J.out.size))
   clear D c0 c1 c2
   obtain⟨v0,g0⟩:=n.out.has (j*3) (by omega)
   have f0:=n.out.free (j*3)
   obtain⟨v1,g1⟩:=n.out.has (j*3+1) (by omega)
   have f1:=n.out.free (j*3+1)
   obtain⟨v2,g2⟩:=n.out.has (j*3+2) (by omega)
   have f2:=n.out.free (j*3+2)
   have HN:=zc (((n.out.put (by omega) (zbx (f:=imL) (m:=3) (fun _=>rfl) l j x 0 _ HX.out rfl)).put (by omega) (zbx (f:=imL) (m:=3) (fun _=>rfl) l j x 1 _ HX.out rfl)).put (by omega) (zbx (f:=imL) (m:=3) (fun _=>rfl) l j x 2 _ HX.out rfl))
   have A:w.heap.size≤g:=by have:=U.out;omega
   go_wp2
   go_roundg (gk-1)
   case rel=>exact⟨L,rfl,by have:=HJ.out;omega,by rw[HJ.out,Nat.succ_mul];exact HN.out,(((Y.out.setCell A _).setCell A _).setCell A _)⟩
   case measure=>omega
  ·have H: ¬(j:Int)<(l.length:Int):=by omega
   obtain rfl:j=l.length:=by omega
   go_wp2
   go_ret
   exact⟨g,rfl,HO.out.all (ze9 (f:=imL) (fun _=>rfl) l),J.out⟩
theorem Tryz.infoTEp:(Tryz.prog.info? 102).map (fun i=>(i.zero,i.size,i.bytes))=some (some (.agg #[.int .i64 0,.string {data:=#[]},.string {data:=#[]},.string {data:=#[]}]),4,56):=by kernel_rfl
theorem zqi (x:Ep) (w:World):
  Calls Tryz.prog 101 #[.agg #[.int .i64 x.kind,.string x.name,.string x.loc,.string x.spec]] w fun e h=>e= .returned (.agg #[.int .i64 x.kind,.string x.name,.string x.loc,.string x.spec])∧Below w.heap.size w h:=by
 go_enter Tryz.func101,Tryz.ntmps101
 go_wp2
 refine bodyPost_ret (results_cell_row rfl _ _ (w.heap.size+1) 102 #[.int .i64 x.kind,.string x.name,.string x.loc,.string x.spec] (0,0) _ rfl ?_ Tryz.underlying102 rfl (by kernel_rfl)) rfl ?_
 ·rw[heap_alloc_old _ _ (by show _<((w.heap.push _).push _).size;simp)]
  exact heap_alloc2_new w _ _
 ·exact⟨rfl,(((Below.refl _ _).alloc (Nat.le_refl _) _).alloc (by show _≤(w.heap.push _).size;simp) _).alloc (by show _≤((w.heap.push _).push _).size;simp;omega) _⟩
theorem zqj (a:Option Addr) (Y:Nat) (l:List Ep) (w:World) (hr:RowAt w a epL 4 l) (hl:l.length≤1048576):
  Calls Tryz.prog 48 #[.slice a l.length Y] w fun e w'=>zeA w 102 4 l.length (l.flatMap epL) e w':=by
 have HR:=zc hr
 clear hr
 obtain⟨i0,hi,O,ab,N⟩:=info_parts Tryz.infoTEp
 go_enter Tryz.func48,Tryz.ntmps48
 go_wp2_with (first|(at_make;refine wpList_make_full w rfl _ _ 24 rfl w.heap.size 102 i0 _ 4 Tryz.underlying24 hi O ab .i64 .i64 _ _ l.length (by rfl) (by rfl) rfl rfl (by rw[N];omega) (by unfold maxLen;omega) (Nat.le_refl _) ?_))
 intro U o z
 have aa:=zc ((Below.refl _ _).grown z (Nat.le_refl _) (fun k h=>by cases h):Below w.heap.size w U)
 have A:Hid (OwnC U w.heap.size 102 4 w.heap.size l.length (l.flatMap epL) 0):=⟨_,o,fun j hj=>absurd hj (Nat.not_lt_zero j)⟩
 clear o z
 obtain⟨g,J⟩: ∃g,g=w.heap.size:=⟨_,rfl⟩
 have V:=zc J
 rw[←J]
 rw[←J] at A
 have X:Hid (OwnC U w.heap.size 102 4 g l.length (l.flatMap epL) 0):=by rw[←J];exact A.out
 clear J A
 go_wp2
 go_loopg [4] l.length (fun k i wr=>∃j:Nat,i= .int .i64 j∧j+k=l.length∧OwnC wr w.heap.size 102 4 g l.length (l.flatMap epL) (j*4)∧Below w.heap.size w wr)
 case atStart=>exact⟨0,rfl,by omega,X.out,aa.out⟩
 case round=>
  obtain⟨j,rfl,hj,ho,hb⟩:=hrel
  have HO:=zc ho
  have K:=zc hb
  clear ho hb
  by_cases ac:j<l.length
  ·have I:(j:Int)<(l.length:Int):=by omega
   obtain⟨x,hx⟩: ∃x,l[j]? =some x:=⟨_,List.getElem?_eq_getElem ac⟩
   obtain⟨b,ad,rfl,H⟩:=(HR.out.later K.out).get hx
   have M:=zc hx
   clear hx
   have c0:=H 0 _ rfl
   have c1:=H 1 _ rfl
   have c2:=H 2 _ rfl
   have c3:=H 3 _ rfl
   simp only[Nat.add_zero] at c0
   clear H
   obtain⟨L,E⟩: ∃L,L=j+1:=⟨_,rfl⟩
   have ej:(j:Int)+1=(L:Int):=by omega
   have HJ:=zc E
   clear E
   go_wp2_with fail
   refine (zqi x _).mono ?_
   rintro e w2 ⟨rfl,D⟩
   have n:=zc (HO.out.later D)
   have Z:=zc (K.out.trans (D.mono K.out.size))
   clear D c0 c1 c2 c3
   obtain⟨v0,g0⟩:=n.out.has (j*4) (by omega)
   have f0:=n.out.free (j*4)
   obtain⟨v1,g1⟩:=n.out.has (j*4+1) (by omega)
   have f1:=n.out.free (j*4+1)
   obtain⟨v2,g2⟩:=n.out.has (j*4+2) (by omega)
   have f2:=n.out.free (j*4+2)
   obtain⟨v3,g3⟩:=n.out.has (j*4+3) (by omega)
   have f3:=n.out.free (j*4+3)
   have HN:=zc ((((n.out.put (by omega) (zbx (f:=epL) (m:=4) (fun _=>rfl) l j x 0 _ M.out rfl)).put (by omega) (zbx (f:=epL) (m:=4) (fun _=>rfl) l j x 1 _ M.out rfl)).put (by omega) (zbx (f:=epL) (m:=4) (fun _=>rfl) l j x 2 _ M.out rfl)).put (by omega) (zbx (f:=epL) (m:=4) (fun _=>rfl) l j x 3 _ M.out rfl))
   have q:w.heap.size≤g:=by have:=V.out;omega
   go_wp2
   go_roundg (gk-1)
   case rel=>exact⟨L,rfl,by have:=HJ.out;omega,by rw[HJ.out,Nat.succ_mul];exact HN.out,((((Z.out.setCell q _).setCell q _).setCell q _).setCell q _)⟩
   case measure=>omega
  ·have I: ¬(j:Int)<(l.length:Int):=by omega
   obtain rfl:j=l.length:=by omega
   go_wp2
   go_ret
   exact⟨g,rfl,HO.out.all (ze9 (f:=epL) (fun _=>rfl) l),K.out⟩
theorem Tryz.infoTSm:(Tryz.prog.info? 106).map (fun i=>(i.zero,i.size,i.bytes))=some (some (.agg #[.int .i64 0,.string {data:=#[]},.int .i64 0]),3,32):=by kernel_rfl
theorem zqk (x:Sm) (w:World):
  Calls Tryz.prog 102 #[.agg #[.int .i64 x.kind,.string x.name,.int .i64 x.expr]] w fun e h=>e= .returned (.agg #[.int .i64 x.kind,.string x.name,.int .i64 x.expr])∧Below w.heap.size w h:=by
 go_enter Tryz.func102,Tryz.ntmps102
 go_wp2
 refine bodyPost_ret (results_cell_row rfl _ _ (w.heap.size+1) 106 #[.int .i64 x.kind,.string x.name,.int .i64 x.expr] (0,0) _ rfl ?_ Tryz.underlying106 rfl (by kernel_rfl)) rfl ?_
 ·rw[heap_alloc_old _ _ (by show _<((w.heap.push _).push _).size;simp)]
  exact heap_alloc2_new w _ _
 ·exact⟨rfl,(((Below.refl _ _).alloc (Nat.le_refl _) _).alloc (by show _≤(w.heap.push _).size;simp) _).alloc (by show _≤((w.heap.push _).push _).size;simp;omega) _⟩
theorem zql (a:Option Addr) (X:Nat) (l:List Sm) (w:World) (hr:RowAt w a smL 3 l) (hl:l.length≤1048576):
  Calls Tryz.prog 49 #[.slice a l.length X] w fun e w'=>zeA w 106 3 l.length (l.flatMap smL) e w':=by
 have HR:=zc hr
 clear hr
 obtain⟨i0,hi,N,aa,M⟩:=info_parts Tryz.infoTSm
 go_enter Tryz.func49,Tryz.ntmps49
 go_wp2_with (first|(at_make;refine wpList_make_full w rfl _ _ 25 rfl w.heap.size 106 i0 _ 3 Tryz.underlying25 hi N aa .i64 .i64 _ _ l.length (by rfl) (by rfl) rfl rfl (by rw[M];omega) (by unfold maxLen;omega) (Nat.le_refl _) ?_))
 intro O o q
 have Z:=zc ((Below.refl _ _).grown q (Nat.le_refl _) (fun k h=>by cases h):Below w.heap.size w O)
 have z:Hid (OwnC O w.heap.size 106 3 w.heap.size l.length (l.flatMap smL) 0):=⟨_,o,fun j hj=>absurd hj (Nat.not_lt_zero j)⟩
 clear o q
 obtain⟨g,I⟩: ∃g,g=w.heap.size:=⟨_,rfl⟩
 have U:=zc I
 rw[←I]
 rw[←I] at z
 have V:Hid (OwnC O w.heap.size 106 3 g l.length (l.flatMap smL) 0):=by rw[←I];exact z.out
 clear I z
 go_wp2
 go_loopg [4] l.length (fun k i wr=>∃j:Nat,i= .int .i64 j∧j+k=l.length∧OwnC wr w.heap.size 106 3 g l.length (l.flatMap smL) (j*3)∧Below w.heap.size w wr)
 case atStart=>exact⟨0,rfl,by omega,V.out,Z.out⟩
 case round=>
  obtain⟨j,rfl,hj,ho,hb⟩:=hrel
  have HO:=zc ho
  have J:=zc hb
  clear ho hb
  by_cases ab:j<l.length
  ·have H:(j:Int)<(l.length:Int):=by omega
   obtain⟨x,hx⟩: ∃x,l[j]? =some x:=⟨_,List.getElem?_eq_getElem ab⟩
   obtain⟨b,ac,rfl,K⟩:=(HR.out.later J.out).get hx
   have HX:=zc hx
   clear hx
   have c0:=K 0 _ rfl
   have c1:=K 1 _ rfl
   have c2:=K 2 _ rfl
   simp only[Nat.add_zero] at c0
   clear K
   obtain⟨L,E⟩: ∃L,L=j+1:=⟨_,rfl⟩
   have ej:(j:Int)+1=(L:Int):=by omega
   have HJ:=zc E
   clear E
   go_wp2_with fail
   refine (zqk x _).mono ?_
   rintro e w2 ⟨rfl,D⟩
   have n:=zc (HO.out.later D)
   have Y:=zc (J.out.trans (D.mono J.out.size))
   clear D c0 c1 c2
   obtain⟨v0,g0⟩:=n.out.has (j*3) (by omega)
   have f0:=n.out.free (j*3)
   obtain⟨v1,g1⟩:=n.out.has (j*3+1) (by omega)
   have f1:=n.out.free (j*3+1)
   obtain⟨v2,g2⟩:=n.out.has (j*3+2) (by omega)
   have f2:=n.out.free (j*3+2)
   have HN:=zc (((n.out.put (by omega) (zbx (f:=smL) (m:=3) (fun _=>rfl) l j x 0 _ HX.out rfl)).put (by omega) (zbx (f:=smL) (m:=3) (fun _=>rfl) l j x 1 _ HX.out rfl)).put (by omega) (zbx (f:=smL) (m:=3) (fun _=>rfl) l j x 2 _ HX.out rfl))
   have A:w.heap.size≤g:=by have:=U.out;omega
   go_wp2
   go_roundg (gk-1)
   case rel=>exact⟨L,rfl,by have:=HJ.out;omega,by rw[HJ.out,Nat.succ_mul];exact HN.out,(((Y.out.setCell A _).setCell A _).setCell A _)⟩
   case measure=>omega
  ·have H: ¬(j:Int)<(l.length:Int):=by omega
   obtain rfl:j=l.length:=by omega
   go_wp2
   go_ret
   exact⟨g,rfl,HO.out.all (ze9 (f:=smL) (fun _=>rfl) l),J.out⟩
theorem Tryz.infoTEx:(Tryz.prog.info? 108).map (fun i=>(i.zero,i.size,i.bytes))=some (some (.agg #[.int .i64 0,.int .i64 0,.string {data:=#[]},.string {data:=#[]},.int .i64 0,.int .i64 0]),6,64):=by kernel_rfl
theorem zqm (x:Ex) (w:World):
  Calls Tryz.prog 103 #[.agg #[.int .i64 x.kind,.int .i64 x.num,.string x.name,.string x.field,.int .i64 x.l,.int .i64 x.r]] w fun e h=>e= .returned (.agg #[.int .i64 x.kind,.int .i64 x.num,.string x.name,.string x.field,.int .i64 x.l,.int .i64 x.r])∧Below w.heap.size w h:=by
 go_enter Tryz.func103,Tryz.ntmps103
 go_wp2
 refine bodyPost_ret (results_cell_row rfl _ _ (w.heap.size+1) 108 #[.int .i64 x.kind,.int .i64 x.num,.string x.name,.string x.field,.int .i64 x.l,.int .i64 x.r] (0,0) _ rfl ?_ Tryz.underlying108 rfl (by kernel_rfl)) rfl ?_
 ·rw[heap_alloc_old _ _ (by show _<((w.heap.push _).push _).size;simp)]
  exact heap_alloc2_new w _ _
 ·exact⟨rfl,(((Below.refl _ _).alloc (Nat.le_refl _) _).alloc (by show _≤(w.heap.push _).size;simp) _).alloc (by show _≤((w.heap.push _).push _).size;simp;omega) _⟩
theorem zqn (a:Option Addr) (Z:Nat) (l:List Ex) (w:World) (hr:RowAt w a exL 6 l) (hl:l.length≤1048576):
  Calls Tryz.prog 50 #[.slice a l.length Z] w fun e w'=>zeA w 108 6 l.length (l.flatMap exL) e w':=by
 have HR:=zc hr
 clear hr
 obtain⟨i0,hi,O,ab,N⟩:=info_parts Tryz.infoTEx
 go_enter Tryz.func50,Tryz.ntmps50
 go_wp2_with (first|(at_make;refine wpList_make_full w rfl _ _ 26 rfl w.heap.size 108 i0 _ 6 Tryz.underlying26 hi O ab .i64 .i64 _ _ l.length (by rfl) (by rfl) rfl rfl (by rw[N];omega) (by unfold maxLen;omega) (Nat.le_refl _) ?_))
 intro U q z
 have aa:=zc ((Below.refl _ _).grown z (Nat.le_refl _) (fun k h=>by cases h):Below w.heap.size w U)
 have A:Hid (OwnC U w.heap.size 108 6 w.heap.size l.length (l.flatMap exL) 0):=⟨_,q,fun j hj=>absurd hj (Nat.not_lt_zero j)⟩
 clear q z
 obtain⟨g,K⟩: ∃g,g=w.heap.size:=⟨_,rfl⟩
 have V:=zc K
 rw[←K]
 rw[←K] at A
 have X:Hid (OwnC U w.heap.size 108 6 g l.length (l.flatMap exL) 0):=by rw[←K];exact A.out
 clear K A
 go_wp2
 go_loopg [4] l.length (fun k i wr=>∃j:Nat,i= .int .i64 j∧j+k=l.length∧OwnC wr w.heap.size 108 6 g l.length (l.flatMap exL) (j*6)∧Below w.heap.size w wr)
 case atStart=>exact⟨0,rfl,by omega,X.out,aa.out⟩
 case round=>
  obtain⟨j,rfl,hj,ho,hb⟩:=hrel
  have HO:=zc ho
  have L:=zc hb
  clear ho hb
  by_cases ac:j<l.length
  ·have J:(j:Int)<(l.length:Int):=by omega
   obtain⟨x,hx⟩: ∃x,l[j]? =some x:=⟨_,List.getElem?_eq_getElem ac⟩
   obtain⟨b,ad,rfl,D⟩:=(HR.out.later L.out).get hx
   have H:=zc hx
   clear hx
   have c0:=D 0 _ rfl
   have c1:=D 1 _ rfl
   have c2:=D 2 _ rfl
   have c3:=D 3 _ rfl
   have c4:=D 4 _ rfl
   have c5:=D 5 _ rfl
   simp only[Nat.add_zero] at c0
   clear D
   obtain⟨M,I⟩: ∃M,M=j+1:=⟨_,rfl⟩
   have ej:(j:Int)+1=(M:Int):=by omega
   have HJ:=zc I
   clear I
   go_wp2_with fail
   refine (zqm x _).mono ?_
   rintro e w2 ⟨rfl,E⟩
   have n:=zc (HO.out.later E)
   have Y:=zc (L.out.trans (E.mono L.out.size))
   clear E c0 c1 c2 c3 c4 c5
   obtain⟨v0,g0⟩:=n.out.has (j*6) (by omega)
   have f0:=n.out.free (j*6)
   obtain⟨v1,g1⟩:=n.out.has (j*6+1) (by omega)
   have f1:=n.out.free (j*6+1)
   obtain⟨v2,g2⟩:=n.out.has (j*6+2) (by omega)
   have f2:=n.out.free (j*6+2)
   obtain⟨v3,g3⟩:=n.out.has (j*6+3) (by omega)
   have f3:=n.out.free (j*6+3)
   obtain⟨v4,g4⟩:=n.out.has (j*6+4) (by omega)
   have f4:=n.out.free (j*6+4)
   obtain⟨v5,g5⟩:=n.out.has (j*6+5) (by omega)
   have f5:=n.out.free (j*6+5)
   have HN:=zc ((((((n.out.put (by omega) (zbx (f:=exL) (m:=6) (fun _=>rfl) l j x 0 _ H.out rfl)).put (by omega) (zbx (f:=exL) (m:=6) (fun _=>rfl) l j x 1 _ H.out rfl)).put (by omega) (zbx (f:=exL) (m:=6) (fun _=>rfl) l j x 2 _ H.out rfl)).put (by omega) (zbx (f:=exL) (m:=6) (fun _=>rfl) l j x 3 _ H.out rfl)).put (by omega) (zbx (f:=exL) (m:=6) (fun _=>rfl) l j x 4 _ H.out rfl)).put (by omega) (zbx (f:=exL) (m:=6) (fun _=>rfl) l j x 5 _ H.out rfl))
   have o:w.heap.size≤g:=by have:=V.out;omega
   go_wp2
   go_roundg (gk-1)
   case rel=>exact⟨M,rfl,by have:=HJ.out;omega,by rw[HJ.out,Nat.succ_mul];exact HN.out,((((((Y.out.setCell o _).setCell o _).setCell o _).setCell o _).setCell o _).setCell o _)⟩
   case measure=>omega
  ·have J: ¬(j:Int)<(l.length:Int):=by omega
   obtain rfl:j=l.length:=by omega
   go_wp2
   go_ret
   exact⟨g,rfl,HO.out.all (ze9 (f:=exL) (fun _=>rfl) l),L.out⟩
theorem zqo (l:List ByteArray):l.map Value.string=l.flatMap (fun x=>[Value.string x]):=by
 induction l with
 |nil=>rfl
 |cons x l h=>rw[List.map_cons,List.flatMap_cons,h];rfl
def zqp (w:World) (m:Md) (e:Ending) (w':World):Prop:=∃S,e= .returned (zt S m)∧OwnMd w' w.heap.size S m∧Below w.heap.size w w'
theorem zba {w:World} {j size n c i:Nat} {e:TypeId} {r:Rw} {xs:List Value} {u:Value} {A:Array Value} (h:OwnR w j e size r n xs) (z:w.heap[c]? =some (.cells A 28 (0,0))) (E:e≠28):OwnR (w.setCell ⟨c,i,none⟩ u) j e size r n xs:=
 h.keep fun k g=>heap_setCell_other w ⟨c,i,none⟩ k u fun q=>by
  obtain⟨_,_,D,o⟩:=h.typed g
  simp only at q
  rw[q,z] at o
  simp only[Option.some.injEq,Obj.cells.injEq] at o
  exact E o.2.1.symm
abbrev zqq (w:World) (b:Nat) (x0 x1 x2 x3 x4:Value):World:=((((w.setCell ⟨b,0,none⟩ x0).setCell ⟨b,1,none⟩ x1).setCell ⟨b,2,none⟩ x2).setCell ⟨b,3,none⟩ x3).setCell ⟨b,4,none⟩ x4
theorem zeD {w:World} {j size n c:Nat} {e:TypeId} {r:Rw} {xs:List Value} {L K M N O D J H A U:Value} (h:OwnR w j e size r n xs) (q:w.heap[c]? =some (.cells #[L,K,M,N,O] 28 (0,0))) (o:e≠28):OwnR (zqq w c D J H A U) j e size r n xs:=by
 have E:=zas (i:=0) (u:=D) q
 have z:=zas (i:=1) (u:=J) E
 have I:=zas (i:=2) (u:=H) z
 have V:=zas (i:=3) (u:=A) I
 exact zba (zba (zba (zba (zba h q o) E o) z o) I o) V o
theorem zg5 (A:MA) (m:Md) (w:World) (hr:ModIn w A m) (f1:m.rq.length≤1048576) (f2:m.im.length≤1048576) (f3:m.ep.length≤1048576) (f4:m.st.length≤1048576) (f5:m.ex.length≤1048576):
  Calls Tryz.prog 13 #[zcZ A m] w fun e w'=>zqp w m e w':=by
 have HR:=zc hr
 clear hr
 unfold zcZ
 go_enter Tryz.func13,Tryz.ntmps13
 go_upto_region 2 with fail
 obtain⟨n,ab⟩: ∃n,n=w.heap.size:=⟨_,rfl⟩
 rw[←ab]
 refine zah (R:=(fun W=>W.heap[n]? =some (.cells #[.slice A.a0 m.rq.length A.c0,.slice A.a1 m.im.length A.c1,.slice A.a2 m.ep.length A.c2,.slice A.a3 m.st.length A.c3,.slice A.a4 m.ex.length A.c4] 39 (0,0))∧W.heap[n+1]? =some (.cells #[.slice none 0 0,.slice none 0 0,.slice none 0 0,.slice none 0 0,.slice none 0 0] 28 (0,0))∧W.heap[n+2]? =some (.cells #[.slice none 0 0,.slice none 0 0,.slice none 0 0,.slice none 0 0,.slice none 0 0] 28 (0,0))∧Below w.heap.size w W)) ?_ ?_
 ·rw[ab]
  refine⟨?_,?_,?_,?_⟩
  ·rw[heap_alloc_old _ _ (by show _<((w.heap.push _).push _).size;simp;omega),heap_alloc_old _ _ (by show _<(w.heap.push _).size;simp)]
   exact heap_alloc_new w _
  ·rw[heap_alloc_old _ _ (by show _<((w.heap.push _).push _).size;simp)]
   exact heap_alloc2_new w _ _
  ·have:=heap_alloc_new ((w.alloc (.cells #[.slice A.a0 m.rq.length A.c0,.slice A.a1 m.im.length A.c1,.slice A.a2 m.ep.length A.c2,.slice A.a3 m.st.length A.c3,.slice A.a4 m.ex.length A.c4] 39)).alloc (.cells #[.slice none 0 0,.slice none 0 0,.slice none 0 0,.slice none 0 0,.slice none 0 0] 28)) (.cells #[.slice none 0 0,.slice none 0 0,.slice none 0 0,.slice none 0 0,.slice none 0 0] 28)
   simp only[zj] at this
   exact this
  ·exact (((Below.refl _ _).alloc (Nat.le_refl _) _).alloc (by show _≤(w.heap.push _).size;simp) _).alloc (by show _≤((w.heap.push _).push _).size;simp;omega) _
 have aa:w.heap.size≤n+2:=by omega
 have M:w.heap.size≤n+1:=by omega
 clear ab
 rintro W0 ⟨U,L,N,h⟩
 have X:=zc U
 have Y:=zc L
 have Z:=zc N
 have q:=zc h
 clear U L N h
 obtain⟨E,I,H,J,D,K⟩:=zk X.out
 go_wp2_with fail
 refine (zqf A.a0 A.c0 m.rq W0 (HR.out.later q.out).1 f1).mono ?_
 rintro e V0 ⟨g0,rfl,j,h⟩
 have X2:=zc ((h.block _ (Array.getElem?_eq_some_iff.1 X.out).1).trans X.out)
 have Y2:=zc ((h.block _ (Array.getElem?_eq_some_iff.1 Y.out).1).trans Y.out)
 have o:=zc ((h.block _ (Array.getElem?_eq_some_iff.1 Z.out).1).trans Z.out)
 have z:=zc (q.out.trans (h.mono q.out.size))
 have V:=zc (j.low q.out.size)
 clear j h E I H J D K X Y Z q
 obtain⟨E,I,H,J,D,K⟩:=zk o.out
 go_upto_region 3 with fail
 refine zah (R:=(fun W=>W.heap[n]? =some (.cells #[.slice A.a0 m.rq.length A.c0,.slice A.a1 m.im.length A.c1,.slice A.a2 m.ep.length A.c2,.slice A.a3 m.st.length A.c3,.slice A.a4 m.ex.length A.c4] 39 (0,0))∧W.heap[n+1]? =some (.cells #[.slice none 0 0,.slice none 0 0,.slice none 0 0,.slice none 0 0,.slice none 0 0] 28 (0,0))∧W.heap[n+2]? =some (.cells #[.slice (some ⟨g0,0,none⟩) m.rq.length m.rq.length,.slice none 0 0,.slice none 0 0,.slice none 0 0,.slice none 0 0] 28 (0,0))∧Below w.heap.size w W∧OwnR W w.heap.size 9 1 ⟨some ⟨g0,0,none⟩,m.rq.length⟩ m.rq.length (m.rq.flatMap (fun x=>[Value.string x])))) ⟨(heap_setCell_other _ _ _ _ (by show n≠n+2;omega)).trans X2.out,(heap_setCell_other _ _ _ _ (by show n+1≠n+2;omega)).trans Y2.out,(zas o.out).trans (by simp),z.out.setCell aa _,zba V.out o.out (by decide)⟩ ?_
 clear X2 Y2 o z E I H J D K V
 rintro W1 ⟨U,L,N,h,o0⟩
 have X:=zc U
 have Y:=zc L
 have Z:=zc N
 have q:=zc h
 have O:=zc o0
 clear U L N h o0
 obtain⟨E,I,H,J,D,K⟩:=zk X.out
 go_wp2_with fail
 refine (zqh A.a1 A.c1 m.im W1 (HR.out.later q.out).2.1 f2).mono ?_
 rintro e V1 ⟨g1,rfl,j,h⟩
 have X2:=zc ((h.block _ (Array.getElem?_eq_some_iff.1 X.out).1).trans X.out)
 have Y2:=zc ((h.block _ (Array.getElem?_eq_some_iff.1 Y.out).1).trans Y.out)
 have o:=zc ((h.block _ (Array.getElem?_eq_some_iff.1 Z.out).1).trans Z.out)
 have z:=zc (q.out.trans (h.mono q.out.size))
 have V:=zc (O.out.keep fun k g=>h.block k (O.out.typed g).2.1)
 have P1:=zc (j.low q.out.size)
 clear j h E I H J D K X Y Z q O
 obtain⟨E,I,H,J,D,K⟩:=zk o.out
 go_upto_region 4 with fail
 refine zah (R:=(fun W=>W.heap[n]? =some (.cells #[.slice A.a0 m.rq.length A.c0,.slice A.a1 m.im.length A.c1,.slice A.a2 m.ep.length A.c2,.slice A.a3 m.st.length A.c3,.slice A.a4 m.ex.length A.c4] 39 (0,0))∧W.heap[n+1]? =some (.cells #[.slice none 0 0,.slice none 0 0,.slice none 0 0,.slice none 0 0,.slice none 0 0] 28 (0,0))∧W.heap[n+2]? =some (.cells #[.slice (some ⟨g0,0,none⟩) m.rq.length m.rq.length,.slice (some ⟨g1,0,none⟩) m.im.length m.im.length,.slice none 0 0,.slice none 0 0,.slice none 0 0] 28 (0,0))∧Below w.heap.size w W∧OwnR W w.heap.size 9 1 ⟨some ⟨g0,0,none⟩,m.rq.length⟩ m.rq.length (m.rq.flatMap (fun x=>[Value.string x]))∧OwnR W w.heap.size 100 3 ⟨some ⟨g1,0,none⟩,m.im.length⟩ m.im.length (m.im.flatMap imL))) ⟨(heap_setCell_other _ _ _ _ (by show n≠n+2;omega)).trans X2.out,(heap_setCell_other _ _ _ _ (by show n+1≠n+2;omega)).trans Y2.out,(zas o.out).trans (by simp),z.out.setCell aa _,zba V.out o.out (by decide),zba P1.out o.out (by decide)⟩ ?_
 clear X2 Y2 o z E I H J D K V P1
 rintro W2 ⟨U,L,N,h,o0,o1⟩
 have X:=zc U
 have Y:=zc L
 have Z:=zc N
 have q:=zc h
 have O:=zc o0
 have O1:=zc o1
 clear U L N h o0 o1
 obtain⟨E,I,H,J,D,K⟩:=zk X.out
 go_wp2_with fail
 refine (zqj A.a2 A.c2 m.ep W2 (HR.out.later q.out).2.2.1 f3).mono ?_
 rintro e V2 ⟨g2,rfl,j,h⟩
 have X2:=zc ((h.block _ (Array.getElem?_eq_some_iff.1 X.out).1).trans X.out)
 have Y2:=zc ((h.block _ (Array.getElem?_eq_some_iff.1 Y.out).1).trans Y.out)
 have o:=zc ((h.block _ (Array.getElem?_eq_some_iff.1 Z.out).1).trans Z.out)
 have z:=zc (q.out.trans (h.mono q.out.size))
 have V:=zc (O.out.keep fun k g=>h.block k (O.out.typed g).2.1)
 have P1:=zc (O1.out.keep fun k g=>h.block k (O1.out.typed g).2.1)
 have P2:=zc (j.low q.out.size)
 clear j h E I H J D K X Y Z q O O1
 obtain⟨E,I,H,J,D,K⟩:=zk o.out
 go_upto_region 5 with fail
 refine zah (R:=(fun W=>W.heap[n]? =some (.cells #[.slice A.a0 m.rq.length A.c0,.slice A.a1 m.im.length A.c1,.slice A.a2 m.ep.length A.c2,.slice A.a3 m.st.length A.c3,.slice A.a4 m.ex.length A.c4] 39 (0,0))∧W.heap[n+1]? =some (.cells #[.slice none 0 0,.slice none 0 0,.slice none 0 0,.slice none 0 0,.slice none 0 0] 28 (0,0))∧W.heap[n+2]? =some (.cells #[.slice (some ⟨g0,0,none⟩) m.rq.length m.rq.length,.slice (some ⟨g1,0,none⟩) m.im.length m.im.length,.slice (some ⟨g2,0,none⟩) m.ep.length m.ep.length,.slice none 0 0,.slice none 0 0] 28 (0,0))∧Below w.heap.size w W∧OwnR W w.heap.size 9 1 ⟨some ⟨g0,0,none⟩,m.rq.length⟩ m.rq.length (m.rq.flatMap (fun x=>[Value.string x]))∧OwnR W w.heap.size 100 3 ⟨some ⟨g1,0,none⟩,m.im.length⟩ m.im.length (m.im.flatMap imL)∧OwnR W w.heap.size 102 4 ⟨some ⟨g2,0,none⟩,m.ep.length⟩ m.ep.length (m.ep.flatMap epL))) ⟨(heap_setCell_other _ _ _ _ (by show n≠n+2;omega)).trans X2.out,(heap_setCell_other _ _ _ _ (by show n+1≠n+2;omega)).trans Y2.out,(zas o.out).trans (by simp),z.out.setCell aa _,zba V.out o.out (by decide),zba P1.out o.out (by decide),zba P2.out o.out (by decide)⟩ ?_
 clear X2 Y2 o z E I H J D K V P1 P2
 rintro W3 ⟨U,L,N,h,o0,o1,o2⟩
 have X:=zc U
 have Y:=zc L
 have Z:=zc N
 have q:=zc h
 have O:=zc o0
 have O1:=zc o1
 have O2:=zc o2
 clear U L N h o0 o1 o2
 obtain⟨E,I,H,J,D,K⟩:=zk X.out
 go_wp2_with fail
 refine (zql A.a3 A.c3 m.st W3 (HR.out.later q.out).2.2.2.1 f4).mono ?_
 rintro e V3 ⟨g3,rfl,j,h⟩
 have X2:=zc ((h.block _ (Array.getElem?_eq_some_iff.1 X.out).1).trans X.out)
 have Y2:=zc ((h.block _ (Array.getElem?_eq_some_iff.1 Y.out).1).trans Y.out)
 have o:=zc ((h.block _ (Array.getElem?_eq_some_iff.1 Z.out).1).trans Z.out)
 have z:=zc (q.out.trans (h.mono q.out.size))
 have V:=zc (O.out.keep fun k g=>h.block k (O.out.typed g).2.1)
 have P1:=zc (O1.out.keep fun k g=>h.block k (O1.out.typed g).2.1)
 have P2:=zc (O2.out.keep fun k g=>h.block k (O2.out.typed g).2.1)
 have P3:=zc (j.low q.out.size)
 clear j h E I H J D K X Y Z q O O1 O2
 obtain⟨E,I,H,J,D,K⟩:=zk o.out
 go_upto_region 6 with fail
 refine zah (R:=(fun W=>W.heap[n]? =some (.cells #[.slice A.a0 m.rq.length A.c0,.slice A.a1 m.im.length A.c1,.slice A.a2 m.ep.length A.c2,.slice A.a3 m.st.length A.c3,.slice A.a4 m.ex.length A.c4] 39 (0,0))∧W.heap[n+1]? =some (.cells #[.slice none 0 0,.slice none 0 0,.slice none 0 0,.slice none 0 0,.slice none 0 0] 28 (0,0))∧W.heap[n+2]? =some (.cells #[.slice (some ⟨g0,0,none⟩) m.rq.length m.rq.length,.slice (some ⟨g1,0,none⟩) m.im.length m.im.length,.slice (some ⟨g2,0,none⟩) m.ep.length m.ep.length,.slice (some ⟨g3,0,none⟩) m.st.length m.st.length,.slice none 0 0] 28 (0,0))∧Below w.heap.size w W∧OwnR W w.heap.size 9 1 ⟨some ⟨g0,0,none⟩,m.rq.length⟩ m.rq.length (m.rq.flatMap (fun x=>[Value.string x]))∧OwnR W w.heap.size 100 3 ⟨some ⟨g1,0,none⟩,m.im.length⟩ m.im.length (m.im.flatMap imL)∧OwnR W w.heap.size 102 4 ⟨some ⟨g2,0,none⟩,m.ep.length⟩ m.ep.length (m.ep.flatMap epL)∧OwnR W w.heap.size 106 3 ⟨some ⟨g3,0,none⟩,m.st.length⟩ m.st.length (m.st.flatMap smL))) ⟨(heap_setCell_other _ _ _ _ (by show n≠n+2;omega)).trans X2.out,(heap_setCell_other _ _ _ _ (by show n+1≠n+2;omega)).trans Y2.out,(zas o.out).trans (by simp),z.out.setCell aa _,zba V.out o.out (by decide),zba P1.out o.out (by decide),zba P2.out o.out (by decide),zba P3.out o.out (by decide)⟩ ?_
 clear X2 Y2 o z E I H J D K V P1 P2 P3
 rintro W4 ⟨U,L,N,h,o0,o1,o2,o3⟩
 have X:=zc U
 have Y:=zc L
 have Z:=zc N
 have q:=zc h
 have O:=zc o0
 have O1:=zc o1
 have O2:=zc o2
 have O3:=zc o3
 clear U L N h o0 o1 o2 o3
 obtain⟨E,I,H,J,D,K⟩:=zk X.out
 go_wp2_with fail
 refine (zqn A.a4 A.c4 m.ex W4 (HR.out.later q.out).2.2.2.2 f5).mono ?_
 rintro e V4 ⟨g4,rfl,j,h⟩
 have X2:=zc ((h.block _ (Array.getElem?_eq_some_iff.1 X.out).1).trans X.out)
 have Y2:=zc ((h.block _ (Array.getElem?_eq_some_iff.1 Y.out).1).trans Y.out)
 have o:=zc ((h.block _ (Array.getElem?_eq_some_iff.1 Z.out).1).trans Z.out)
 have z:=zc (q.out.trans (h.mono q.out.size))
 have V:=zc (O.out.keep fun k g=>h.block k (O.out.typed g).2.1)
 have P1:=zc (O1.out.keep fun k g=>h.block k (O1.out.typed g).2.1)
 have P2:=zc (O2.out.keep fun k g=>h.block k (O2.out.typed g).2.1)
 have P3:=zc (O3.out.keep fun k g=>h.block k (O3.out.typed g).2.1)
 have P4:=zc (j.low q.out.size)
 clear j h E I H J D K X Y Z q O O1 O2 O3
 obtain⟨E,I,H,J,D,K⟩:=zk o.out
 go_upto_region 7 with fail
 refine zah (R:=(fun W=>W.heap[n]? =some (.cells #[.slice A.a0 m.rq.length A.c0,.slice A.a1 m.im.length A.c1,.slice A.a2 m.ep.length A.c2,.slice A.a3 m.st.length A.c3,.slice A.a4 m.ex.length A.c4] 39 (0,0))∧W.heap[n+1]? =some (.cells #[.slice none 0 0,.slice none 0 0,.slice none 0 0,.slice none 0 0,.slice none 0 0] 28 (0,0))∧W.heap[n+2]? =some (.cells #[.slice (some ⟨g0,0,none⟩) m.rq.length m.rq.length,.slice (some ⟨g1,0,none⟩) m.im.length m.im.length,.slice (some ⟨g2,0,none⟩) m.ep.length m.ep.length,.slice (some ⟨g3,0,none⟩) m.st.length m.st.length,.slice (some ⟨g4,0,none⟩) m.ex.length m.ex.length] 28 (0,0))∧Below w.heap.size w W∧OwnR W w.heap.size 9 1 ⟨some ⟨g0,0,none⟩,m.rq.length⟩ m.rq.length (m.rq.flatMap (fun x=>[Value.string x]))∧OwnR W w.heap.size 100 3 ⟨some ⟨g1,0,none⟩,m.im.length⟩ m.im.length (m.im.flatMap imL)∧OwnR W w.heap.size 102 4 ⟨some ⟨g2,0,none⟩,m.ep.length⟩ m.ep.length (m.ep.flatMap epL)∧OwnR W w.heap.size 106 3 ⟨some ⟨g3,0,none⟩,m.st.length⟩ m.st.length (m.st.flatMap smL)∧OwnR W w.heap.size 108 6 ⟨some ⟨g4,0,none⟩,m.ex.length⟩ m.ex.length (m.ex.flatMap exL))) ⟨(heap_setCell_other _ _ _ _ (by show n≠n+2;omega)).trans X2.out,(heap_setCell_other _ _ _ _ (by show n+1≠n+2;omega)).trans Y2.out,(zas o.out).trans (by simp),z.out.setCell aa _,zba V.out o.out (by decide),zba P1.out o.out (by decide),zba P2.out o.out (by decide),zba P3.out o.out (by decide),zba P4.out o.out (by decide)⟩ ?_
 clear X2 Y2 o z E I H J D K V P1 P2 P3 P4
 rintro W5 ⟨U,L,N,h,o0,o1,o2,o3,o4⟩
 have Y:=zc L
 have Z:=zc N
 have q:=zc h
 have O:=zc o0
 have O1:=zc o1
 have O2:=zc o2
 have O3:=zc o3
 have O4:=zc o4
 clear U L N h o0 o1 o2 o3 o4
 obtain⟨E,I,H,J,D,K⟩:=zk Z.out
 obtain⟨d0,d1,d2,d3,d4,df⟩:=zk Y.out
 go_wp2
 refine bodyPost_ret (results_cell_row rfl _ _ (n+1) 28 #[.slice (some ⟨g0,0,none⟩) m.rq.length m.rq.length,.slice (some ⟨g1,0,none⟩) m.im.length m.im.length,.slice (some ⟨g2,0,none⟩) m.ep.length m.ep.length,.slice (some ⟨g3,0,none⟩) m.st.length m.st.length,.slice (some ⟨g4,0,none⟩) m.ex.length m.ex.length] (0,0) _ rfl ?_ Tryz.underlying28 rfl (by kernel_rfl)) rfl ?_
 ·exact zcU Y.out
 ·refine⟨⟨⟨some ⟨g0,0,none⟩,m.rq.length⟩,⟨some ⟨g1,0,none⟩,m.im.length⟩,⟨some ⟨g2,0,none⟩,m.ep.length⟩,⟨some ⟨g3,0,none⟩,m.st.length⟩,⟨some ⟨g4,0,none⟩,m.ex.length⟩,⟨none,0⟩⟩,rfl,⟨?_,?_,?_,?_,?_⟩,((((q.out.setCell M _).setCell M _).setCell M _).setCell M _).setCell M _⟩
  ·rw[zqo]
   exact zeD O.out Y.out (by decide)
  ·exact zeD O1.out Y.out (by decide)
  ·exact zeD O2.out Y.out (by decide)
  ·exact zeD O3.out Y.out (by decide)
  ·exact zeD O4.out Y.out (by decide)
end Go.Proofs.YticdggnnpjachaaGreat
