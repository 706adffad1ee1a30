/-
  What the laws' size counters answer: the walks.
  What the laws' copiers answer: the walks.
-/
import Derived.Deep.Cut
import Derived.Test.YtgcbmogmniahjaaGreatCReSrcRowToCostMath
namespace Go.Proofs.YtgcbmogmniahjaaGreat
set_option maxRecDepth 100000
set_option maxHeartbeats 3200000
open Go.RowKit Go.PlainAid Go.Sort
def zea (x:ByteArray):Prop:=x.size≤9223372036854775807
theorem zkD (a:Option Addr) (M:Nat) (l:List ByteArray) (left:Int) (w:World) (V:RowAt w a (fun x=>[Value.string x]) 1 l) (hl:l.length≤9223372036854775807) (A: ∀x∈l,zea x) (h0:0≤left) (h1:left≤1048576):
  Calls Tryz.prog 22 #[.slice a l.length M,.int .i64 left] w fun e w'=>zcw left (l.length+zD zbX l) e∧Below w.heap.size w w':=by
 have HR:=zc V
 have HG:=zc A
 clear V A
 by_cases Z:(l.length:Int)≤left
 case neg=>
  go_enter Tryz.func22,Tryz.ntmps22
  go_wp2
  go_ret
  exact⟨⟨-1,rfl,by omega,by omega,fun h=>by omega⟩,Below.refl _ _⟩
 go_enter Tryz.func22,Tryz.ntmps22
 go_wp2
 go_loopg [1,5] l.length (fun k s1 s5 wr=>∃(j:Nat) (z:Int),s5= .int .i64 j∧s1= .int .i64 z∧j+k=l.length∧0≤z∧z≤left∧z+((l.length+zD zbX (l.take j):Nat):Int)=left∧Below w.heap.size w wr)
 case atStart=>exact⟨0,_,rfl,rfl,by omega,by omega,by omega,by simp[zD],Below.refl _ _⟩
 case round=>
  obtain⟨j,z,rfl,rfl,hj,aa,O,D,A⟩:=hrel
  have X:=zc D
  have J:=zc A
  clear D A
  by_cases L:j<l.length
  ·have H:(j:Int)<(l.length:Int):=by omega
   obtain⟨x,K⟩: ∃x,l[j]? =some x:=⟨_,List.getElem?_eq_getElem L⟩
   obtain⟨b,ab,rfl,Y⟩:=(HR.out.later J.out).get K
   have E:=HG.out x (List.mem_of_getElem? K)
   have HC:=zc (zey zbX K)
   have c0:=Y 0 _ rfl
   simp only[Nat.add_zero,Nat.mul_one] at c0
   clear Y K
   obtain⟨I,q⟩: ∃I,I=j+1:=⟨_,rfl⟩
   have ej:(j:Int)+1=(I:Int):=by omega
   have U:=zc q
   clear q
   unfold zea at E
   by_cases N:0≤z-(x.size:Int)
   ·go_wp2
    go_roundg (gk-1)
    case rel=>exact⟨I,_,rfl,rfl,by have:=U.out;omega,N,by omega,by have:=X.out;have:zbX x=x.size:=rfl;rw[U.out,HC.out];omega,J.out⟩
    case measure=>omega
   ·go_wp2
    go_ret
    exact⟨⟨-1,rfl,by omega,by omega,fun h=>by omega⟩,J.out⟩
  ·have H: ¬(j:Int)<(l.length:Int):=by omega
   obtain rfl:j=l.length:=by omega
   go_wp2
   go_ret
   exact⟨⟨z,rfl,by omega,O,fun _=>by have:=X.out;rw[List.take_length] at this;exact this⟩,J.out⟩
def zez (x:Im):Prop:=x.spec.size≤9223372036854775807∧x.first.size≤9223372036854775807∧x.loc.size≤9223372036854775807
theorem zqh (x:Im) (left:Int) (w:World) (q:zez x) (H:0≤left) (E:left≤1048576):
  Calls Tryz.prog 107 #[.agg #[.string x.spec,.string x.first,.string x.loc],.int .i64 left] w fun e z=>zcw left (zcf x) e∧Below w.heap.size w z:=by
 unfold zez at q
 obtain⟨D,A,I⟩:=q
 go_enter Tryz.func107,Tryz.ntmps107
 go_wp2
 ·go_ret
  exact⟨⟨-1,rfl,by omega,by omega,fun h=>by omega⟩,(Below.refl _ _).alloc (Nat.le_refl _) _⟩
 ·go_ret
  exact⟨⟨-1,rfl,by omega,by omega,fun h=>by omega⟩,(Below.refl _ _).alloc (Nat.le_refl _) _⟩
 ·go_ret
  exact⟨⟨-1,rfl,by omega,by omega,fun h=>by omega⟩,(Below.refl _ _).alloc (Nat.le_refl _) _⟩
 ·go_ret
  exact⟨⟨_,rfl,by omega,by omega,fun _=>by unfold zcf;omega⟩,(Below.refl _ _).alloc (Nat.le_refl _) _⟩
theorem zqi (a:Option Addr) (Y:Nat) (l:List Im) (left:Int) (w:World) (hr:RowAt w a imL 3 l) (hl:l.length≤9223372036854775807) (D: ∀x∈l,zez x) (h0:0≤left) (h1:left≤1048576):
  Calls Tryz.prog 77 #[.slice a l.length Y,.int .i64 left] w fun e w'=>zcw left (l.length+zD zcf l) e∧Below w.heap.size w w':=by
 have HR:=zc hr
 have HG:=zc D
 clear hr D
 by_cases ab:(l.length:Int)≤left
 case neg=>
  go_enter Tryz.func77,Tryz.ntmps77
  go_wp2
  go_ret
  exact⟨⟨-1,rfl,by omega,by omega,fun h=>by omega⟩,Below.refl _ _⟩
 go_enter Tryz.func77,Tryz.ntmps77
 go_wp2
 go_loopg [1,5] l.length (fun k s1 s5 wr=>∃(j:Nat) (z:Int),s5= .int .i64 j∧s1= .int .i64 z∧j+k=l.length∧0≤z∧z≤left∧z+((l.length+zD zcf (l.take j):Nat):Int)=left∧Below w.heap.size w wr)
 case atStart=>exact⟨0,_,rfl,rfl,by omega,by omega,by omega,by simp[zD],Below.refl _ _⟩
 case round=>
  obtain⟨j,z,rfl,rfl,hj,X,Z,I,D⟩:=hrel
  have HZ:=zc I
  have N:=zc D
  clear I D
  by_cases V:j<l.length
  ·have L:(j:Int)<(l.length:Int):=by omega
   obtain⟨x,O⟩: ∃x,l[j]? =some x:=⟨_,List.getElem?_eq_getElem V⟩
   obtain⟨b,ad,rfl,U⟩:=(HR.out.later N.out).get O
   have q:=HG.out x (List.mem_of_getElem? O)
   have HC:=zc (zey zcf O)
   have c0:=U 0 _ rfl
   have c1:=U 1 _ rfl
   have c2:=U 2 _ rfl
   simp only[Nat.add_zero] at c0
   clear U O
   obtain⟨M,A⟩: ∃M,M=j+1:=⟨_,rfl⟩
   have ej:(j:Int)+1=(M:Int):=by omega
   have HJ:=zc A
   clear A
   go_wp2_with fail
   refine (zqh x z _ q X (by omega)).mono ?_
   rintro e w1 ⟨⟨z1,rfl,ae,ac,H⟩,K⟩
   have J:=zc (N.out.trans (K.mono N.out.size))
   have aa:=zc H
   clear K H q c0 c1 c2
   by_cases E:0≤z1
   ·go_wp2
    go_roundg (gk-1)
    case rel=>exact⟨M,z1,rfl,rfl,by have:=HJ.out;omega,E,by omega,by have:=HZ.out;have:=aa.out E;rw[HJ.out,HC.out];omega,J.out⟩
    case measure=>omega
   ·go_wp2
    go_ret
    exact⟨⟨-1,rfl,by omega,by omega,fun h=>by omega⟩,J.out⟩
  ·have L: ¬(j:Int)<(l.length:Int):=by omega
   obtain rfl:j=l.length:=by omega
   go_wp2
   go_ret
   exact⟨⟨z,rfl,by omega,Z,fun _=>by have:=HZ.out;rw[List.take_length] at this;exact this⟩,N.out⟩
def ze0 (x:Ep):Prop:=x.name.size≤9223372036854775807∧x.loc.size≤9223372036854775807∧x.spec.size≤9223372036854775807
theorem zqj (x:Ep) (left:Int) (w:World) (q:ze0 x) (H:0≤left) (E:left≤1048576):
  Calls Tryz.prog 108 #[.agg #[.int .i64 x.kind,.string x.name,.string x.loc,.string x.spec],.int .i64 left] w fun e z=>zcw left (zcg x) e∧Below w.heap.size w z:=by
 unfold ze0 at q
 obtain⟨D,A,I⟩:=q
 go_enter Tryz.func108,Tryz.ntmps108
 go_wp2
 ·go_ret
  exact⟨⟨-1,rfl,by omega,by omega,fun h=>by omega⟩,(Below.refl _ _).alloc (Nat.le_refl _) _⟩
 ·go_ret
  exact⟨⟨-1,rfl,by omega,by omega,fun h=>by omega⟩,(Below.refl _ _).alloc (Nat.le_refl _) _⟩
 ·go_ret
  exact⟨⟨-1,rfl,by omega,by omega,fun h=>by omega⟩,(Below.refl _ _).alloc (Nat.le_refl _) _⟩
 ·go_ret
  exact⟨⟨_,rfl,by omega,by omega,fun _=>by unfold zcg;omega⟩,(Below.refl _ _).alloc (Nat.le_refl _) _⟩
theorem zqk (a:Option Addr) (Y:Nat) (l:List Ep) (left:Int) (w:World) (hr:RowAt w a epL 4 l) (hl:l.length≤9223372036854775807) (D: ∀x∈l,ze0 x) (h0:0≤left) (h1:left≤1048576):
  Calls Tryz.prog 78 #[.slice a l.length Y,.int .i64 left] w fun e w'=>zcw left (l.length+zD zcg l) e∧Below w.heap.size w w':=by
 have HR:=zc hr
 have HG:=zc D
 clear hr D
 by_cases ab:(l.length:Int)≤left
 case neg=>
  go_enter Tryz.func78,Tryz.ntmps78
  go_wp2
  go_ret
  exact⟨⟨-1,rfl,by omega,by omega,fun h=>by omega⟩,Below.refl _ _⟩
 go_enter Tryz.func78,Tryz.ntmps78
 go_wp2
 go_loopg [1,5] l.length (fun k s1 s5 wr=>∃(j:Nat) (z:Int),s5= .int .i64 j∧s1= .int .i64 z∧j+k=l.length∧0≤z∧z≤left∧z+((l.length+zD zcg (l.take j):Nat):Int)=left∧Below w.heap.size w wr)
 case atStart=>exact⟨0,_,rfl,rfl,by omega,by omega,by omega,by simp[zD],Below.refl _ _⟩
 case round=>
  obtain⟨j,z,rfl,rfl,hj,X,Z,I,D⟩:=hrel
  have HZ:=zc I
  have O:=zc D
  clear I D
  by_cases V:j<l.length
  ·have L:(j:Int)<(l.length:Int):=by omega
   obtain⟨x,U⟩: ∃x,l[j]? =some x:=⟨_,List.getElem?_eq_getElem V⟩
   obtain⟨b,ad,rfl,M⟩:=(HR.out.later O.out).get U
   have q:=HG.out x (List.mem_of_getElem? U)
   have HC:=zc (zey zcg U)
   have c0:=M 0 _ rfl
   have c1:=M 1 _ rfl
   have c2:=M 2 _ rfl
   have c3:=M 3 _ rfl
   simp only[Nat.add_zero] at c0
   clear M U
   obtain⟨N,A⟩: ∃N,N=j+1:=⟨_,rfl⟩
   have ej:(j:Int)+1=(N:Int):=by omega
   have HJ:=zc A
   clear A
   go_wp2_with fail
   refine (zqj x z _ q X (by omega)).mono ?_
   rintro e w1 ⟨⟨z1,rfl,ae,ac,H⟩,K⟩
   have J:=zc (O.out.trans (K.mono O.out.size))
   have aa:=zc H
   clear K H q c0 c1 c2 c3
   by_cases E:0≤z1
   ·go_wp2
    go_roundg (gk-1)
    case rel=>exact⟨N,z1,rfl,rfl,by have:=HJ.out;omega,E,by omega,by have:=HZ.out;have:=aa.out E;rw[HJ.out,HC.out];omega,J.out⟩
    case measure=>omega
   ·go_wp2
    go_ret
    exact⟨⟨-1,rfl,by omega,by omega,fun h=>by omega⟩,J.out⟩
  ·have L: ¬(j:Int)<(l.length:Int):=by omega
   obtain rfl:j=l.length:=by omega
   go_wp2
   go_ret
   exact⟨⟨z,rfl,by omega,Z,fun _=>by have:=HZ.out;rw[List.take_length] at this;exact this⟩,O.out⟩
def ze1 (x:Sm):Prop:=x.name.size≤9223372036854775807
theorem zql (x:Sm) (left:Int) (w:World) (z:ze1 x) (D:0≤left) (A:left≤1048576):
  Calls Tryz.prog 109 #[.agg #[.int .i64 x.kind,.string x.name,.int .i64 x.expr],.int .i64 left] w fun e q=>zcw left (zcx x) e∧Below w.heap.size w q:=by
 unfold ze1 at z
 go_enter Tryz.func109,Tryz.ntmps109
 go_wp2
 ·go_ret
  exact⟨⟨-1,rfl,by omega,by omega,fun h=>by omega⟩,(Below.refl _ _).alloc (Nat.le_refl _) _⟩
 ·go_ret
  exact⟨⟨_,rfl,by omega,by omega,fun _=>by unfold zcx;omega⟩,(Below.refl _ _).alloc (Nat.le_refl _) _⟩
theorem zqm (a:Option Addr) (Y:Nat) (l:List Sm) (left:Int) (w:World) (hr:RowAt w a smL 3 l) (hl:l.length≤9223372036854775807) (D: ∀x∈l,ze1 x) (h0:0≤left) (h1:left≤1048576):
  Calls Tryz.prog 79 #[.slice a l.length Y,.int .i64 left] w fun e w'=>zcw left (l.length+zD zcx l) e∧Below w.heap.size w w':=by
 have HR:=zc hr
 have HG:=zc D
 clear hr D
 by_cases ab:(l.length:Int)≤left
 case neg=>
  go_enter Tryz.func79,Tryz.ntmps79
  go_wp2
  go_ret
  exact⟨⟨-1,rfl,by omega,by omega,fun h=>by omega⟩,Below.refl _ _⟩
 go_enter Tryz.func79,Tryz.ntmps79
 go_wp2
 go_loopg [1,5] l.length (fun k s1 s5 wr=>∃(j:Nat) (z:Int),s5= .int .i64 j∧s1= .int .i64 z∧j+k=l.length∧0≤z∧z≤left∧z+((l.length+zD zcx (l.take j):Nat):Int)=left∧Below w.heap.size w wr)
 case atStart=>exact⟨0,_,rfl,rfl,by omega,by omega,by omega,by simp[zD],Below.refl _ _⟩
 case round=>
  obtain⟨j,z,rfl,rfl,hj,X,Z,I,D⟩:=hrel
  have HZ:=zc I
  have N:=zc D
  clear I D
  by_cases V:j<l.length
  ·have L:(j:Int)<(l.length:Int):=by omega
   obtain⟨x,O⟩: ∃x,l[j]? =some x:=⟨_,List.getElem?_eq_getElem V⟩
   obtain⟨b,ad,rfl,U⟩:=(HR.out.later N.out).get O
   have q:=HG.out x (List.mem_of_getElem? O)
   have HC:=zc (zey zcx O)
   have c0:=U 0 _ rfl
   have c1:=U 1 _ rfl
   have c2:=U 2 _ rfl
   simp only[Nat.add_zero] at c0
   clear U O
   obtain⟨M,A⟩: ∃M,M=j+1:=⟨_,rfl⟩
   have ej:(j:Int)+1=(M:Int):=by omega
   have HJ:=zc A
   clear A
   go_wp2_with fail
   refine (zql x z _ q X (by omega)).mono ?_
   rintro e w1 ⟨⟨z1,rfl,ae,ac,H⟩,K⟩
   have J:=zc (N.out.trans (K.mono N.out.size))
   have aa:=zc H
   clear K H q c0 c1 c2
   by_cases E:0≤z1
   ·go_wp2
    go_roundg (gk-1)
    case rel=>exact⟨M,z1,rfl,rfl,by have:=HJ.out;omega,E,by omega,by have:=HZ.out;have:=aa.out E;rw[HJ.out,HC.out];omega,J.out⟩
    case measure=>omega
   ·go_wp2
    go_ret
    exact⟨⟨-1,rfl,by omega,by omega,fun h=>by omega⟩,J.out⟩
  ·have L: ¬(j:Int)<(l.length:Int):=by omega
   obtain rfl:j=l.length:=by omega
   go_wp2
   go_ret
   exact⟨⟨z,rfl,by omega,Z,fun _=>by have:=HZ.out;rw[List.take_length] at this;exact this⟩,N.out⟩
def ze2 (x:Ex):Prop:=x.name.size≤9223372036854775807∧x.field.size≤9223372036854775807
theorem zqn (x:Ex) (left:Int) (w:World) (q:ze2 x) (H:0≤left) (E:left≤1048576):
  Calls Tryz.prog 110 #[.agg #[.int .i64 x.kind,.int .i64 x.num,.string x.name,.string x.field,.int .i64 x.l,.int .i64 x.r],.int .i64 left] w fun e z=>zcw left (zcM x) e∧Below w.heap.size w z:=by
 unfold ze2 at q
 obtain⟨D,A⟩:=q
 go_enter Tryz.func110,Tryz.ntmps110
 go_wp2
 ·go_ret
  exact⟨⟨-1,rfl,by omega,by omega,fun h=>by omega⟩,(Below.refl _ _).alloc (Nat.le_refl _) _⟩
 ·go_ret
  exact⟨⟨-1,rfl,by omega,by omega,fun h=>by omega⟩,(Below.refl _ _).alloc (Nat.le_refl _) _⟩
 ·go_ret
  exact⟨⟨_,rfl,by omega,by omega,fun _=>by unfold zcM;omega⟩,(Below.refl _ _).alloc (Nat.le_refl _) _⟩
theorem zqo (a:Option Addr) (Y:Nat) (l:List Ex) (left:Int) (w:World) (hr:RowAt w a exL 6 l) (hl:l.length≤9223372036854775807) (E: ∀x∈l,ze2 x) (h0:0≤left) (h1:left≤1048576):
  Calls Tryz.prog 80 #[.slice a l.length Y,.int .i64 left] w fun e w'=>zcw left (l.length+zD zcM l) e∧Below w.heap.size w w':=by
 have HR:=zc hr
 have HG:=zc E
 clear hr E
 by_cases ab:(l.length:Int)≤left
 case neg=>
  go_enter Tryz.func80,Tryz.ntmps80
  go_wp2
  go_ret
  exact⟨⟨-1,rfl,by omega,by omega,fun h=>by omega⟩,Below.refl _ _⟩
 go_enter Tryz.func80,Tryz.ntmps80
 go_wp2
 go_loopg [1,5] l.length (fun k s1 s5 wr=>∃(j:Nat) (z:Int),s5= .int .i64 j∧s1= .int .i64 z∧j+k=l.length∧0≤z∧z≤left∧z+((l.length+zD zcM (l.take j):Nat):Int)=left∧Below w.heap.size w wr)
 case atStart=>exact⟨0,_,rfl,rfl,by omega,by omega,by omega,by simp[zD],Below.refl _ _⟩
 case round=>
  obtain⟨j,z,rfl,rfl,hj,X,Z,J,E⟩:=hrel
  have HZ:=zc J
  have O:=zc E
  clear J E
  by_cases V:j<l.length
  ·have M:(j:Int)<(l.length:Int):=by omega
   obtain⟨x,U⟩: ∃x,l[j]? =some x:=⟨_,List.getElem?_eq_getElem V⟩
   obtain⟨b,ad,rfl,A⟩:=(HR.out.later O.out).get U
   have q:=HG.out x (List.mem_of_getElem? U)
   have HC:=zc (zey zcM U)
   have c0:=A 0 _ rfl
   have c1:=A 1 _ rfl
   have c2:=A 2 _ rfl
   have c3:=A 3 _ rfl
   have c4:=A 4 _ rfl
   have c5:=A 5 _ rfl
   simp only[Nat.add_zero] at c0
   clear A U
   obtain⟨N,D⟩: ∃N,N=j+1:=⟨_,rfl⟩
   have ej:(j:Int)+1=(N:Int):=by omega
   have HJ:=zc D
   clear D
   go_wp2_with fail
   refine (zqn x z _ q X (by omega)).mono ?_
   rintro e w1 ⟨⟨z1,rfl,ae,ac,I⟩,L⟩
   have K:=zc (O.out.trans (L.mono O.out.size))
   have aa:=zc I
   clear L I q c0 c1 c2 c3 c4 c5
   by_cases H:0≤z1
   ·go_wp2
    go_roundg (gk-1)
    case rel=>exact⟨N,z1,rfl,rfl,by have:=HJ.out;omega,H,by omega,by have:=HZ.out;have:=aa.out H;rw[HJ.out,HC.out];omega,K.out⟩
    case measure=>omega
   ·go_wp2
    go_ret
    exact⟨⟨-1,rfl,by omega,by omega,fun h=>by omega⟩,K.out⟩
  ·have M: ¬(j:Int)<(l.length:Int):=by omega
   obtain rfl:j=l.length:=by omega
   go_wp2
   go_ret
   exact⟨⟨z,rfl,by omega,Z,fun _=>by have:=HZ.out;rw[List.take_length] at this;exact this⟩,O.out⟩
structure MA where
 a0:Option Addr
 a1:Option Addr
 a2:Option Addr
 a3:Option Addr
 a4:Option Addr
 c0:Nat
 c1:Nat
 c2:Nat
 c3:Nat
 c4:Nat
def zfM (A:MA) (m:Md):Value:=.agg #[.slice A.a0 m.rq.length A.c0,.slice A.a1 m.im.length A.c1,.slice A.a2 m.ep.length A.c2,.slice A.a3 m.st.length A.c3,.slice A.a4 m.ex.length A.c4]
def ModIn (w:World) (A:MA) (m:Md):Prop:=RowAt w A.a0 (fun x=>[Value.string x]) 1 m.rq∧RowAt w A.a1 imL 3 m.im∧RowAt w A.a2 epL 4 m.ep∧RowAt w A.a3 smL 3 m.st∧RowAt w A.a4 exL 6 m.ex
theorem ModIn.later {w z:World} {A:MA} {m:Md} (h:ModIn w A m) (q:Below w.heap.size w z):ModIn z A m:=⟨h.1.later q,h.2.1.later q,h.2.2.1.later q,h.2.2.2.1.later q,h.2.2.2.2.later q⟩
def zfN (m:Md):Prop:=(m.rq.length≤9223372036854775807∧∀x∈m.rq,zea x)∧(m.im.length≤9223372036854775807∧∀x∈m.im,zez x)∧(m.ep.length≤9223372036854775807∧∀x∈m.ep,ze0 x)∧(m.st.length≤9223372036854775807∧∀x∈m.st,ze1 x)∧(m.ex.length≤9223372036854775807∧∀x∈m.ex,ze2 x)
theorem zqp (A:MA) (m:Md) (left:Int) (w:World) (hr:ModIn w A m) (q:zfN m) (h0:0≤left) (h1:left≤1048576):
  Calls Tryz.prog 51 #[zfM A m,.int .i64 left] w fun e w'=>zcw left (zbi m) e∧Below w.heap.size w w':=by
 have HR:=zc hr
 have I:=zc q
 clear hr q
 unfold zfM
 go_enter Tryz.func51,Tryz.ntmps51
 go_upto_region 1 with fail
 have HW:Hid (Below w.heap.size w (w.alloc (.cells #[.slice A.a0 m.rq.length A.c0,.slice A.a1 m.im.length A.c1,.slice A.a2 m.ep.length A.c2,.slice A.a3 m.st.length A.c3,.slice A.a4 m.ex.length A.c4] 85))):=(Below.refl _ _).alloc (Nat.le_refl _) _
 refine zu (R:=fun W=>W.heap[w.heap.size]? =some (.cells #[.slice A.a0 m.rq.length A.c0,.slice A.a1 m.im.length A.c1,.slice A.a2 m.ep.length A.c2,.slice A.a3 m.st.length A.c3,.slice A.a4 m.ex.length A.c4] 85 (0,0))∧ModIn W A m∧Below w.heap.size w W) ⟨heap_alloc_new w _,HR.out.later HW.out,HW.out⟩ ?_
 obtain⟨gx,L⟩: ∃gx,gx=w.heap.size:=⟨_,rfl⟩
 rw[←L]
 rintro w0 ⟨hx,hm,q⟩
 rw[L] at q
 clear L HW HR
 have X0:=zc hx
 have M0:=zc hm
 have V:=zc q
 clear hx hm q
 obtain⟨K,D,z,H,J,E⟩:=zj X0.out
 go_wp2_with fail
 refine (zkD A.a0 A.c0 m.rq left w0 M0.out.1 I.out.1.1 I.out.1.2 (by omega) (by omega)).mono ?_
 rintro e w1 ⟨⟨z0,rfl,y0,u0,v0⟩,q⟩
 have O:=zc (V.out.trans (q.mono V.out.size))
 have M1:=zc (M0.out.later q)
 have Z:=zc ((q.block _ (Array.getElem?_eq_some_iff.1 X0.out).1).trans X0.out)
 have V0:=zc v0
 clear q v0 K D z H J E
 obtain⟨K,D,z,H,J,E⟩:=zj Z.out
 by_cases t0:0≤z0
 case neg=>
  go_wp2
  go_ret
  exact⟨⟨-1,rfl,by omega,by omega,fun h=>by omega⟩,O.out⟩
 go_wp2_with fail
 refine (zqi A.a1 A.c1 m.im z0 w1 M1.out.2.1 I.out.2.1.1 I.out.2.1.2 (by omega) (by omega)).mono ?_
 rintro e w2 ⟨⟨z1,rfl,y1,u1,v1⟩,q⟩
 have M:=zc (O.out.trans (q.mono O.out.size))
 have M2:=zc (M1.out.later q)
 have X2:=zc ((q.block _ (Array.getElem?_eq_some_iff.1 Z.out).1).trans Z.out)
 have V1:=zc v1
 clear q v1 K D z H J E
 obtain⟨K,D,z,H,J,E⟩:=zj X2.out
 by_cases t1:0≤z1
 case neg=>
  go_wp2
  go_ret
  exact⟨⟨-1,rfl,by omega,by omega,fun h=>by omega⟩,M.out⟩
 go_wp2_with fail
 refine (zqk A.a2 A.c2 m.ep z1 w2 M2.out.2.2.1 I.out.2.2.1.1 I.out.2.2.1.2 (by omega) (by omega)).mono ?_
 rintro e w3 ⟨⟨z2,rfl,y2,u2,v2⟩,q⟩
 have N:=zc (M.out.trans (q.mono M.out.size))
 have M3:=zc (M2.out.later q)
 have X3:=zc ((q.block _ (Array.getElem?_eq_some_iff.1 X2.out).1).trans X2.out)
 have V2:=zc v2
 clear q v2 K D z H J E
 obtain⟨K,D,z,H,J,E⟩:=zj X3.out
 by_cases t2:0≤z2
 case neg=>
  go_wp2
  go_ret
  exact⟨⟨-1,rfl,by omega,by omega,fun h=>by omega⟩,N.out⟩
 go_wp2_with fail
 refine (zqm A.a3 A.c3 m.st z2 w3 M3.out.2.2.2.1 I.out.2.2.2.1.1 I.out.2.2.2.1.2 (by omega) (by omega)).mono ?_
 rintro e w4 ⟨⟨z3,rfl,y3,u3,v3⟩,q⟩
 have U:=zc (N.out.trans (q.mono N.out.size))
 have M4:=zc (M3.out.later q)
 have Y:=zc ((q.block _ (Array.getElem?_eq_some_iff.1 X3.out).1).trans X3.out)
 have V3:=zc v3
 clear q v3 K D z H J E
 obtain⟨K,D,z,H,J,E⟩:=zj Y.out
 by_cases t3:0≤z3
 case neg=>
  go_wp2
  go_ret
  exact⟨⟨-1,rfl,by omega,by omega,fun h=>by omega⟩,U.out⟩
 go_wp2_with fail
 refine (zqo A.a4 A.c4 m.ex z3 w4 M4.out.2.2.2.2 I.out.2.2.2.2.1 I.out.2.2.2.2.2 (by omega) (by omega)).mono ?_
 rintro e w5 ⟨⟨z4,rfl,y4,u4,v4⟩,q⟩
 have X:=zc (U.out.trans (q.mono U.out.size))
 have M5:=zc (M4.out.later q)
 have X5:=zc ((q.block _ (Array.getElem?_eq_some_iff.1 Y.out).1).trans Y.out)
 have V4:=zc v4
 clear q v4 K D z H J E
 obtain⟨K,D,z,H,J,E⟩:=zj X5.out
 by_cases t4:0≤z4
 case neg=>
  go_wp2
  go_ret
  exact⟨⟨-1,rfl,by omega,by omega,fun h=>by omega⟩,X.out⟩
 go_wp2
 go_ret
 exact⟨⟨z4,rfl,by omega,by omega,fun _=>by have q0:=V0.out t0;have q1:=V1.out t1;have q2:=V2.out t2;have q3:=V3.out t3;have q4:=V4.out t4;unfold zbi;omega⟩,X.out⟩
theorem Tryz.infoTStr:(Tryz.prog.info? 9).map (fun i=>(i.zero,i.size,i.bytes))=some (some (.string {data:=#[]}),1,16):=by kernel_rfl
theorem zkE (a:Option Addr) (U:Nat) (l:List ByteArray) (w:World) (hr:RowAt w a (fun x=>[Value.string x]) 1 l) (hl:l.length≤1048576):
  Calls Tryz.prog 31 #[.slice a l.length U] w fun e w'=>zeZ w 9 1 l.length (l.flatMap (fun x=>[Value.string x])) e w':=by
 have HR:=zc hr
 clear hr
 obtain⟨i0,hi,N,V,X⟩:=info_parts Tryz.infoTStr
 go_enter Tryz.func31,Tryz.ntmps31
 go_wp2_with (first|(at_make;refine wpList_make_full w rfl _ _ 22 rfl w.heap.size 9 i0 _ 1 Tryz.underlying22 hi N V .i64 .i64 _ _ l.length (by rfl) (by rfl) rfl rfl (by rw[X];omega) (by unfold maxLen;omega) (Nat.le_refl _) ?_))
 intro L q z
 have Z:=zc ((Below.refl _ _).grown z (Nat.le_refl _) (fun k h=>by cases h):Below w.heap.size w L)
 have A:Hid (OwnC L w.heap.size 9 1 w.heap.size l.length (l.flatMap (fun x=>[Value.string x])) 0):=⟨_,q,fun j hj=>absurd hj (Nat.not_lt_zero j)⟩
 clear q z
 obtain⟨g,E⟩: ∃g,g=w.heap.size:=⟨_,rfl⟩
 have Y:=zc E
 rw[←E]
 rw[←E] at A
 have aa:Hid (OwnC L w.heap.size 9 1 g l.length (l.flatMap (fun x=>[Value.string x])) 0):=by rw[←E];exact A.out
 clear E A
 go_wp2
 go_loopg [4] l.length (fun k i wr=>∃j:Nat,i= .int .i64 j∧j+k=l.length∧OwnC wr w.heap.size 9 1 g l.length (l.flatMap (fun x=>[Value.string x])) (j*1)∧Below w.heap.size w wr)
 case atStart=>exact⟨0,rfl,by omega,aa.out,Z.out⟩
 case round=>
  obtain⟨j,rfl,hj,ho,hb⟩:=hrel
  have J:=zc ho
  have O:=zc hb
  clear ho hb
  by_cases M:j<l.length
  ·have H:(j:Int)<(l.length:Int):=by omega
   obtain⟨x,hx⟩: ∃x,l[j]? =some x:=⟨_,List.getElem?_eq_getElem M⟩
   obtain⟨b,ab,rfl,hc⟩:=(HR.out.later O.out).get hx
   have HX:=zc hx
   clear hx
   have c0:=hc 0 _ rfl
   simp only[Nat.add_zero,Nat.mul_one] at c0
   clear hc
   obtain⟨I,D⟩: ∃I,I=j+1:=⟨_,rfl⟩
   have ej:(j:Int)+1=(I:Int):=by omega
   have HJ:=zc D
   clear D
   obtain⟨v0,g0⟩:=J.out.has (j*1) (by omega)
   have f0:=J.out.free (j*1)
   have HN:=zc (J.out.put (by omega) (zbp (f:=(fun x=>[Value.string x])) (m:=1) (fun _=>rfl) l j x 0 _ HX.out rfl))
   simp only[Nat.mul_one] at g0 f0
   have K:w.heap.size≤g:=by have:=Y.out;omega
   go_wp2
   go_roundg (gk-1)
   case rel=>exact⟨I,rfl,by have:=HJ.out;omega,by have:=HN.out;simp only[Nat.mul_one] at this;rw[HJ.out,Nat.mul_one];exact this,(O.out.setCell K _)⟩
   case measure=>omega
  ·have H: ¬(j:Int)<(l.length:Int):=by omega
   obtain rfl:j=l.length:=by omega
   go_wp2
   go_ret
   exact⟨g,rfl,J.out.all (zdZ (f:=(fun x=>[Value.string x])) (fun _=>rfl) l),O.out⟩
theorem Tryz.infoTIm:(Tryz.prog.info? 95).map (fun i=>(i.zero,i.size,i.bytes))=some (some (.agg #[.string {data:=#[]},.string {data:=#[]},.string {data:=#[]}]),3,48):=by kernel_rfl
theorem zqq (x:Im) (w:World):
  Calls Tryz.prog 126 #[.agg #[.string x.spec,.string x.first,.string x.loc]] w fun e h=>e= .returned (.agg #[.string x.spec,.string x.first,.string x.loc])∧Below w.heap.size w h:=by
 go_enter Tryz.func126,Tryz.ntmps126
 go_wp2
 refine bodyPost_ret (results_cell_row rfl _ _ (w.heap.size+1) 95 #[.string x.spec,.string x.first,.string x.loc] (0,0) _ rfl ?_ Tryz.underlying95 rfl (by kernel_rfl)) rfl ?_
 ·rw[heap_alloc_old _ _ (by show _<((w.heap.push _).push _).size;simp)]
  exact heap_alloc2_new w _ _
 ·exact⟨rfl,(((Below.refl _ _).alloc (Nat.le_refl _) _).alloc (by show _≤(w.heap.push _).size;simp) _).alloc (by show _≤((w.heap.push _).push _).size;simp;omega) _⟩
theorem zqr (a:Option Addr) (X:Nat) (l:List Im) (w:World) (hr:RowAt w a imL 3 l) (hl:l.length≤1048576):
  Calls Tryz.prog 89 #[.slice a l.length X] w fun e w'=>zeZ w 95 3 l.length (l.flatMap imL) e w':=by
 have HR:=zc hr
 clear hr
 obtain⟨i0,hi,V,Y,Z⟩:=info_parts Tryz.infoTIm
 go_enter Tryz.func89,Tryz.ntmps89
 go_wp2_with (first|(at_make;refine wpList_make_full w rfl _ _ 49 rfl w.heap.size 95 i0 _ 3 Tryz.underlying49 hi V Y .i64 .i64 _ _ l.length (by rfl) (by rfl) rfl rfl (by rw[Z];omega) (by unfold maxLen;omega) (Nat.le_refl _) ?_))
 intro O z A
 have ab:=zc ((Below.refl _ _).grown A (Nat.le_refl _) (fun k h=>by cases h):Below w.heap.size w O)
 have E:Hid (OwnC O w.heap.size 95 3 w.heap.size l.length (l.flatMap imL) 0):=⟨_,z,fun j hj=>absurd hj (Nat.not_lt_zero j)⟩
 clear z A
 obtain⟨g,J⟩: ∃g,g=w.heap.size:=⟨_,rfl⟩
 have aa:=zc J
 rw[←J]
 rw[←J] at E
 have ac:Hid (OwnC O w.heap.size 95 3 g l.length (l.flatMap imL) 0):=by rw[←J];exact E.out
 clear J E
 go_wp2
 go_loopg [4] l.length (fun k i wr=>∃j:Nat,i= .int .i64 j∧j+k=l.length∧OwnC wr w.heap.size 95 3 g l.length (l.flatMap imL) (j*3)∧Below w.heap.size w wr)
 case atStart=>exact⟨0,rfl,by omega,ac.out,ab.out⟩
 case round=>
  obtain⟨j,rfl,hj,ho,hb⟩:=hrel
  have HO:=zc ho
  have M:=zc hb
  clear ho hb
  by_cases U:j<l.length
  ·have K:(j:Int)<(l.length:Int):=by omega
   obtain⟨x,hx⟩: ∃x,l[j]? =some x:=⟨_,List.getElem?_eq_getElem U⟩
   obtain⟨b,ae,rfl,N⟩:=(HR.out.later M.out).get hx
   have HX:=zc hx
   clear hx
   have c0:=N 0 _ rfl
   have c1:=N 1 _ rfl
   have c2:=N 2 _ rfl
   simp only[Nat.add_zero] at c0
   clear N
   obtain⟨L,I⟩: ∃L,L=j+1:=⟨_,rfl⟩
   have ej:(j:Int)+1=(L:Int):=by omega
   have HJ:=zc I
   clear I
   go_wp2_with fail
   refine (zqq x _).mono ?_
   rintro e w2 ⟨rfl,H⟩
   have q:=zc (HO.out.later H)
   have ad:=zc (M.out.trans (H.mono M.out.size))
   clear H c0 c1 c2
   obtain⟨v0,g0⟩:=q.out.has (j*3) (by omega)
   have f0:=q.out.free (j*3)
   obtain⟨v1,g1⟩:=q.out.has (j*3+1) (by omega)
   have f1:=q.out.free (j*3+1)
   obtain⟨v2,g2⟩:=q.out.has (j*3+2) (by omega)
   have f2:=q.out.free (j*3+2)
   have HN:=zc (((q.out.put (by omega) (zbp (f:=imL) (m:=3) (fun _=>rfl) l j x 0 _ HX.out rfl)).put (by omega) (zbp (f:=imL) (m:=3) (fun _=>rfl) l j x 1 _ HX.out rfl)).put (by omega) (zbp (f:=imL) (m:=3) (fun _=>rfl) l j x 2 _ HX.out rfl))
   have D:w.heap.size≤g:=by have:=aa.out;omega
   go_wp2
   go_roundg (gk-1)
   case rel=>exact⟨L,rfl,by have:=HJ.out;omega,by rw[HJ.out,Nat.succ_mul];exact HN.out,(((ad.out.setCell D _).setCell D _).setCell D _)⟩
   case measure=>omega
  ·have K: ¬(j:Int)<(l.length:Int):=by omega
   obtain rfl:j=l.length:=by omega
   go_wp2
   go_ret
   exact⟨g,rfl,HO.out.all (zdZ (f:=imL) (fun _=>rfl) l),M.out⟩
theorem Tryz.infoTEp:(Tryz.prog.info? 97).map (fun i=>(i.zero,i.size,i.bytes))=some (some (.agg #[.int .i64 0,.string {data:=#[]},.string {data:=#[]},.string {data:=#[]}]),4,56):=by kernel_rfl
theorem zqs (x:Ep) (w:World):
  Calls Tryz.prog 127 #[.agg #[.int .i64 x.kind,.string x.name,.string x.loc,.string x.spec]] w fun e h=>e= .returned (.agg #[.int .i64 x.kind,.string x.name,.string x.loc,.string x.spec])∧Below w.heap.size w h:=by
 go_enter Tryz.func127,Tryz.ntmps127
 go_wp2
 refine bodyPost_ret (results_cell_row rfl _ _ (w.heap.size+1) 97 #[.int .i64 x.kind,.string x.name,.string x.loc,.string x.spec] (0,0) _ rfl ?_ Tryz.underlying97 rfl (by kernel_rfl)) rfl ?_
 ·rw[heap_alloc_old _ _ (by show _<((w.heap.push _).push _).size;simp)]
  exact heap_alloc2_new w _ _
 ·exact⟨rfl,(((Below.refl _ _).alloc (Nat.le_refl _) _).alloc (by show _≤(w.heap.push _).size;simp) _).alloc (by show _≤((w.heap.push _).push _).size;simp;omega) _⟩
theorem zqt (a:Option Addr) (Y:Nat) (l:List Ep) (w:World) (hr:RowAt w a epL 4 l) (hl:l.length≤1048576):
  Calls Tryz.prog 90 #[.slice a l.length Y] w fun e w'=>zeZ w 97 4 l.length (l.flatMap epL) e w':=by
 have HR:=zc hr
 clear hr
 obtain⟨i0,hi,X,Z,aa⟩:=info_parts Tryz.infoTEp
 go_enter Tryz.func90,Tryz.ntmps90
 go_wp2_with (first|(at_make;refine wpList_make_full w rfl _ _ 50 rfl w.heap.size 97 i0 _ 4 Tryz.underlying50 hi X Z .i64 .i64 _ _ l.length (by rfl) (by rfl) rfl rfl (by rw[aa];omega) (by unfold maxLen;omega) (Nat.le_refl _) ?_))
 intro U z D
 have ac:=zc ((Below.refl _ _).grown D (Nat.le_refl _) (fun k h=>by cases h):Below w.heap.size w U)
 have E:Hid (OwnC U w.heap.size 97 4 w.heap.size l.length (l.flatMap epL) 0):=⟨_,z,fun j hj=>absurd hj (Nat.not_lt_zero j)⟩
 clear z D
 obtain⟨g,J⟩: ∃g,g=w.heap.size:=⟨_,rfl⟩
 have ab:=zc J
 rw[←J]
 rw[←J] at E
 have ad:Hid (OwnC U w.heap.size 97 4 g l.length (l.flatMap epL) 0):=by rw[←J];exact E.out
 clear J E
 go_wp2
 go_loopg [4] l.length (fun k i wr=>∃j:Nat,i= .int .i64 j∧j+k=l.length∧OwnC wr w.heap.size 97 4 g l.length (l.flatMap epL) (j*4)∧Below w.heap.size w wr)
 case atStart=>exact⟨0,rfl,by omega,ad.out,ac.out⟩
 case round=>
  obtain⟨j,rfl,hj,ho,hb⟩:=hrel
  have HO:=zc ho
  have N:=zc hb
  clear ho hb
  by_cases V:j<l.length
  ·have K:(j:Int)<(l.length:Int):=by omega
   obtain⟨x,hx⟩: ∃x,l[j]? =some x:=⟨_,List.getElem?_eq_getElem V⟩
   obtain⟨b,af,rfl,L⟩:=(HR.out.later N.out).get hx
   have O:=zc hx
   clear hx
   have c0:=L 0 _ rfl
   have c1:=L 1 _ rfl
   have c2:=L 2 _ rfl
   have c3:=L 3 _ rfl
   simp only[Nat.add_zero] at c0
   clear L
   obtain⟨M,I⟩: ∃M,M=j+1:=⟨_,rfl⟩
   have ej:(j:Int)+1=(M:Int):=by omega
   have HJ:=zc I
   clear I
   go_wp2_with fail
   refine (zqs x _).mono ?_
   rintro e w2 ⟨rfl,H⟩
   have q:=zc (HO.out.later H)
   have ae:=zc (N.out.trans (H.mono N.out.size))
   clear H c0 c1 c2 c3
   obtain⟨v0,g0⟩:=q.out.has (j*4) (by omega)
   have f0:=q.out.free (j*4)
   obtain⟨v1,g1⟩:=q.out.has (j*4+1) (by omega)
   have f1:=q.out.free (j*4+1)
   obtain⟨v2,g2⟩:=q.out.has (j*4+2) (by omega)
   have f2:=q.out.free (j*4+2)
   obtain⟨v3,g3⟩:=q.out.has (j*4+3) (by omega)
   have f3:=q.out.free (j*4+3)
   have HN:=zc ((((q.out.put (by omega) (zbp (f:=epL) (m:=4) (fun _=>rfl) l j x 0 _ O.out rfl)).put (by omega) (zbp (f:=epL) (m:=4) (fun _=>rfl) l j x 1 _ O.out rfl)).put (by omega) (zbp (f:=epL) (m:=4) (fun _=>rfl) l j x 2 _ O.out rfl)).put (by omega) (zbp (f:=epL) (m:=4) (fun _=>rfl) l j x 3 _ O.out rfl))
   have A:w.heap.size≤g:=by have:=ab.out;omega
   go_wp2
   go_roundg (gk-1)
   case rel=>exact⟨M,rfl,by have:=HJ.out;omega,by rw[HJ.out,Nat.succ_mul];exact HN.out,((((ae.out.setCell A _).setCell A _).setCell A _).setCell A _)⟩
   case measure=>omega
  ·have K: ¬(j:Int)<(l.length:Int):=by omega
   obtain rfl:j=l.length:=by omega
   go_wp2
   go_ret
   exact⟨g,rfl,HO.out.all (zdZ (f:=epL) (fun _=>rfl) l),N.out⟩
theorem Tryz.infoTSm:(Tryz.prog.info? 102).map (fun i=>(i.zero,i.size,i.bytes))=some (some (.agg #[.int .i64 0,.string {data:=#[]},.int .i64 0]),3,32):=by kernel_rfl
theorem zqu (x:Sm) (w:World):
  Calls Tryz.prog 128 #[.agg #[.int .i64 x.kind,.string x.name,.int .i64 x.expr]] w fun e h=>e= .returned (.agg #[.int .i64 x.kind,.string x.name,.int .i64 x.expr])∧Below w.heap.size w h:=by
 go_enter Tryz.func128,Tryz.ntmps128
 go_wp2
 refine bodyPost_ret (results_cell_row rfl _ _ (w.heap.size+1) 102 #[.int .i64 x.kind,.string x.name,.int .i64 x.expr] (0,0) _ rfl ?_ Tryz.underlying102 rfl (by kernel_rfl)) rfl ?_
 ·rw[heap_alloc_old _ _ (by show _<((w.heap.push _).push _).size;simp)]
  exact heap_alloc2_new w _ _
 ·exact⟨rfl,(((Below.refl _ _).alloc (Nat.le_refl _) _).alloc (by show _≤(w.heap.push _).size;simp) _).alloc (by show _≤((w.heap.push _).push _).size;simp;omega) _⟩
theorem zqv (a:Option Addr) (X:Nat) (l:List Sm) (w:World) (hr:RowAt w a smL 3 l) (hl:l.length≤1048576):
  Calls Tryz.prog 91 #[.slice a l.length X] w fun e w'=>zeZ w 102 3 l.length (l.flatMap smL) e w':=by
 have HR:=zc hr
 clear hr
 obtain⟨i0,hi,V,Y,Z⟩:=info_parts Tryz.infoTSm
 go_enter Tryz.func91,Tryz.ntmps91
 go_wp2_with (first|(at_make;refine wpList_make_full w rfl _ _ 51 rfl w.heap.size 102 i0 _ 3 Tryz.underlying51 hi V Y .i64 .i64 _ _ l.length (by rfl) (by rfl) rfl rfl (by rw[Z];omega) (by unfold maxLen;omega) (Nat.le_refl _) ?_))
 intro O z A
 have ab:=zc ((Below.refl _ _).grown A (Nat.le_refl _) (fun k h=>by cases h):Below w.heap.size w O)
 have E:Hid (OwnC O w.heap.size 102 3 w.heap.size l.length (l.flatMap smL) 0):=⟨_,z,fun j hj=>absurd hj (Nat.not_lt_zero j)⟩
 clear z A
 obtain⟨g,J⟩: ∃g,g=w.heap.size:=⟨_,rfl⟩
 have aa:=zc J
 rw[←J]
 rw[←J] at E
 have ac:Hid (OwnC O w.heap.size 102 3 g l.length (l.flatMap smL) 0):=by rw[←J];exact E.out
 clear J E
 go_wp2
 go_loopg [4] l.length (fun k i wr=>∃j:Nat,i= .int .i64 j∧j+k=l.length∧OwnC wr w.heap.size 102 3 g l.length (l.flatMap smL) (j*3)∧Below w.heap.size w wr)
 case atStart=>exact⟨0,rfl,by omega,ac.out,ab.out⟩
 case round=>
  obtain⟨j,rfl,hj,ho,hb⟩:=hrel
  have HO:=zc ho
  have M:=zc hb
  clear ho hb
  by_cases U:j<l.length
  ·have K:(j:Int)<(l.length:Int):=by omega
   obtain⟨x,hx⟩: ∃x,l[j]? =some x:=⟨_,List.getElem?_eq_getElem U⟩
   obtain⟨b,ae,rfl,N⟩:=(HR.out.later M.out).get hx
   have HX:=zc hx
   clear hx
   have c0:=N 0 _ rfl
   have c1:=N 1 _ rfl
   have c2:=N 2 _ rfl
   simp only[Nat.add_zero] at c0
   clear N
   obtain⟨L,I⟩: ∃L,L=j+1:=⟨_,rfl⟩
   have ej:(j:Int)+1=(L:Int):=by omega
   have HJ:=zc I
   clear I
   go_wp2_with fail
   refine (zqu x _).mono ?_
   rintro e w2 ⟨rfl,H⟩
   have q:=zc (HO.out.later H)
   have ad:=zc (M.out.trans (H.mono M.out.size))
   clear H c0 c1 c2
   obtain⟨v0,g0⟩:=q.out.has (j*3) (by omega)
   have f0:=q.out.free (j*3)
   obtain⟨v1,g1⟩:=q.out.has (j*3+1) (by omega)
   have f1:=q.out.free (j*3+1)
   obtain⟨v2,g2⟩:=q.out.has (j*3+2) (by omega)
   have f2:=q.out.free (j*3+2)
   have HN:=zc (((q.out.put (by omega) (zbp (f:=smL) (m:=3) (fun _=>rfl) l j x 0 _ HX.out rfl)).put (by omega) (zbp (f:=smL) (m:=3) (fun _=>rfl) l j x 1 _ HX.out rfl)).put (by omega) (zbp (f:=smL) (m:=3) (fun _=>rfl) l j x 2 _ HX.out rfl))
   have D:w.heap.size≤g:=by have:=aa.out;omega
   go_wp2
   go_roundg (gk-1)
   case rel=>exact⟨L,rfl,by have:=HJ.out;omega,by rw[HJ.out,Nat.succ_mul];exact HN.out,(((ad.out.setCell D _).setCell D _).setCell D _)⟩
   case measure=>omega
  ·have K: ¬(j:Int)<(l.length:Int):=by omega
   obtain rfl:j=l.length:=by omega
   go_wp2
   go_ret
   exact⟨g,rfl,HO.out.all (zdZ (f:=smL) (fun _=>rfl) l),M.out⟩
theorem Tryz.infoTEx:(Tryz.prog.info? 100).map (fun i=>(i.zero,i.size,i.bytes))=some (some (.agg #[.int .i64 0,.int .i64 0,.string {data:=#[]},.string {data:=#[]},.int .i64 0,.int .i64 0]),6,64):=by kernel_rfl
theorem zqw (x:Ex) (w:World):
  Calls Tryz.prog 129 #[.agg #[.int .i64 x.kind,.int .i64 x.num,.string x.name,.string x.field,.int .i64 x.l,.int .i64 x.r]] w fun e h=>e= .returned (.agg #[.int .i64 x.kind,.int .i64 x.num,.string x.name,.string x.field,.int .i64 x.l,.int .i64 x.r])∧Below w.heap.size w h:=by
 go_enter Tryz.func129,Tryz.ntmps129
 go_wp2
 refine bodyPost_ret (results_cell_row rfl _ _ (w.heap.size+1) 100 #[.int .i64 x.kind,.int .i64 x.num,.string x.name,.string x.field,.int .i64 x.l,.int .i64 x.r] (0,0) _ rfl ?_ Tryz.underlying100 rfl (by kernel_rfl)) rfl ?_
 ·rw[heap_alloc_old _ _ (by show _<((w.heap.push _).push _).size;simp)]
  exact heap_alloc2_new w _ _
 ·exact⟨rfl,(((Below.refl _ _).alloc (Nat.le_refl _) _).alloc (by show _≤(w.heap.push _).size;simp) _).alloc (by show _≤((w.heap.push _).push _).size;simp;omega) _⟩
theorem zqx (a:Option Addr) (Y:Nat) (l:List Ex) (w:World) (hr:RowAt w a exL 6 l) (hl:l.length≤1048576):
  Calls Tryz.prog 92 #[.slice a l.length Y] w fun e w'=>zeZ w 100 6 l.length (l.flatMap exL) e w':=by
 have HR:=zc hr
 clear hr
 obtain⟨i0,hi,X,Z,aa⟩:=info_parts Tryz.infoTEx
 go_enter Tryz.func92,Tryz.ntmps92
 go_wp2_with (first|(at_make;refine wpList_make_full w rfl _ _ 52 rfl w.heap.size 100 i0 _ 6 Tryz.underlying52 hi X Z .i64 .i64 _ _ l.length (by rfl) (by rfl) rfl rfl (by rw[aa];omega) (by unfold maxLen;omega) (Nat.le_refl _) ?_))
 intro U A D
 have ac:=zc ((Below.refl _ _).grown D (Nat.le_refl _) (fun k h=>by cases h):Below w.heap.size w U)
 have E:Hid (OwnC U w.heap.size 100 6 w.heap.size l.length (l.flatMap exL) 0):=⟨_,A,fun j hj=>absurd hj (Nat.not_lt_zero j)⟩
 clear A D
 obtain⟨g,L⟩: ∃g,g=w.heap.size:=⟨_,rfl⟩
 have ab:=zc L
 rw[←L]
 rw[←L] at E
 have ad:Hid (OwnC U w.heap.size 100 6 g l.length (l.flatMap exL) 0):=by rw[←L];exact E.out
 clear L E
 go_wp2
 go_loopg [4] l.length (fun k i wr=>∃j:Nat,i= .int .i64 j∧j+k=l.length∧OwnC wr w.heap.size 100 6 g l.length (l.flatMap exL) (j*6)∧Below w.heap.size w wr)
 case atStart=>exact⟨0,rfl,by omega,ad.out,ac.out⟩
 case round=>
  obtain⟨j,rfl,hj,ho,hb⟩:=hrel
  have HO:=zc ho
  have O:=zc hb
  clear ho hb
  by_cases V:j<l.length
  ·have M:(j:Int)<(l.length:Int):=by omega
   obtain⟨x,hx⟩: ∃x,l[j]? =some x:=⟨_,List.getElem?_eq_getElem V⟩
   obtain⟨b,af,rfl,I⟩:=(HR.out.later O.out).get hx
   have J:=zc hx
   clear hx
   have c0:=I 0 _ rfl
   have c1:=I 1 _ rfl
   have c2:=I 2 _ rfl
   have c3:=I 3 _ rfl
   have c4:=I 4 _ rfl
   have c5:=I 5 _ rfl
   simp only[Nat.add_zero] at c0
   clear I
   obtain⟨N,K⟩: ∃N,N=j+1:=⟨_,rfl⟩
   have ej:(j:Int)+1=(N:Int):=by omega
   have HJ:=zc K
   clear K
   go_wp2_with fail
   refine (zqw x _).mono ?_
   rintro e w2 ⟨rfl,H⟩
   have q:=zc (HO.out.later H)
   have ae:=zc (O.out.trans (H.mono O.out.size))
   clear H c0 c1 c2 c3 c4 c5
   obtain⟨v0,g0⟩:=q.out.has (j*6) (by omega)
   have f0:=q.out.free (j*6)
   obtain⟨v1,g1⟩:=q.out.has (j*6+1) (by omega)
   have f1:=q.out.free (j*6+1)
   obtain⟨v2,g2⟩:=q.out.has (j*6+2) (by omega)
   have f2:=q.out.free (j*6+2)
   obtain⟨v3,g3⟩:=q.out.has (j*6+3) (by omega)
   have f3:=q.out.free (j*6+3)
   obtain⟨v4,g4⟩:=q.out.has (j*6+4) (by omega)
   have f4:=q.out.free (j*6+4)
   obtain⟨v5,g5⟩:=q.out.has (j*6+5) (by omega)
   have f5:=q.out.free (j*6+5)
   have HN:=zc ((((((q.out.put (by omega) (zbp (f:=exL) (m:=6) (fun _=>rfl) l j x 0 _ J.out rfl)).put (by omega) (zbp (f:=exL) (m:=6) (fun _=>rfl) l j x 1 _ J.out rfl)).put (by omega) (zbp (f:=exL) (m:=6) (fun _=>rfl) l j x 2 _ J.out rfl)).put (by omega) (zbp (f:=exL) (m:=6) (fun _=>rfl) l j x 3 _ J.out rfl)).put (by omega) (zbp (f:=exL) (m:=6) (fun _=>rfl) l j x 4 _ J.out rfl)).put (by omega) (zbp (f:=exL) (m:=6) (fun _=>rfl) l j x 5 _ J.out rfl))
   have z:w.heap.size≤g:=by have:=ab.out;omega
   go_wp2
   go_roundg (gk-1)
   case rel=>exact⟨N,rfl,by have:=HJ.out;omega,by rw[HJ.out,Nat.succ_mul];exact HN.out,((((((ae.out.setCell z _).setCell z _).setCell z _).setCell z _).setCell z _).setCell z _)⟩
   case measure=>omega
  ·have M: ¬(j:Int)<(l.length:Int):=by omega
   obtain rfl:j=l.length:=by omega
   go_wp2
   go_ret
   exact⟨g,rfl,HO.out.all (zdZ (f:=exL) (fun _=>rfl) l),O.out⟩
end Go.Proofs.YtgcbmogmniahjaaGreat
