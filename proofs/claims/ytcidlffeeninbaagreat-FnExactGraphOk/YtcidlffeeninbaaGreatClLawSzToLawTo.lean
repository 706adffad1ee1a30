/-
  What the laws' size counters answer: the walks.
  What the laws' copiers answer: the walks.
-/
import Derived.Deep.Cut
import Derived.Test.YtcidlffeeninbaaGreatClSrcRowToCostMath
namespace Go.Proofs.YtcidlffeeninbaaGreat
set_option maxRecDepth 100000
set_option maxHeartbeats 3200000
open Go.RowKit Go.PlainAid Go.Sort
def zdG (x:ByteArray):Prop:=x.size≤9223372036854775807
theorem zjT (a:Option Addr) (N:Nat) (l:List ByteArray) (left:Int) (w:World) (X:RowAt w a (fun x=>[Value.string x]) 1 l) (hl:l.length≤9223372036854775807) (q: ∀x∈l,zdG x) (h0:0≤left) (h1:left≤1048576):
  Calls Tryz.prog 9 #[.slice a l.length N,.int .i64 left] w fun e Z=>zcn left (l.length+zE zbU l) e∧Below w.heap.size w Z:=by
 have HR:=zc X
 have HG:=zc q
 clear X q
 by_cases ab:(l.length:Int)≤left
 case neg=>
  go_enter Tryz.func9,Tryz.ntmps9
  go_wp2
  go_ret
  exact⟨⟨-1,rfl,by omega,by omega,fun h=>by omega⟩,Below.refl _ _⟩
 go_enter Tryz.func9,Tryz.ntmps9
 go_wp2
 go_loopg [1,5] l.length (fun k s1 s5 wr=>∃(j:Nat) (z:Int),s5= .int .i64 j∧s1= .int .i64 z∧j+k=l.length∧0≤z∧z≤left∧z+((l.length+zE zbU (l.take j):Nat):Int)=left∧Below w.heap.size w wr)
 case atStart=>exact⟨0,_,rfl,rfl,by omega,by omega,by omega,by simp[zE],Below.refl _ _⟩
 case round=>
  obtain⟨j,z,rfl,rfl,hj,aa,M,A,q⟩:=hrel
  have U:=zc A
  have I:=zc q
  clear A q
  by_cases L:j<l.length
  ·have E:(j:Int)<(l.length:Int):=by omega
   obtain⟨x,J⟩: ∃x,l[j]? =some x:=⟨_,List.getElem?_eq_getElem L⟩
   obtain⟨b,ac,rfl,Y⟩:=(HR.out.later I.out).get J
   have H:=HG.out x (List.mem_of_getElem? J)
   have HC:=zc (zeg zbU J)
   have c0:=Y 0 _ rfl
   simp only[Nat.add_zero,Nat.mul_one] at c0
   clear Y J
   obtain⟨K,D⟩: ∃K,K=j+1:=⟨_,rfl⟩
   have ej:(j:Int)+1=(K:Int):=by omega
   have V:=zc D
   clear D
   unfold zdG at H
   by_cases O:0≤z-(x.size:Int)
   ·go_wp2
    go_roundg (gk-1)
    case rel=>exact⟨K,_,rfl,rfl,by have:=V.out;omega,O,by omega,by have:=U.out;have:zbU x=x.size:=rfl;rw[V.out,HC.out];omega,I.out⟩
    case measure=>omega
   ·go_wp2
    go_ret
    exact⟨⟨-1,rfl,by omega,by omega,fun h=>by omega⟩,I.out⟩
  ·have E: ¬(j:Int)<(l.length:Int):=by omega
   obtain rfl:j=l.length:=by omega
   go_wp2
   go_ret
   exact⟨⟨z,rfl,by omega,M,fun _=>by have:=U.out;rw[List.take_length] at this;exact this⟩,I.out⟩
def zeh (x:Im):Prop:=x.spec.size≤9223372036854775807∧x.first.size≤9223372036854775807∧x.loc.size≤9223372036854775807
theorem zoX (x:Im) (left:Int) (w:World) (q:zeh x) (H:0≤left) (A:left≤1048576):
  Calls Tryz.prog 80 #[.agg #[.string x.spec,.string x.first,.string x.loc],.int .i64 left] w fun e z=>zcn left (zbV x) e∧Below w.heap.size w z:=by
 unfold zeh at q
 obtain⟨I,E,D⟩:=q
 go_enter Tryz.func80,Tryz.ntmps80
 go_wp2
 ·go_ret
  exact⟨⟨-1,rfl,by omega,by omega,fun h=>by omega⟩,(Below.refl _ _).alloc (Nat.le_refl _) _⟩
 ·go_ret
  exact⟨⟨-1,rfl,by omega,by omega,fun h=>by omega⟩,(Below.refl _ _).alloc (Nat.le_refl _) _⟩
 ·go_ret
  exact⟨⟨-1,rfl,by omega,by omega,fun h=>by omega⟩,(Below.refl _ _).alloc (Nat.le_refl _) _⟩
 ·go_ret
  exact⟨⟨_,rfl,by omega,by omega,fun _=>by unfold zbV;omega⟩,(Below.refl _ _).alloc (Nat.le_refl _) _⟩
theorem zoY (a:Option Addr) (aa:Nat) (l:List Im) (left:Int) (w:World) (hr:RowAt w a imL 3 l) (hl:l.length≤9223372036854775807) (A: ∀x∈l,zeh x) (h0:0≤left) (h1:left≤1048576):
  Calls Tryz.prog 48 #[.slice a l.length aa,.int .i64 left] w fun e w'=>zcn left (l.length+zE zbV l) e∧Below w.heap.size w w':=by
 have HR:=zc hr
 have HG:=zc A
 clear hr A
 by_cases ad:(l.length:Int)≤left
 case neg=>
  go_enter Tryz.func48,Tryz.ntmps48
  go_wp2
  go_ret
  exact⟨⟨-1,rfl,by omega,by omega,fun h=>by omega⟩,Below.refl _ _⟩
 go_enter Tryz.func48,Tryz.ntmps48
 go_wp2
 go_loopg [1,5] l.length (fun k s1 s5 wr=>∃(j:Nat) (z:Int),s5= .int .i64 j∧s1= .int .i64 z∧j+k=l.length∧0≤z∧z≤left∧z+((l.length+zE zbV (l.take j):Nat):Int)=left∧Below w.heap.size w wr)
 case atStart=>exact⟨0,_,rfl,rfl,by omega,by omega,by omega,by simp[zE],Below.refl _ _⟩
 case round=>
  obtain⟨j,z,rfl,rfl,hj,Z,Y,D,A⟩:=hrel
  have HZ:=zc D
  have M:=zc A
  clear D A
  by_cases V:j<l.length
  ·have H:(j:Int)<(l.length:Int):=by omega
   obtain⟨x,N⟩: ∃x,l[j]? =some x:=⟨_,List.getElem?_eq_getElem V⟩
   obtain⟨b,ae,rfl,O⟩:=(HR.out.later M.out).get N
   have q:=HG.out x (List.mem_of_getElem? N)
   have HC:=zc (zeg zbV N)
   have c0:=O 0 _ rfl
   have c1:=O 1 _ rfl
   have c2:=O 2 _ rfl
   simp only[Nat.add_zero] at c0
   clear O N
   obtain⟨U,E⟩: ∃U,U=j+1:=⟨_,rfl⟩
   have ej:(j:Int)+1=(U:Int):=by omega
   have HJ:=zc E
   clear E
   go_wp2_with fail
   refine (zoX x z _ q Z (by omega)).mono ?_
   rintro e w1 ⟨⟨z1,rfl,ab,ac,L⟩,K⟩
   have J:=zc (M.out.trans (K.mono M.out.size))
   have X:=zc L
   clear K L q c0 c1 c2
   by_cases I:0≤z1
   ·go_wp2
    go_roundg (gk-1)
    case rel=>exact⟨U,z1,rfl,rfl,by have:=HJ.out;omega,I,by omega,by have:=HZ.out;have:=X.out I;rw[HJ.out,HC.out];omega,J.out⟩
    case measure=>omega
   ·go_wp2
    go_ret
    exact⟨⟨-1,rfl,by omega,by omega,fun h=>by omega⟩,J.out⟩
  ·have H: ¬(j:Int)<(l.length:Int):=by omega
   obtain rfl:j=l.length:=by omega
   go_wp2
   go_ret
   exact⟨⟨z,rfl,by omega,Y,fun _=>by have:=HZ.out;rw[List.take_length] at this;exact this⟩,M.out⟩
def zei (x:Ep):Prop:=x.name.size≤9223372036854775807∧x.loc.size≤9223372036854775807∧x.spec.size≤9223372036854775807
theorem zoZ (x:Ep) (left:Int) (w:World) (q:zei x) (H:0≤left) (A:left≤1048576):
  Calls Tryz.prog 81 #[.agg #[.int .i64 x.kind,.string x.name,.string x.loc,.string x.spec],.int .i64 left] w fun e z=>zcn left (zbW x) e∧Below w.heap.size w z:=by
 unfold zei at q
 obtain⟨I,E,D⟩:=q
 go_enter Tryz.func81,Tryz.ntmps81
 go_wp2
 ·go_ret
  exact⟨⟨-1,rfl,by omega,by omega,fun h=>by omega⟩,(Below.refl _ _).alloc (Nat.le_refl _) _⟩
 ·go_ret
  exact⟨⟨-1,rfl,by omega,by omega,fun h=>by omega⟩,(Below.refl _ _).alloc (Nat.le_refl _) _⟩
 ·go_ret
  exact⟨⟨-1,rfl,by omega,by omega,fun h=>by omega⟩,(Below.refl _ _).alloc (Nat.le_refl _) _⟩
 ·go_ret
  exact⟨⟨_,rfl,by omega,by omega,fun _=>by unfold zbW;omega⟩,(Below.refl _ _).alloc (Nat.le_refl _) _⟩
theorem zpa (a:Option Addr) (aa:Nat) (l:List Ep) (left:Int) (w:World) (hr:RowAt w a epL 4 l) (hl:l.length≤9223372036854775807) (A: ∀x∈l,zei x) (h0:0≤left) (h1:left≤1048576):
  Calls Tryz.prog 49 #[.slice a l.length aa,.int .i64 left] w fun e w'=>zcn left (l.length+zE zbW l) e∧Below w.heap.size w w':=by
 have HR:=zc hr
 have HG:=zc A
 clear hr A
 by_cases ad:(l.length:Int)≤left
 case neg=>
  go_enter Tryz.func49,Tryz.ntmps49
  go_wp2
  go_ret
  exact⟨⟨-1,rfl,by omega,by omega,fun h=>by omega⟩,Below.refl _ _⟩
 go_enter Tryz.func49,Tryz.ntmps49
 go_wp2
 go_loopg [1,5] l.length (fun k s1 s5 wr=>∃(j:Nat) (z:Int),s5= .int .i64 j∧s1= .int .i64 z∧j+k=l.length∧0≤z∧z≤left∧z+((l.length+zE zbW (l.take j):Nat):Int)=left∧Below w.heap.size w wr)
 case atStart=>exact⟨0,_,rfl,rfl,by omega,by omega,by omega,by simp[zE],Below.refl _ _⟩
 case round=>
  obtain⟨j,z,rfl,rfl,hj,Z,Y,D,A⟩:=hrel
  have HZ:=zc D
  have N:=zc A
  clear D A
  by_cases V:j<l.length
  ·have H:(j:Int)<(l.length:Int):=by omega
   obtain⟨x,O⟩: ∃x,l[j]? =some x:=⟨_,List.getElem?_eq_getElem V⟩
   obtain⟨b,ae,rfl,K⟩:=(HR.out.later N.out).get O
   have q:=HG.out x (List.mem_of_getElem? O)
   have HC:=zc (zeg zbW O)
   have c0:=K 0 _ rfl
   have c1:=K 1 _ rfl
   have c2:=K 2 _ rfl
   have c3:=K 3 _ rfl
   simp only[Nat.add_zero] at c0
   clear K O
   obtain⟨U,E⟩: ∃U,U=j+1:=⟨_,rfl⟩
   have ej:(j:Int)+1=(U:Int):=by omega
   have HJ:=zc E
   clear E
   go_wp2_with fail
   refine (zoZ x z _ q Z (by omega)).mono ?_
   rintro e w1 ⟨⟨z1,rfl,ab,ac,M⟩,L⟩
   have J:=zc (N.out.trans (L.mono N.out.size))
   have X:=zc M
   clear L M q c0 c1 c2 c3
   by_cases I:0≤z1
   ·go_wp2
    go_roundg (gk-1)
    case rel=>exact⟨U,z1,rfl,rfl,by have:=HJ.out;omega,I,by omega,by have:=HZ.out;have:=X.out I;rw[HJ.out,HC.out];omega,J.out⟩
    case measure=>omega
   ·go_wp2
    go_ret
    exact⟨⟨-1,rfl,by omega,by omega,fun h=>by omega⟩,J.out⟩
  ·have H: ¬(j:Int)<(l.length:Int):=by omega
   obtain rfl:j=l.length:=by omega
   go_wp2
   go_ret
   exact⟨⟨z,rfl,by omega,Y,fun _=>by have:=HZ.out;rw[List.take_length] at this;exact this⟩,N.out⟩
def zej (x:Sm):Prop:=x.name.size≤9223372036854775807
theorem zpb (x:Sm) (left:Int) (w:World) (z:zej x) (D:0≤left) (A:left≤1048576):
  Calls Tryz.prog 82 #[.agg #[.int .i64 x.kind,.string x.name,.int .i64 x.expr],.int .i64 left] w fun e q=>zcn left (zco x) e∧Below w.heap.size w q:=by
 unfold zej at z
 go_enter Tryz.func82,Tryz.ntmps82
 go_wp2
 ·go_ret
  exact⟨⟨-1,rfl,by omega,by omega,fun h=>by omega⟩,(Below.refl _ _).alloc (Nat.le_refl _) _⟩
 ·go_ret
  exact⟨⟨_,rfl,by omega,by omega,fun _=>by unfold zco;omega⟩,(Below.refl _ _).alloc (Nat.le_refl _) _⟩
theorem zpc (a:Option Addr) (aa:Nat) (l:List Sm) (left:Int) (w:World) (hr:RowAt w a smL 3 l) (hl:l.length≤9223372036854775807) (A: ∀x∈l,zej x) (h0:0≤left) (h1:left≤1048576):
  Calls Tryz.prog 50 #[.slice a l.length aa,.int .i64 left] w fun e w'=>zcn left (l.length+zE zco l) e∧Below w.heap.size w w':=by
 have HR:=zc hr
 have HG:=zc A
 clear hr A
 by_cases ad:(l.length:Int)≤left
 case neg=>
  go_enter Tryz.func50,Tryz.ntmps50
  go_wp2
  go_ret
  exact⟨⟨-1,rfl,by omega,by omega,fun h=>by omega⟩,Below.refl _ _⟩
 go_enter Tryz.func50,Tryz.ntmps50
 go_wp2
 go_loopg [1,5] l.length (fun k s1 s5 wr=>∃(j:Nat) (z:Int),s5= .int .i64 j∧s1= .int .i64 z∧j+k=l.length∧0≤z∧z≤left∧z+((l.length+zE zco (l.take j):Nat):Int)=left∧Below w.heap.size w wr)
 case atStart=>exact⟨0,_,rfl,rfl,by omega,by omega,by omega,by simp[zE],Below.refl _ _⟩
 case round=>
  obtain⟨j,z,rfl,rfl,hj,Z,Y,D,A⟩:=hrel
  have HZ:=zc D
  have M:=zc A
  clear D A
  by_cases V:j<l.length
  ·have H:(j:Int)<(l.length:Int):=by omega
   obtain⟨x,N⟩: ∃x,l[j]? =some x:=⟨_,List.getElem?_eq_getElem V⟩
   obtain⟨b,ae,rfl,O⟩:=(HR.out.later M.out).get N
   have q:=HG.out x (List.mem_of_getElem? N)
   have HC:=zc (zeg zco N)
   have c0:=O 0 _ rfl
   have c1:=O 1 _ rfl
   have c2:=O 2 _ rfl
   simp only[Nat.add_zero] at c0
   clear O N
   obtain⟨U,E⟩: ∃U,U=j+1:=⟨_,rfl⟩
   have ej:(j:Int)+1=(U:Int):=by omega
   have HJ:=zc E
   clear E
   go_wp2_with fail
   refine (zpb x z _ q Z (by omega)).mono ?_
   rintro e w1 ⟨⟨z1,rfl,ab,ac,L⟩,K⟩
   have J:=zc (M.out.trans (K.mono M.out.size))
   have X:=zc L
   clear K L q c0 c1 c2
   by_cases I:0≤z1
   ·go_wp2
    go_roundg (gk-1)
    case rel=>exact⟨U,z1,rfl,rfl,by have:=HJ.out;omega,I,by omega,by have:=HZ.out;have:=X.out I;rw[HJ.out,HC.out];omega,J.out⟩
    case measure=>omega
   ·go_wp2
    go_ret
    exact⟨⟨-1,rfl,by omega,by omega,fun h=>by omega⟩,J.out⟩
  ·have H: ¬(j:Int)<(l.length:Int):=by omega
   obtain rfl:j=l.length:=by omega
   go_wp2
   go_ret
   exact⟨⟨z,rfl,by omega,Y,fun _=>by have:=HZ.out;rw[List.take_length] at this;exact this⟩,M.out⟩
def zek (x:Ex):Prop:=x.name.size≤9223372036854775807∧x.field.size≤9223372036854775807
theorem zpd (x:Ex) (left:Int) (w:World) (q:zek x) (E:0≤left) (A:left≤1048576):
  Calls Tryz.prog 83 #[.agg #[.int .i64 x.kind,.int .i64 x.num,.string x.name,.string x.field,.int .i64 x.l,.int .i64 x.r],.int .i64 left] w fun e z=>zcn left (zcF x) e∧Below w.heap.size w z:=by
 unfold zek at q
 obtain⟨H,D⟩:=q
 go_enter Tryz.func83,Tryz.ntmps83
 go_wp2
 ·go_ret
  exact⟨⟨-1,rfl,by omega,by omega,fun h=>by omega⟩,(Below.refl _ _).alloc (Nat.le_refl _) _⟩
 ·go_ret
  exact⟨⟨-1,rfl,by omega,by omega,fun h=>by omega⟩,(Below.refl _ _).alloc (Nat.le_refl _) _⟩
 ·go_ret
  exact⟨⟨_,rfl,by omega,by omega,fun _=>by unfold zcF;omega⟩,(Below.refl _ _).alloc (Nat.le_refl _) _⟩
theorem zpe (a:Option Addr) (aa:Nat) (l:List Ex) (left:Int) (w:World) (hr:RowAt w a exL 6 l) (hl:l.length≤9223372036854775807) (D: ∀x∈l,zek x) (h0:0≤left) (h1:left≤1048576):
  Calls Tryz.prog 51 #[.slice a l.length aa,.int .i64 left] w fun e w'=>zcn left (l.length+zE zcF l) e∧Below w.heap.size w w':=by
 have HR:=zc hr
 have HG:=zc D
 clear hr D
 by_cases ad:(l.length:Int)≤left
 case neg=>
  go_enter Tryz.func51,Tryz.ntmps51
  go_wp2
  go_ret
  exact⟨⟨-1,rfl,by omega,by omega,fun h=>by omega⟩,Below.refl _ _⟩
 go_enter Tryz.func51,Tryz.ntmps51
 go_wp2
 go_loopg [1,5] l.length (fun k s1 s5 wr=>∃(j:Nat) (z:Int),s5= .int .i64 j∧s1= .int .i64 z∧j+k=l.length∧0≤z∧z≤left∧z+((l.length+zE zcF (l.take j):Nat):Int)=left∧Below w.heap.size w wr)
 case atStart=>exact⟨0,_,rfl,rfl,by omega,by omega,by omega,by simp[zE],Below.refl _ _⟩
 case round=>
  obtain⟨j,z,rfl,rfl,hj,Z,Y,E,D⟩:=hrel
  have HZ:=zc E
  have N:=zc D
  clear E D
  by_cases V:j<l.length
  ·have I:(j:Int)<(l.length:Int):=by omega
   obtain⟨x,O⟩: ∃x,l[j]? =some x:=⟨_,List.getElem?_eq_getElem V⟩
   obtain⟨b,ae,rfl,A⟩:=(HR.out.later N.out).get O
   have q:=HG.out x (List.mem_of_getElem? O)
   have HC:=zc (zeg zcF O)
   have c0:=A 0 _ rfl
   have c1:=A 1 _ rfl
   have c2:=A 2 _ rfl
   have c3:=A 3 _ rfl
   have c4:=A 4 _ rfl
   have c5:=A 5 _ rfl
   simp only[Nat.add_zero] at c0
   clear A O
   obtain⟨U,H⟩: ∃U,U=j+1:=⟨_,rfl⟩
   have ej:(j:Int)+1=(U:Int):=by omega
   have HJ:=zc H
   clear H
   go_wp2_with fail
   refine (zpd x z _ q Z (by omega)).mono ?_
   rintro e w1 ⟨⟨z1,rfl,ab,ac,M⟩,L⟩
   have K:=zc (N.out.trans (L.mono N.out.size))
   have X:=zc M
   clear L M q c0 c1 c2 c3 c4 c5
   by_cases J:0≤z1
   ·go_wp2
    go_roundg (gk-1)
    case rel=>exact⟨U,z1,rfl,rfl,by have:=HJ.out;omega,J,by omega,by have:=HZ.out;have:=X.out J;rw[HJ.out,HC.out];omega,K.out⟩
    case measure=>omega
   ·go_wp2
    go_ret
    exact⟨⟨-1,rfl,by omega,by omega,fun h=>by omega⟩,K.out⟩
  ·have I: ¬(j:Int)<(l.length:Int):=by omega
   obtain rfl:j=l.length:=by omega
   go_wp2
   go_ret
   exact⟨⟨z,rfl,by omega,Y,fun _=>by have:=HZ.out;rw[List.take_length] at this;exact this⟩,N.out⟩
structure MA where
 a0:Option Addr
 a1:Option Addr
 a2:Option Addr
 a3:Option Addr
 a4:Option Addr
 c0:Nat
 c1:Nat
 c2:Nat
 c3:Nat
 c4:Nat
def zfz (A:MA) (m:Md):Value:=.agg #[.slice A.a0 m.rq.length A.c0,.slice A.a1 m.im.length A.c1,.slice A.a2 m.ep.length A.c2,.slice A.a3 m.st.length A.c3,.slice A.a4 m.ex.length A.c4]
def ModIn (w:World) (A:MA) (m:Md):Prop:=RowAt w A.a0 (fun x=>[Value.string x]) 1 m.rq∧RowAt w A.a1 imL 3 m.im∧RowAt w A.a2 epL 4 m.ep∧RowAt w A.a3 smL 3 m.st∧RowAt w A.a4 exL 6 m.ex
theorem ModIn.later {w z:World} {A:MA} {m:Md} (h:ModIn w A m) (q:Below w.heap.size w z):ModIn z A m:=⟨h.1.later q,h.2.1.later q,h.2.2.1.later q,h.2.2.2.1.later q,h.2.2.2.2.later q⟩
def zf0 (m:Md):Prop:=(m.rq.length≤9223372036854775807∧∀x∈m.rq,zdG x)∧(m.im.length≤9223372036854775807∧∀x∈m.im,zeh x)∧(m.ep.length≤9223372036854775807∧∀x∈m.ep,zei x)∧(m.st.length≤9223372036854775807∧∀x∈m.st,zej x)∧(m.ex.length≤9223372036854775807∧∀x∈m.ex,zek x)
theorem zpf (A:MA) (m:Md) (left:Int) (w:World) (hr:ModIn w A m) (q:zf0 m) (h0:0≤left) (h1:left≤1048576):
  Calls Tryz.prog 28 #[zfz A m,.int .i64 left] w fun e w'=>zcn left (zb4 m) e∧Below w.heap.size w w':=by
 have HR:=zc hr
 have D:=zc q
 clear hr q
 unfold zfz
 go_enter Tryz.func28,Tryz.ntmps28
 go_upto_region 1 with fail
 have Z:Hid (Below w.heap.size w (w.alloc (.cells #[.slice A.a0 m.rq.length A.c0,.slice A.a1 m.im.length A.c1,.slice A.a2 m.ep.length A.c2,.slice A.a3 m.st.length A.c3,.slice A.a4 m.ex.length A.c4] 70))):=(Below.refl _ _).alloc (Nat.le_refl _) _
 refine zx (R:=fun W=>W.heap[w.heap.size]? =some (.cells #[.slice A.a0 m.rq.length A.c0,.slice A.a1 m.im.length A.c1,.slice A.a2 m.ep.length A.c2,.slice A.a3 m.st.length A.c3,.slice A.a4 m.ex.length A.c4] 70 (0,0))∧ModIn W A m∧Below w.heap.size w W) ⟨heap_alloc_new w _,HR.out.later Z.out,Z.out⟩ ?_
 obtain⟨gx,U⟩: ∃gx,gx=w.heap.size:=⟨_,rfl⟩
 rw[←U]
 rintro w0 ⟨hx,hm,q⟩
 rw[U] at q
 clear U Z HR
 have X0:=zc hx
 have M0:=zc hm
 have V:=zc q
 clear hx hm q
 obtain⟨K,J,z,I,H,E⟩:=zk X0.out
 go_wp2_with fail
 refine (zjT A.a0 A.c0 m.rq left w0 M0.out.1 D.out.1.1 D.out.1.2 (by omega) (by omega)).mono ?_
 rintro e w1 ⟨⟨z0,rfl,y0,u0,v0⟩,q⟩
 have M:=zc (V.out.trans (q.mono V.out.size))
 have M1:=zc (M0.out.later q)
 have X1:=zc ((q.block _ (Array.getElem?_eq_some_iff.1 X0.out).1).trans X0.out)
 have V0:=zc v0
 clear q v0 K J z I H E
 obtain⟨K,J,z,I,H,E⟩:=zk X1.out
 by_cases t0:0≤z0
 case neg=>
  go_wp2
  go_ret
  exact⟨⟨-1,rfl,by omega,by omega,fun h=>by omega⟩,M.out⟩
 go_wp2_with fail
 refine (zoY A.a1 A.c1 m.im z0 w1 M1.out.2.1 D.out.2.1.1 D.out.2.1.2 (by omega) (by omega)).mono ?_
 rintro e w2 ⟨⟨z1,rfl,y1,u1,v1⟩,q⟩
 have O:=zc (M.out.trans (q.mono M.out.size))
 have M2:=zc (M1.out.later q)
 have Y:=zc ((q.block _ (Array.getElem?_eq_some_iff.1 X1.out).1).trans X1.out)
 have V1:=zc v1
 clear q v1 K J z I H E
 obtain⟨K,J,z,I,H,E⟩:=zk Y.out
 by_cases t1:0≤z1
 case neg=>
  go_wp2
  go_ret
  exact⟨⟨-1,rfl,by omega,by omega,fun h=>by omega⟩,O.out⟩
 go_wp2_with fail
 refine (zpa A.a2 A.c2 m.ep z1 w2 M2.out.2.2.1 D.out.2.2.1.1 D.out.2.2.1.2 (by omega) (by omega)).mono ?_
 rintro e w3 ⟨⟨z2,rfl,y2,u2,v2⟩,q⟩
 have L:=zc (O.out.trans (q.mono O.out.size))
 have M3:=zc (M2.out.later q)
 have X3:=zc ((q.block _ (Array.getElem?_eq_some_iff.1 Y.out).1).trans Y.out)
 have V2:=zc v2
 clear q v2 K J z I H E
 obtain⟨K,J,z,I,H,E⟩:=zk X3.out
 by_cases t2:0≤z2
 case neg=>
  go_wp2
  go_ret
  exact⟨⟨-1,rfl,by omega,by omega,fun h=>by omega⟩,L.out⟩
 go_wp2_with fail
 refine (zpc A.a3 A.c3 m.st z2 w3 M3.out.2.2.2.1 D.out.2.2.2.1.1 D.out.2.2.2.1.2 (by omega) (by omega)).mono ?_
 rintro e w4 ⟨⟨z3,rfl,y3,u3,v3⟩,q⟩
 have N:=zc (L.out.trans (q.mono L.out.size))
 have M4:=zc (M3.out.later q)
 have X4:=zc ((q.block _ (Array.getElem?_eq_some_iff.1 X3.out).1).trans X3.out)
 have V3:=zc v3
 clear q v3 K J z I H E
 obtain⟨K,J,z,I,H,E⟩:=zk X4.out
 by_cases t3:0≤z3
 case neg=>
  go_wp2
  go_ret
  exact⟨⟨-1,rfl,by omega,by omega,fun h=>by omega⟩,N.out⟩
 go_wp2_with fail
 refine (zpe A.a4 A.c4 m.ex z3 w4 M4.out.2.2.2.2 D.out.2.2.2.2.1 D.out.2.2.2.2.2 (by omega) (by omega)).mono ?_
 rintro e w5 ⟨⟨z4,rfl,y4,u4,v4⟩,q⟩
 have X:=zc (N.out.trans (q.mono N.out.size))
 have M5:=zc (M4.out.later q)
 have X5:=zc ((q.block _ (Array.getElem?_eq_some_iff.1 X4.out).1).trans X4.out)
 have V4:=zc v4
 clear q v4 K J z I H E
 obtain⟨K,J,z,I,H,E⟩:=zk X5.out
 by_cases t4:0≤z4
 case neg=>
  go_wp2
  go_ret
  exact⟨⟨-1,rfl,by omega,by omega,fun h=>by omega⟩,X.out⟩
 go_wp2
 go_ret
 exact⟨⟨z4,rfl,by omega,by omega,fun _=>by have q0:=V0.out t0;have q1:=V1.out t1;have q2:=V2.out t2;have q3:=V3.out t3;have q4:=V4.out t4;unfold zb4;omega⟩,X.out⟩
theorem Tryz.infoTStr:(Tryz.prog.info? 9).map (fun i=>(i.zero,i.size,i.bytes))=some (some (.string {data:=#[]}),1,16):=by kernel_rfl
theorem zjU (a:Option Addr) (aa:Nat) (l:List ByteArray) (w:World) (hr:RowAt w a (fun x=>[Value.string x]) 1 l) (hl:l.length≤1048576):
  Calls Tryz.prog 18 #[.slice a l.length aa] w fun e w'=>zeJ w 9 1 l.length (l.flatMap (fun x=>[Value.string x])) e w':=by
 have HR:=zc hr
 clear hr
 obtain⟨i0,hi,V,U,O⟩:=info_parts Tryz.infoTStr
 go_enter Tryz.func18,Tryz.ntmps18
 go_wp2_with (first|(at_make;refine wpList_make_full w rfl _ _ 22 rfl w.heap.size 9 i0 _ 1 Tryz.underlying22 hi V U .i64 .i64 _ _ l.length (by rfl) (by rfl) rfl rfl (by rw[O];omega) (by unfold maxLen;omega) (Nat.le_refl _) ?_))
 intro X q z
 have Y:=zc ((Below.refl _ _).grown z (Nat.le_refl _) (fun k h=>by cases h):Below w.heap.size w X)
 have A:Hid (OwnC X w.heap.size 9 1 w.heap.size l.length (l.flatMap (fun x=>[Value.string x])) 0):=⟨_,q,fun j hj=>absurd hj (Nat.not_lt_zero j)⟩
 clear q z
 obtain⟨g,D⟩: ∃g,g=w.heap.size:=⟨_,rfl⟩
 have ab:=zc D
 rw[←D]
 rw[←D] at A
 have Z:Hid (OwnC X w.heap.size 9 1 g l.length (l.flatMap (fun x=>[Value.string x])) 0):=by rw[←D];exact A.out
 clear D A
 go_wp2
 go_loopg [4] l.length (fun k i wr=>∃j:Nat,i= .int .i64 j∧j+k=l.length∧OwnC wr w.heap.size 9 1 g l.length (l.flatMap (fun x=>[Value.string x])) (j*1)∧Below w.heap.size w wr)
 case atStart=>exact⟨0,rfl,by omega,Z.out,Y.out⟩
 case round=>
  obtain⟨j,rfl,hj,ho,hb⟩:=hrel
  have I:=zc ho
  have L:=zc hb
  clear ho hb
  by_cases M:j<l.length
  ·have E:(j:Int)<(l.length:Int):=by omega
   obtain⟨x,N⟩: ∃x,l[j]? =some x:=⟨_,List.getElem?_eq_getElem M⟩
   obtain⟨b,ac,rfl,hc⟩:=(HR.out.later L.out).get N
   have HX:=zc N
   clear N
   have c0:=hc 0 _ rfl
   simp only[Nat.add_zero,Nat.mul_one] at c0
   clear hc
   obtain⟨J,H⟩: ∃J,J=j+1:=⟨_,rfl⟩
   have ej:(j:Int)+1=(J:Int):=by omega
   have HJ:=zc H
   clear H
   obtain⟨v0,g0⟩:=I.out.has (j*1) (by omega)
   have f0:=I.out.free (j*1)
   have HN:=zc (I.out.put (by omega) (zbr (f:=(fun x=>[Value.string x])) (m:=1) (fun _=>rfl) l j x 0 _ HX.out rfl))
   simp only[Nat.mul_one] at g0 f0
   have K:w.heap.size≤g:=by have:=ab.out;omega
   go_wp2
   go_roundg (gk-1)
   case rel=>exact⟨J,rfl,by have:=HJ.out;omega,by have:=HN.out;simp only[Nat.mul_one] at this;rw[HJ.out,Nat.mul_one];exact this,(L.out.setCell K _)⟩
   case measure=>omega
  ·have E: ¬(j:Int)<(l.length:Int):=by omega
   obtain rfl:j=l.length:=by omega
   go_wp2
   go_ret
   exact⟨g,rfl,I.out.all (zdF (f:=(fun x=>[Value.string x])) (fun _=>rfl) l),L.out⟩
theorem Tryz.infoTIm:(Tryz.prog.info? 80).map (fun i=>(i.zero,i.size,i.bytes))=some (some (.agg #[.string {data:=#[]},.string {data:=#[]},.string {data:=#[]}]),3,48):=by kernel_rfl
theorem zpg (x:Im) (w:World):
  Calls Tryz.prog 99 #[.agg #[.string x.spec,.string x.first,.string x.loc]] w fun e h=>e= .returned (.agg #[.string x.spec,.string x.first,.string x.loc])∧Below w.heap.size w h:=by
 go_enter Tryz.func99,Tryz.ntmps99
 go_wp2
 refine bodyPost_ret (results_cell_row rfl _ _ (w.heap.size+1) 80 #[.string x.spec,.string x.first,.string x.loc] (0,0) _ rfl ?_ Tryz.underlying80 rfl (by kernel_rfl)) rfl ?_
 ·rw[heap_alloc_old _ _ (by show _<((w.heap.push _).push _).size;simp)]
  exact heap_alloc2_new w _ _
 ·exact⟨rfl,(((Below.refl _ _).alloc (Nat.le_refl _) _).alloc (by show _≤(w.heap.push _).size;simp) _).alloc (by show _≤((w.heap.push _).push _).size;simp;omega) _⟩
theorem zph (a:Option Addr) (ad:Nat) (l:List Im) (w:World) (hr:RowAt w a imL 3 l) (hl:l.length≤1048576):
  Calls Tryz.prog 60 #[.slice a l.length ad] w fun e w'=>zeJ w 80 3 l.length (l.flatMap imL) e w':=by
 have HR:=zc hr
 clear hr
 obtain⟨i0,hi,Z,X,V⟩:=info_parts Tryz.infoTIm
 go_enter Tryz.func60,Tryz.ntmps60
 go_wp2_with (first|(at_make;refine wpList_make_full w rfl _ _ 43 rfl w.heap.size 80 i0 _ 3 Tryz.underlying43 hi Z X .i64 .i64 _ _ l.length (by rfl) (by rfl) rfl rfl (by rw[V];omega) (by unfold maxLen;omega) (Nat.le_refl _) ?_))
 intro w1 z A
 have ab:=zc ((Below.refl _ _).grown A (Nat.le_refl _) (fun k h=>by cases h):Below w.heap.size w w1)
 have E:Hid (OwnC w1 w.heap.size 80 3 w.heap.size l.length (l.flatMap imL) 0):=⟨_,z,fun j hj=>absurd hj (Nat.not_lt_zero j)⟩
 clear z A
 obtain⟨g,I⟩: ∃g,g=w.heap.size:=⟨_,rfl⟩
 have ae:=zc I
 rw[←I]
 rw[←I] at E
 have ac:Hid (OwnC w1 w.heap.size 80 3 g l.length (l.flatMap imL) 0):=by rw[←I];exact E.out
 clear I E
 go_wp2
 go_loopg [4] l.length (fun k i wr=>∃j:Nat,i= .int .i64 j∧j+k=l.length∧OwnC wr w.heap.size 80 3 g l.length (l.flatMap imL) (j*3)∧Below w.heap.size w wr)
 case atStart=>exact⟨0,rfl,by omega,ac.out,ab.out⟩
 case round=>
  obtain⟨j,rfl,hj,ho,hb⟩:=hrel
  have HO:=zc ho
  have L:=zc hb
  clear ho hb
  by_cases O:j<l.length
  ·have J:(j:Int)<(l.length:Int):=by omega
   obtain⟨x,U⟩: ∃x,l[j]? =some x:=⟨_,List.getElem?_eq_getElem O⟩
   obtain⟨b,af,rfl,M⟩:=(HR.out.later L.out).get U
   have Y:=zc U
   clear U
   have c0:=M 0 _ rfl
   have c1:=M 1 _ rfl
   have c2:=M 2 _ rfl
   simp only[Nat.add_zero] at c0
   clear M
   obtain⟨N,K⟩: ∃N,N=j+1:=⟨_,rfl⟩
   have ej:(j:Int)+1=(N:Int):=by omega
   have HJ:=zc K
   clear K
   go_wp2_with fail
   refine (zpg x _).mono ?_
   rintro e w2 ⟨rfl,H⟩
   have q:=zc (HO.out.later H)
   have aa:=zc (L.out.trans (H.mono L.out.size))
   clear H c0 c1 c2
   obtain⟨v0,g0⟩:=q.out.has (j*3) (by omega)
   have f0:=q.out.free (j*3)
   obtain⟨v1,g1⟩:=q.out.has (j*3+1) (by omega)
   have f1:=q.out.free (j*3+1)
   obtain⟨v2,g2⟩:=q.out.has (j*3+2) (by omega)
   have f2:=q.out.free (j*3+2)
   have HN:=zc (((q.out.put (by omega) (zbr (f:=imL) (m:=3) (fun _=>rfl) l j x 0 _ Y.out rfl)).put (by omega) (zbr (f:=imL) (m:=3) (fun _=>rfl) l j x 1 _ Y.out rfl)).put (by omega) (zbr (f:=imL) (m:=3) (fun _=>rfl) l j x 2 _ Y.out rfl))
   have D:w.heap.size≤g:=by have:=ae.out;omega
   go_wp2
   go_roundg (gk-1)
   case rel=>exact⟨N,rfl,by have:=HJ.out;omega,by rw[HJ.out,Nat.succ_mul];exact HN.out,(((aa.out.setCell D _).setCell D _).setCell D _)⟩
   case measure=>omega
  ·have J: ¬(j:Int)<(l.length:Int):=by omega
   obtain rfl:j=l.length:=by omega
   go_wp2
   go_ret
   exact⟨g,rfl,HO.out.all (zdF (f:=imL) (fun _=>rfl) l),L.out⟩
theorem Tryz.infoTEp:(Tryz.prog.info? 82).map (fun i=>(i.zero,i.size,i.bytes))=some (some (.agg #[.int .i64 0,.string {data:=#[]},.string {data:=#[]},.string {data:=#[]}]),4,56):=by kernel_rfl
theorem zpi (x:Ep) (w:World):
  Calls Tryz.prog 100 #[.agg #[.int .i64 x.kind,.string x.name,.string x.loc,.string x.spec]] w fun e h=>e= .returned (.agg #[.int .i64 x.kind,.string x.name,.string x.loc,.string x.spec])∧Below w.heap.size w h:=by
 go_enter Tryz.func100,Tryz.ntmps100
 go_wp2
 refine bodyPost_ret (results_cell_row rfl _ _ (w.heap.size+1) 82 #[.int .i64 x.kind,.string x.name,.string x.loc,.string x.spec] (0,0) _ rfl ?_ Tryz.underlying82 rfl (by kernel_rfl)) rfl ?_
 ·rw[heap_alloc_old _ _ (by show _<((w.heap.push _).push _).size;simp)]
  exact heap_alloc2_new w _ _
 ·exact⟨rfl,(((Below.refl _ _).alloc (Nat.le_refl _) _).alloc (by show _≤(w.heap.push _).size;simp) _).alloc (by show _≤((w.heap.push _).push _).size;simp;omega) _⟩
theorem zpj (a:Option Addr) (ad:Nat) (l:List Ep) (w:World) (hr:RowAt w a epL 4 l) (hl:l.length≤1048576):
  Calls Tryz.prog 61 #[.slice a l.length ad] w fun e w'=>zeJ w 82 4 l.length (l.flatMap epL) e w':=by
 have HR:=zc hr
 clear hr
 obtain⟨i0,hi,Z,Y,X⟩:=info_parts Tryz.infoTEp
 go_enter Tryz.func61,Tryz.ntmps61
 go_wp2_with (first|(at_make;refine wpList_make_full w rfl _ _ 44 rfl w.heap.size 82 i0 _ 4 Tryz.underlying44 hi Z Y .i64 .i64 _ _ l.length (by rfl) (by rfl) rfl rfl (by rw[X];omega) (by unfold maxLen;omega) (Nat.le_refl _) ?_))
 intro w1 z D
 have ab:=zc ((Below.refl _ _).grown D (Nat.le_refl _) (fun k h=>by cases h):Below w.heap.size w w1)
 have E:Hid (OwnC w1 w.heap.size 82 4 w.heap.size l.length (l.flatMap epL) 0):=⟨_,z,fun j hj=>absurd hj (Nat.not_lt_zero j)⟩
 clear z D
 obtain⟨g,I⟩: ∃g,g=w.heap.size:=⟨_,rfl⟩
 have ae:=zc I
 rw[←I]
 rw[←I] at E
 have ac:Hid (OwnC w1 w.heap.size 82 4 g l.length (l.flatMap epL) 0):=by rw[←I];exact E.out
 clear I E
 go_wp2
 go_loopg [4] l.length (fun k i wr=>∃j:Nat,i= .int .i64 j∧j+k=l.length∧OwnC wr w.heap.size 82 4 g l.length (l.flatMap epL) (j*4)∧Below w.heap.size w wr)
 case atStart=>exact⟨0,rfl,by omega,ac.out,ab.out⟩
 case round=>
  obtain⟨j,rfl,hj,ho,hb⟩:=hrel
  have HO:=zc ho
  have M:=zc hb
  clear ho hb
  by_cases U:j<l.length
  ·have J:(j:Int)<(l.length:Int):=by omega
   obtain⟨x,V⟩: ∃x,l[j]? =some x:=⟨_,List.getElem?_eq_getElem U⟩
   obtain⟨b,af,rfl,L⟩:=(HR.out.later M.out).get V
   have N:=zc V
   clear V
   have c0:=L 0 _ rfl
   have c1:=L 1 _ rfl
   have c2:=L 2 _ rfl
   have c3:=L 3 _ rfl
   simp only[Nat.add_zero] at c0
   clear L
   obtain⟨O,K⟩: ∃O,O=j+1:=⟨_,rfl⟩
   have ej:(j:Int)+1=(O:Int):=by omega
   have HJ:=zc K
   clear K
   go_wp2_with fail
   refine (zpi x _).mono ?_
   rintro e w2 ⟨rfl,H⟩
   have q:=zc (HO.out.later H)
   have aa:=zc (M.out.trans (H.mono M.out.size))
   clear H c0 c1 c2 c3
   obtain⟨v0,g0⟩:=q.out.has (j*4) (by omega)
   have f0:=q.out.free (j*4)
   obtain⟨v1,g1⟩:=q.out.has (j*4+1) (by omega)
   have f1:=q.out.free (j*4+1)
   obtain⟨v2,g2⟩:=q.out.has (j*4+2) (by omega)
   have f2:=q.out.free (j*4+2)
   obtain⟨v3,g3⟩:=q.out.has (j*4+3) (by omega)
   have f3:=q.out.free (j*4+3)
   have HN:=zc ((((q.out.put (by omega) (zbr (f:=epL) (m:=4) (fun _=>rfl) l j x 0 _ N.out rfl)).put (by omega) (zbr (f:=epL) (m:=4) (fun _=>rfl) l j x 1 _ N.out rfl)).put (by omega) (zbr (f:=epL) (m:=4) (fun _=>rfl) l j x 2 _ N.out rfl)).put (by omega) (zbr (f:=epL) (m:=4) (fun _=>rfl) l j x 3 _ N.out rfl))
   have A:w.heap.size≤g:=by have:=ae.out;omega
   go_wp2
   go_roundg (gk-1)
   case rel=>exact⟨O,rfl,by have:=HJ.out;omega,by rw[HJ.out,Nat.succ_mul];exact HN.out,((((aa.out.setCell A _).setCell A _).setCell A _).setCell A _)⟩
   case measure=>omega
  ·have J: ¬(j:Int)<(l.length:Int):=by omega
   obtain rfl:j=l.length:=by omega
   go_wp2
   go_ret
   exact⟨g,rfl,HO.out.all (zdF (f:=epL) (fun _=>rfl) l),M.out⟩
theorem Tryz.infoTSm:(Tryz.prog.info? 87).map (fun i=>(i.zero,i.size,i.bytes))=some (some (.agg #[.int .i64 0,.string {data:=#[]},.int .i64 0]),3,32):=by kernel_rfl
theorem zpk (x:Sm) (w:World):
  Calls Tryz.prog 101 #[.agg #[.int .i64 x.kind,.string x.name,.int .i64 x.expr]] w fun e h=>e= .returned (.agg #[.int .i64 x.kind,.string x.name,.int .i64 x.expr])∧Below w.heap.size w h:=by
 go_enter Tryz.func101,Tryz.ntmps101
 go_wp2
 refine bodyPost_ret (results_cell_row rfl _ _ (w.heap.size+1) 87 #[.int .i64 x.kind,.string x.name,.int .i64 x.expr] (0,0) _ rfl ?_ Tryz.underlying87 rfl (by kernel_rfl)) rfl ?_
 ·rw[heap_alloc_old _ _ (by show _<((w.heap.push _).push _).size;simp)]
  exact heap_alloc2_new w _ _
 ·exact⟨rfl,(((Below.refl _ _).alloc (Nat.le_refl _) _).alloc (by show _≤(w.heap.push _).size;simp) _).alloc (by show _≤((w.heap.push _).push _).size;simp;omega) _⟩
theorem zpl (a:Option Addr) (ad:Nat) (l:List Sm) (w:World) (hr:RowAt w a smL 3 l) (hl:l.length≤1048576):
  Calls Tryz.prog 62 #[.slice a l.length ad] w fun e w'=>zeJ w 87 3 l.length (l.flatMap smL) e w':=by
 have HR:=zc hr
 clear hr
 obtain⟨i0,hi,Z,X,V⟩:=info_parts Tryz.infoTSm
 go_enter Tryz.func62,Tryz.ntmps62
 go_wp2_with (first|(at_make;refine wpList_make_full w rfl _ _ 45 rfl w.heap.size 87 i0 _ 3 Tryz.underlying45 hi Z X .i64 .i64 _ _ l.length (by rfl) (by rfl) rfl rfl (by rw[V];omega) (by unfold maxLen;omega) (Nat.le_refl _) ?_))
 intro w1 z A
 have ab:=zc ((Below.refl _ _).grown A (Nat.le_refl _) (fun k h=>by cases h):Below w.heap.size w w1)
 have E:Hid (OwnC w1 w.heap.size 87 3 w.heap.size l.length (l.flatMap smL) 0):=⟨_,z,fun j hj=>absurd hj (Nat.not_lt_zero j)⟩
 clear z A
 obtain⟨g,I⟩: ∃g,g=w.heap.size:=⟨_,rfl⟩
 have ae:=zc I
 rw[←I]
 rw[←I] at E
 have ac:Hid (OwnC w1 w.heap.size 87 3 g l.length (l.flatMap smL) 0):=by rw[←I];exact E.out
 clear I E
 go_wp2
 go_loopg [4] l.length (fun k i wr=>∃j:Nat,i= .int .i64 j∧j+k=l.length∧OwnC wr w.heap.size 87 3 g l.length (l.flatMap smL) (j*3)∧Below w.heap.size w wr)
 case atStart=>exact⟨0,rfl,by omega,ac.out,ab.out⟩
 case round=>
  obtain⟨j,rfl,hj,ho,hb⟩:=hrel
  have HO:=zc ho
  have L:=zc hb
  clear ho hb
  by_cases O:j<l.length
  ·have J:(j:Int)<(l.length:Int):=by omega
   obtain⟨x,U⟩: ∃x,l[j]? =some x:=⟨_,List.getElem?_eq_getElem O⟩
   obtain⟨b,af,rfl,M⟩:=(HR.out.later L.out).get U
   have Y:=zc U
   clear U
   have c0:=M 0 _ rfl
   have c1:=M 1 _ rfl
   have c2:=M 2 _ rfl
   simp only[Nat.add_zero] at c0
   clear M
   obtain⟨N,K⟩: ∃N,N=j+1:=⟨_,rfl⟩
   have ej:(j:Int)+1=(N:Int):=by omega
   have HJ:=zc K
   clear K
   go_wp2_with fail
   refine (zpk x _).mono ?_
   rintro e w2 ⟨rfl,H⟩
   have q:=zc (HO.out.later H)
   have aa:=zc (L.out.trans (H.mono L.out.size))
   clear H c0 c1 c2
   obtain⟨v0,g0⟩:=q.out.has (j*3) (by omega)
   have f0:=q.out.free (j*3)
   obtain⟨v1,g1⟩:=q.out.has (j*3+1) (by omega)
   have f1:=q.out.free (j*3+1)
   obtain⟨v2,g2⟩:=q.out.has (j*3+2) (by omega)
   have f2:=q.out.free (j*3+2)
   have HN:=zc (((q.out.put (by omega) (zbr (f:=smL) (m:=3) (fun _=>rfl) l j x 0 _ Y.out rfl)).put (by omega) (zbr (f:=smL) (m:=3) (fun _=>rfl) l j x 1 _ Y.out rfl)).put (by omega) (zbr (f:=smL) (m:=3) (fun _=>rfl) l j x 2 _ Y.out rfl))
   have D:w.heap.size≤g:=by have:=ae.out;omega
   go_wp2
   go_roundg (gk-1)
   case rel=>exact⟨N,rfl,by have:=HJ.out;omega,by rw[HJ.out,Nat.succ_mul];exact HN.out,(((aa.out.setCell D _).setCell D _).setCell D _)⟩
   case measure=>omega
  ·have J: ¬(j:Int)<(l.length:Int):=by omega
   obtain rfl:j=l.length:=by omega
   go_wp2
   go_ret
   exact⟨g,rfl,HO.out.all (zdF (f:=smL) (fun _=>rfl) l),L.out⟩
theorem Tryz.infoTEx:(Tryz.prog.info? 85).map (fun i=>(i.zero,i.size,i.bytes))=some (some (.agg #[.int .i64 0,.int .i64 0,.string {data:=#[]},.string {data:=#[]},.int .i64 0,.int .i64 0]),6,64):=by kernel_rfl
theorem zpm (x:Ex) (w:World):
  Calls Tryz.prog 102 #[.agg #[.int .i64 x.kind,.int .i64 x.num,.string x.name,.string x.field,.int .i64 x.l,.int .i64 x.r]] w fun e h=>e= .returned (.agg #[.int .i64 x.kind,.int .i64 x.num,.string x.name,.string x.field,.int .i64 x.l,.int .i64 x.r])∧Below w.heap.size w h:=by
 go_enter Tryz.func102,Tryz.ntmps102
 go_wp2
 refine bodyPost_ret (results_cell_row rfl _ _ (w.heap.size+1) 85 #[.int .i64 x.kind,.int .i64 x.num,.string x.name,.string x.field,.int .i64 x.l,.int .i64 x.r] (0,0) _ rfl ?_ Tryz.underlying85 rfl (by kernel_rfl)) rfl ?_
 ·rw[heap_alloc_old _ _ (by show _<((w.heap.push _).push _).size;simp)]
  exact heap_alloc2_new w _ _
 ·exact⟨rfl,(((Below.refl _ _).alloc (Nat.le_refl _) _).alloc (by show _≤(w.heap.push _).size;simp) _).alloc (by show _≤((w.heap.push _).push _).size;simp;omega) _⟩
theorem zpn (a:Option Addr) (ad:Nat) (l:List Ex) (w:World) (hr:RowAt w a exL 6 l) (hl:l.length≤1048576):
  Calls Tryz.prog 63 #[.slice a l.length ad] w fun e w'=>zeJ w 85 6 l.length (l.flatMap exL) e w':=by
 have HR:=zc hr
 clear hr
 obtain⟨i0,hi,Z,Y,X⟩:=info_parts Tryz.infoTEx
 go_enter Tryz.func63,Tryz.ntmps63
 go_wp2_with (first|(at_make;refine wpList_make_full w rfl _ _ 46 rfl w.heap.size 85 i0 _ 6 Tryz.underlying46 hi Z Y .i64 .i64 _ _ l.length (by rfl) (by rfl) rfl rfl (by rw[X];omega) (by unfold maxLen;omega) (Nat.le_refl _) ?_))
 intro w1 A D
 have ab:=zc ((Below.refl _ _).grown D (Nat.le_refl _) (fun k h=>by cases h):Below w.heap.size w w1)
 have E:Hid (OwnC w1 w.heap.size 85 6 w.heap.size l.length (l.flatMap exL) 0):=⟨_,A,fun j hj=>absurd hj (Nat.not_lt_zero j)⟩
 clear A D
 obtain⟨g,K⟩: ∃g,g=w.heap.size:=⟨_,rfl⟩
 have ae:=zc K
 rw[←K]
 rw[←K] at E
 have ac:Hid (OwnC w1 w.heap.size 85 6 g l.length (l.flatMap exL) 0):=by rw[←K];exact E.out
 clear K E
 go_wp2
 go_loopg [4] l.length (fun k i wr=>∃j:Nat,i= .int .i64 j∧j+k=l.length∧OwnC wr w.heap.size 85 6 g l.length (l.flatMap exL) (j*6)∧Below w.heap.size w wr)
 case atStart=>exact⟨0,rfl,by omega,ac.out,ab.out⟩
 case round=>
  obtain⟨j,rfl,hj,ho,hb⟩:=hrel
  have HO:=zc ho
  have N:=zc hb
  clear ho hb
  by_cases U:j<l.length
  ·have L:(j:Int)<(l.length:Int):=by omega
   obtain⟨x,V⟩: ∃x,l[j]? =some x:=⟨_,List.getElem?_eq_getElem U⟩
   obtain⟨b,af,rfl,H⟩:=(HR.out.later N.out).get V
   have J:=zc V
   clear V
   have c0:=H 0 _ rfl
   have c1:=H 1 _ rfl
   have c2:=H 2 _ rfl
   have c3:=H 3 _ rfl
   have c4:=H 4 _ rfl
   have c5:=H 5 _ rfl
   simp only[Nat.add_zero] at c0
   clear H
   obtain⟨O,M⟩: ∃O,O=j+1:=⟨_,rfl⟩
   have ej:(j:Int)+1=(O:Int):=by omega
   have HJ:=zc M
   clear M
   go_wp2_with fail
   refine (zpm x _).mono ?_
   rintro e w2 ⟨rfl,I⟩
   have q:=zc (HO.out.later I)
   have aa:=zc (N.out.trans (I.mono N.out.size))
   clear I c0 c1 c2 c3 c4 c5
   obtain⟨v0,g0⟩:=q.out.has (j*6) (by omega)
   have f0:=q.out.free (j*6)
   obtain⟨v1,g1⟩:=q.out.has (j*6+1) (by omega)
   have f1:=q.out.free (j*6+1)
   obtain⟨v2,g2⟩:=q.out.has (j*6+2) (by omega)
   have f2:=q.out.free (j*6+2)
   obtain⟨v3,g3⟩:=q.out.has (j*6+3) (by omega)
   have f3:=q.out.free (j*6+3)
   obtain⟨v4,g4⟩:=q.out.has (j*6+4) (by omega)
   have f4:=q.out.free (j*6+4)
   obtain⟨v5,g5⟩:=q.out.has (j*6+5) (by omega)
   have f5:=q.out.free (j*6+5)
   have HN:=zc ((((((q.out.put (by omega) (zbr (f:=exL) (m:=6) (fun _=>rfl) l j x 0 _ J.out rfl)).put (by omega) (zbr (f:=exL) (m:=6) (fun _=>rfl) l j x 1 _ J.out rfl)).put (by omega) (zbr (f:=exL) (m:=6) (fun _=>rfl) l j x 2 _ J.out rfl)).put (by omega) (zbr (f:=exL) (m:=6) (fun _=>rfl) l j x 3 _ J.out rfl)).put (by omega) (zbr (f:=exL) (m:=6) (fun _=>rfl) l j x 4 _ J.out rfl)).put (by omega) (zbr (f:=exL) (m:=6) (fun _=>rfl) l j x 5 _ J.out rfl))
   have z:w.heap.size≤g:=by have:=ae.out;omega
   go_wp2
   go_roundg (gk-1)
   case rel=>exact⟨O,rfl,by have:=HJ.out;omega,by rw[HJ.out,Nat.succ_mul];exact HN.out,((((((aa.out.setCell z _).setCell z _).setCell z _).setCell z _).setCell z _).setCell z _)⟩
   case measure=>omega
  ·have L: ¬(j:Int)<(l.length:Int):=by omega
   obtain rfl:j=l.length:=by omega
   go_wp2
   go_ret
   exact⟨g,rfl,HO.out.all (zdF (f:=exL) (fun _=>rfl) l),N.out⟩
end Go.Proofs.YtcidlffeeninbaaGreat
