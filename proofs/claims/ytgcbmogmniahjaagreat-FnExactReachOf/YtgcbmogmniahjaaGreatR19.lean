/- Facts and walks. -/
import Derived.Test.YtgcbmogmniahjaaGreatR18
import Derived.Test.YtgcbmogmniahjaaGreatR16
namespace Go.Proofs.YtgcbmogmniahjaaGreat
open Nat (add_zero mul_one le_refl not_lt_zero succ_mul)
open List (getElem?_eq_getElem mem_of_getElem? take_length)
open Go.Proofs.Tryz
set_option maxRecDepth 100000
set_option maxHeartbeats 3200000
open Go.RowKit Go.PlainAid Go.Sort
def zea (x:BA):Prop:=x.size<=9223372036854775807
theorem zkD (a:Option Addr) (M:Nat) (l:List BA) (left:Int) (w:World) (V:RowAt w a (fun x=>[Value.string x]) 1 l) (hl:l.length<=9223372036854775807) (A: ∀x∈l,zea x) (h0:0<=left) (h1:left<=1048576):
  Calls prog 22 #[.slice a l.length M,.int .i64 left] w fun e w'=>zcw left (l.length+zD zbX l) e/\Bw w w':=by
 have HR:=zc V;have HG:=zc A;clear V A;by_cases Z:(l.length:Int)<=left
 case neg=>
  go_enter func22,ntmps22;go_wp2;go_ret;exact⟨⟨-1,rfl,by omega,by omega,fun h=>by omega⟩,Below.refl _ _⟩
 go_enter func22,ntmps22;go_wp2;go_loopg [1,5] l.length (fun k s1 s5 wr=>∃(j:Nat) (z:Int),s5= .int .i64 j/\s1= .int .i64 z/\j+k=l.length/\0<=z/\z<=left/\z+((l.length+zD zbX (l.take j):Nat):Int)=left/\Bw w wr)
 case atStart=>exact⟨0,_,rfl,rfl,by omega,by omega,by omega,by simp[zD],Below.refl _ _⟩
 case round=>
  obtain⟨j,z,rfl,rfl,hj,aa,O,D,A⟩:=hrel;have X:=zc D;have J:=zc A;clear D A;by_cases L:j<l.length
  ·have H:(j:Int)<(l.length:Int):=by omega
   obtain⟨x,K⟩: ∃x,l[j]? =some x:=⟨_,getElem?_eq_getElem L⟩;obtain⟨b,ab,rfl,Y⟩:=(HR.o.later J.o).get K;have E:=HG.o x (mem_of_getElem? K);have HC:=zc (zey zbX K);have c0:=Y 0 _ rfl;simp only[add_zero,mul_one] at c0;clear Y K;obtain⟨I,q⟩: ∃I,I=j+1:=⟨_,rfl⟩;have ej:(j:Int)+1=(I:Int):=by omega
   have U:=zc q;clear q;unfold zea at E;by_cases N:0<=z-(x.size:Int)
   ·go_wp2;go_roundg (gk-1)
    case rel=>exact⟨I,_,rfl,rfl,by have:=U.o;omega,N,by omega,by have:=X.o;have:zbX x=x.size:=rfl;rw[U.o,HC.o];omega,J.o⟩
    case measure=>omega
   ·go_wp2;go_ret;exact⟨⟨-1,rfl,by omega,by omega,fun h=>by omega⟩,J.o⟩
  ·have H: ¬(j:Int)<(l.length:Int):=by omega
   obtain rfl:j=l.length:=by omega
   go_wp2;go_ret;exact⟨⟨z,rfl,by omega,O,fun _=>by have:=X.o;rw[take_length] at this;exact this⟩,J.o⟩
def zez (x:Im):Prop:=x.spec.size<=9223372036854775807/\x.first.size<=9223372036854775807/\x.loc.size<=9223372036854775807
theorem zqh (x:Im) (left:Int) (w:World) (q:zez x) (H:0<=left) (E:left<=1048576):
  Calls prog 107 #[.agg #[.string x.spec,.string x.first,.string x.loc],.int .i64 left] w fun e z=>zcw left (zcf x) e/\Bw w z:=by
 unfold zez at q;obtain⟨D,A,I⟩:=q;go_enter func107,ntmps107;go_wp2
 ·go_ret;exact⟨⟨-1,rfl,by omega,by omega,fun h=>by omega⟩,bA0⟩
 ·go_ret;exact⟨⟨-1,rfl,by omega,by omega,fun h=>by omega⟩,bA0⟩
 ·go_ret;exact⟨⟨-1,rfl,by omega,by omega,fun h=>by omega⟩,bA0⟩
 ·go_ret;exact⟨⟨_,rfl,by omega,by omega,fun _=>by unfold zcf;omega⟩,bA0⟩
theorem zqi (a:Option Addr) (Y:Nat) (l:List Im) (left:Int) (w:World) (hr:RowAt w a imL 3 l) (hl:l.length<=9223372036854775807) (D: ∀x∈l,zez x) (h0:0<=left) (h1:left<=1048576):
  Calls prog 77 #[.slice a l.length Y,.int .i64 left] w fun e w'=>zcw left (l.length+zD zcf l) e/\Bw w w':=by
 have HR:=zc hr;have HG:=zc D;clear hr D;by_cases ab:(l.length:Int)<=left
 case neg=>
  go_enter func77,ntmps77;go_wp2;go_ret;exact⟨⟨-1,rfl,by omega,by omega,fun h=>by omega⟩,Below.refl _ _⟩
 go_enter func77,ntmps77;go_wp2;go_loopg [1,5] l.length (fun k s1 s5 wr=>∃(j:Nat) (z:Int),s5= .int .i64 j/\s1= .int .i64 z/\j+k=l.length/\0<=z/\z<=left/\z+((l.length+zD zcf (l.take j):Nat):Int)=left/\Bw w wr)
 case atStart=>exact⟨0,_,rfl,rfl,by omega,by omega,by omega,by simp[zD],Below.refl _ _⟩
 case round=>
  obtain⟨j,z,rfl,rfl,hj,X,Z,I,D⟩:=hrel;have HZ:=zc I;have N:=zc D;clear I D;by_cases V:j<l.length
  ·have L:(j:Int)<(l.length:Int):=by omega
   obtain⟨x,O⟩: ∃x,l[j]? =some x:=⟨_,getElem?_eq_getElem V⟩;obtain⟨b,ad,rfl,U⟩:=(HR.o.later N.o).get O;have q:=HG.o x (mem_of_getElem? O);have HC:=zc (zey zcf O);have c0:=U 0 _ rfl;have c1:=U 1 _ rfl;have c2:=U 2 _ rfl;simp only[add_zero] at c0;clear U O;obtain⟨M,A⟩: ∃M,M=j+1:=⟨_,rfl⟩;have ej:(j:Int)+1=(M:Int):=by omega
   have HJ:=zc A;clear A;go_wp2_with fail;refine (zqh x z _ q X (by omega)).mono ?_;rintro e w1 ⟨⟨z1,rfl,ae,ac,H⟩,K⟩;have J:=zc (N.o.trans (K.mono N.o.size));have aa:=zc H;clear K H q c0 c1 c2;by_cases E:0<=z1
   ·go_wp2;go_roundg (gk-1)
    case rel=>exact⟨M,z1,rfl,rfl,by have:=HJ.o;omega,E,by omega,by have:=HZ.o;have:=aa.o E;rw[HJ.o,HC.o];omega,J.o⟩
    case measure=>omega
   ·go_wp2;go_ret;exact⟨⟨-1,rfl,by omega,by omega,fun h=>by omega⟩,J.o⟩
  ·have L: ¬(j:Int)<(l.length:Int):=by omega
   obtain rfl:j=l.length:=by omega
   go_wp2;go_ret;exact⟨⟨z,rfl,by omega,Z,fun _=>by have:=HZ.o;rw[take_length] at this;exact this⟩,N.o⟩
def ze0 (x:Ep):Prop:=x.name.size<=9223372036854775807/\x.loc.size<=9223372036854775807/\x.spec.size<=9223372036854775807
theorem zqj (x:Ep) (left:Int) (w:World) (q:ze0 x) (H:0<=left) (E:left<=1048576):
  Calls prog 108 #[.agg #[.int .i64 x.kind,.string x.name,.string x.loc,.string x.spec],.int .i64 left] w fun e z=>zcw left (zcg x) e/\Bw w z:=by
 unfold ze0 at q;obtain⟨D,A,I⟩:=q;go_enter func108,ntmps108;go_wp2
 ·go_ret;exact⟨⟨-1,rfl,by omega,by omega,fun h=>by omega⟩,bA0⟩
 ·go_ret;exact⟨⟨-1,rfl,by omega,by omega,fun h=>by omega⟩,bA0⟩
 ·go_ret;exact⟨⟨-1,rfl,by omega,by omega,fun h=>by omega⟩,bA0⟩
 ·go_ret;exact⟨⟨_,rfl,by omega,by omega,fun _=>by unfold zcg;omega⟩,bA0⟩
theorem zqk (a:Option Addr) (Y:Nat) (l:List Ep) (left:Int) (w:World) (hr:RowAt w a epL 4 l) (hl:l.length<=9223372036854775807) (D: ∀x∈l,ze0 x) (h0:0<=left) (h1:left<=1048576):
  Calls prog 78 #[.slice a l.length Y,.int .i64 left] w fun e w'=>zcw left (l.length+zD zcg l) e/\Bw w w':=by
 have HR:=zc hr;have HG:=zc D;clear hr D;by_cases ab:(l.length:Int)<=left
 case neg=>
  go_enter func78,ntmps78;go_wp2;go_ret;exact⟨⟨-1,rfl,by omega,by omega,fun h=>by omega⟩,Below.refl _ _⟩
 go_enter func78,ntmps78;go_wp2;go_loopg [1,5] l.length (fun k s1 s5 wr=>∃(j:Nat) (z:Int),s5= .int .i64 j/\s1= .int .i64 z/\j+k=l.length/\0<=z/\z<=left/\z+((l.length+zD zcg (l.take j):Nat):Int)=left/\Bw w wr)
 case atStart=>exact⟨0,_,rfl,rfl,by omega,by omega,by omega,by simp[zD],Below.refl _ _⟩
 case round=>
  obtain⟨j,z,rfl,rfl,hj,X,Z,I,D⟩:=hrel;have HZ:=zc I;have O:=zc D;clear I D;by_cases V:j<l.length
  ·have L:(j:Int)<(l.length:Int):=by omega
   obtain⟨x,U⟩: ∃x,l[j]? =some x:=⟨_,getElem?_eq_getElem V⟩;obtain⟨b,ad,rfl,M⟩:=(HR.o.later O.o).get U;have q:=HG.o x (mem_of_getElem? U);have HC:=zc (zey zcg U);have c0:=M 0 _ rfl;have c1:=M 1 _ rfl;have c2:=M 2 _ rfl;have c3:=M 3 _ rfl;simp only[add_zero] at c0;clear M U;obtain⟨N,A⟩: ∃N,N=j+1:=⟨_,rfl⟩;have ej:(j:Int)+1=(N:Int):=by omega
   have HJ:=zc A;clear A;go_wp2_with fail;refine (zqj x z _ q X (by omega)).mono ?_;rintro e w1 ⟨⟨z1,rfl,ae,ac,H⟩,K⟩;have J:=zc (O.o.trans (K.mono O.o.size));have aa:=zc H;clear K H q c0 c1 c2 c3;by_cases E:0<=z1
   ·go_wp2;go_roundg (gk-1)
    case rel=>exact⟨N,z1,rfl,rfl,by have:=HJ.o;omega,E,by omega,by have:=HZ.o;have:=aa.o E;rw[HJ.o,HC.o];omega,J.o⟩
    case measure=>omega
   ·go_wp2;go_ret;exact⟨⟨-1,rfl,by omega,by omega,fun h=>by omega⟩,J.o⟩
  ·have L: ¬(j:Int)<(l.length:Int):=by omega
   obtain rfl:j=l.length:=by omega
   go_wp2;go_ret;exact⟨⟨z,rfl,by omega,Z,fun _=>by have:=HZ.o;rw[take_length] at this;exact this⟩,O.o⟩
def ze1 (x:Sm):Prop:=x.name.size<=9223372036854775807
theorem zql (x:Sm) (left:Int) (w:World) (z:ze1 x) (D:0<=left) (A:left<=1048576):
  Calls prog 109 #[.agg #[.int .i64 x.kind,.string x.name,.int .i64 x.expr],.int .i64 left] w fun e q=>zcw left (zcx x) e/\Bw w q:=by
 unfold ze1 at z;go_enter func109,ntmps109;go_wp2
 ·go_ret;exact⟨⟨-1,rfl,by omega,by omega,fun h=>by omega⟩,bA0⟩
 ·go_ret;exact⟨⟨_,rfl,by omega,by omega,fun _=>by unfold zcx;omega⟩,bA0⟩
theorem zqm (a:Option Addr) (Y:Nat) (l:List Sm) (left:Int) (w:World) (hr:RowAt w a smL 3 l) (hl:l.length<=9223372036854775807) (D: ∀x∈l,ze1 x) (h0:0<=left) (h1:left<=1048576):
  Calls prog 79 #[.slice a l.length Y,.int .i64 left] w fun e w'=>zcw left (l.length+zD zcx l) e/\Bw w w':=by
 have HR:=zc hr;have HG:=zc D;clear hr D;by_cases ab:(l.length:Int)<=left
 case neg=>
  go_enter func79,ntmps79;go_wp2;go_ret;exact⟨⟨-1,rfl,by omega,by omega,fun h=>by omega⟩,Below.refl _ _⟩
 go_enter func79,ntmps79;go_wp2;go_loopg [1,5] l.length (fun k s1 s5 wr=>∃(j:Nat) (z:Int),s5= .int .i64 j/\s1= .int .i64 z/\j+k=l.length/\0<=z/\z<=left/\z+((l.length+zD zcx (l.take j):Nat):Int)=left/\Bw w wr)
 case atStart=>exact⟨0,_,rfl,rfl,by omega,by omega,by omega,by simp[zD],Below.refl _ _⟩
 case round=>
  obtain⟨j,z,rfl,rfl,hj,X,Z,I,D⟩:=hrel;have HZ:=zc I;have N:=zc D;clear I D;by_cases V:j<l.length
  ·have L:(j:Int)<(l.length:Int):=by omega
   obtain⟨x,O⟩: ∃x,l[j]? =some x:=⟨_,getElem?_eq_getElem V⟩;obtain⟨b,ad,rfl,U⟩:=(HR.o.later N.o).get O;have q:=HG.o x (mem_of_getElem? O);have HC:=zc (zey zcx O);have c0:=U 0 _ rfl;have c1:=U 1 _ rfl;have c2:=U 2 _ rfl;simp only[add_zero] at c0;clear U O;obtain⟨M,A⟩: ∃M,M=j+1:=⟨_,rfl⟩;have ej:(j:Int)+1=(M:Int):=by omega
   have HJ:=zc A;clear A;go_wp2_with fail;refine (zql x z _ q X (by omega)).mono ?_;rintro e w1 ⟨⟨z1,rfl,ae,ac,H⟩,K⟩;have J:=zc (N.o.trans (K.mono N.o.size));have aa:=zc H;clear K H q c0 c1 c2;by_cases E:0<=z1
   ·go_wp2;go_roundg (gk-1)
    case rel=>exact⟨M,z1,rfl,rfl,by have:=HJ.o;omega,E,by omega,by have:=HZ.o;have:=aa.o E;rw[HJ.o,HC.o];omega,J.o⟩
    case measure=>omega
   ·go_wp2;go_ret;exact⟨⟨-1,rfl,by omega,by omega,fun h=>by omega⟩,J.o⟩
  ·have L: ¬(j:Int)<(l.length:Int):=by omega
   obtain rfl:j=l.length:=by omega
   go_wp2;go_ret;exact⟨⟨z,rfl,by omega,Z,fun _=>by have:=HZ.o;rw[take_length] at this;exact this⟩,N.o⟩
def ze2 (x:Ex):Prop:=x.name.size<=9223372036854775807/\x.field.size<=9223372036854775807
theorem zqn (x:Ex) (left:Int) (w:World) (q:ze2 x) (H:0<=left) (E:left<=1048576):
  Calls prog 110 #[.agg #[.int .i64 x.kind,.int .i64 x.num,.string x.name,.string x.field,.int .i64 x.l,.int .i64 x.r],.int .i64 left] w fun e z=>zcw left (zcM x) e/\Bw w z:=by
 unfold ze2 at q;obtain⟨D,A⟩:=q;go_enter func110,ntmps110;go_wp2
 ·go_ret;exact⟨⟨-1,rfl,by omega,by omega,fun h=>by omega⟩,bA0⟩
 ·go_ret;exact⟨⟨-1,rfl,by omega,by omega,fun h=>by omega⟩,bA0⟩
 ·go_ret;exact⟨⟨_,rfl,by omega,by omega,fun _=>by unfold zcM;omega⟩,bA0⟩
theorem zqo (a:Option Addr) (Y:Nat) (l:List Ex) (left:Int) (w:World) (hr:RowAt w a exL 6 l) (hl:l.length<=9223372036854775807) (E: ∀x∈l,ze2 x) (h0:0<=left) (h1:left<=1048576):
  Calls prog 80 #[.slice a l.length Y,.int .i64 left] w fun e w'=>zcw left (l.length+zD zcM l) e/\Bw w w':=by
 have HR:=zc hr;have HG:=zc E;clear hr E;by_cases ab:(l.length:Int)<=left
 case neg=>
  go_enter func80,ntmps80;go_wp2;go_ret;exact⟨⟨-1,rfl,by omega,by omega,fun h=>by omega⟩,Below.refl _ _⟩
 go_enter func80,ntmps80;go_wp2;go_loopg [1,5] l.length (fun k s1 s5 wr=>∃(j:Nat) (z:Int),s5= .int .i64 j/\s1= .int .i64 z/\j+k=l.length/\0<=z/\z<=left/\z+((l.length+zD zcM (l.take j):Nat):Int)=left/\Bw w wr)
 case atStart=>exact⟨0,_,rfl,rfl,by omega,by omega,by omega,by simp[zD],Below.refl _ _⟩
 case round=>
  obtain⟨j,z,rfl,rfl,hj,X,Z,J,E⟩:=hrel;have HZ:=zc J;have O:=zc E;clear J E;by_cases V:j<l.length
  ·have M:(j:Int)<(l.length:Int):=by omega
   obtain⟨x,U⟩: ∃x,l[j]? =some x:=⟨_,getElem?_eq_getElem V⟩;obtain⟨b,ad,rfl,A⟩:=(HR.o.later O.o).get U;have q:=HG.o x (mem_of_getElem? U);have HC:=zc (zey zcM U);have c0:=A 0 _ rfl;have c1:=A 1 _ rfl;have c2:=A 2 _ rfl;have c3:=A 3 _ rfl;have c4:=A 4 _ rfl;have c5:=A 5 _ rfl;simp only[add_zero] at c0;clear A U;obtain⟨N,D⟩: ∃N,N=j+1:=⟨_,rfl⟩;have ej:(j:Int)+1=(N:Int):=by omega
   have HJ:=zc D;clear D;go_wp2_with fail;refine (zqn x z _ q X (by omega)).mono ?_;rintro e w1 ⟨⟨z1,rfl,ae,ac,I⟩,L⟩;have K:=zc (O.o.trans (L.mono O.o.size));have aa:=zc I;clear L I q c0 c1 c2 c3 c4 c5;by_cases H:0<=z1
   ·go_wp2;go_roundg (gk-1)
    case rel=>exact⟨N,z1,rfl,rfl,by have:=HJ.o;omega,H,by omega,by have:=HZ.o;have:=aa.o H;rw[HJ.o,HC.o];omega,K.o⟩
    case measure=>omega
   ·go_wp2;go_ret;exact⟨⟨-1,rfl,by omega,by omega,fun h=>by omega⟩,K.o⟩
  ·have M: ¬(j:Int)<(l.length:Int):=by omega
   obtain rfl:j=l.length:=by omega
   go_wp2;go_ret;exact⟨⟨z,rfl,by omega,Z,fun _=>by have:=HZ.o;rw[take_length] at this;exact this⟩,O.o⟩
structure MA where
 a0:Option Addr
 a1:Option Addr
 a2:Option Addr
 a3:Option Addr
 a4:Option Addr
 c0:Nat
 c1:Nat
 c2:Nat
 c3:Nat
 c4:Nat
def zfM (A:MA) (m:Md):Value:=.agg #[.slice A.a0 m.rq.length A.c0,.slice A.a1 m.im.length A.c1,.slice A.a2 m.ep.length A.c2,.slice A.a3 m.st.length A.c3,.slice A.a4 m.ex.length A.c4]
def ModIn (w:World) (A:MA) (m:Md):Prop:=RowAt w A.a0 (fun x=>[Value.string x]) 1 m.rq/\RowAt w A.a1 imL 3 m.im/\RowAt w A.a2 epL 4 m.ep/\RowAt w A.a3 smL 3 m.st/\RowAt w A.a4 exL 6 m.ex
theorem ModIn.later {w z:World} {A:MA} {m:Md} (h:ModIn w A m) (q:Bw w z):ModIn z A m:=⟨h.1.later q,h.2.1.later q,h.2.2.1.later q,h.2.2.2.1.later q,h.2.2.2.2.later q⟩
def zfN (m:Md):Prop:=(m.rq.length<=9223372036854775807/\∀x∈m.rq,zea x)/\(m.im.length<=9223372036854775807/\∀x∈m.im,zez x)/\(m.ep.length<=9223372036854775807/\∀x∈m.ep,ze0 x)/\(m.st.length<=9223372036854775807/\∀x∈m.st,ze1 x)/\(m.ex.length<=9223372036854775807/\∀x∈m.ex,ze2 x)
theorem zqp (A:MA) (m:Md) (left:Int) (w:World) (hr:ModIn w A m) (q:zfN m) (h0:0<=left) (h1:left<=1048576):
  Calls prog 51 #[zfM A m,.int .i64 left] w fun e w'=>zcw left (zbi m) e/\Bw w w':=by
 have HR:=zc hr;have I:=zc q;clear hr q;unfold zfM;go_enter func51,ntmps51;go_upto_region 1 with fail;have HW:Hid (Bw w (w.alloc (.cells #[.slice A.a0 m.rq.length A.c0,.slice A.a1 m.im.length A.c1,.slice A.a2 m.ep.length A.c2,.slice A.a3 m.st.length A.c3,.slice A.a4 m.ex.length A.c4] 85))):=bA0;refine zu (R:=fun W=>W.heap[w.heap.size]? =some (.cells #[.slice A.a0 m.rq.length A.c0,.slice A.a1 m.im.length A.c1,.slice A.a2 m.ep.length A.c2,.slice A.a3 m.st.length A.c3,.slice A.a4 m.ex.length A.c4] 85 (0,0))/\ModIn W A m/\Below w.heap.size w W) ⟨heap_alloc_new w _,HR.o.later HW.o,HW.o⟩ ?_;obtain⟨gx,L⟩: ∃gx,gx=w.heap.size:=⟨_,rfl⟩;rw[<-L];rintro w0 ⟨hx,hm,q⟩;rw[L] at q;clear L HW HR;have X0:=zc hx;have M0:=zc hm;have V:=zc q;clear hx hm q;obtain⟨K,D,z,H,J,E⟩:=zj X0.o;go_wp2_with fail;refine (zkD A.a0 A.c0 m.rq left w0 M0.o.1 I.o.1.1 I.o.1.2 (by omega) (by omega)).mono ?_;rintro e w1 ⟨⟨z0,rfl,y0,u0,v0⟩,q⟩;have O:=zc (V.o.trans (q.mono V.o.size));have M1:=zc (M0.o.later q);have Z:=zc ((q.block _ (aLt X0.o)).trans X0.o);have V0:=zc v0;clear q v0 K D z H J E;obtain⟨K,D,z,H,J,E⟩:=zj Z.o;by_cases t0:0<=z0
 case neg=>
  go_wp2;go_ret;exact⟨⟨-1,rfl,by omega,by omega,fun h=>by omega⟩,O.o⟩
 go_wp2_with fail;refine (zqi A.a1 A.c1 m.im z0 w1 M1.o.2.1 I.o.2.1.1 I.o.2.1.2 (by omega) (by omega)).mono ?_;rintro e w2 ⟨⟨z1,rfl,y1,u1,v1⟩,q⟩;have M:=zc (O.o.trans (q.mono O.o.size));have M2:=zc (M1.o.later q);have X2:=zc ((q.block _ (aLt Z.o)).trans Z.o);have V1:=zc v1;clear q v1 K D z H J E;obtain⟨K,D,z,H,J,E⟩:=zj X2.o;by_cases t1:0<=z1
 case neg=>
  go_wp2;go_ret;exact⟨⟨-1,rfl,by omega,by omega,fun h=>by omega⟩,M.o⟩
 go_wp2_with fail;refine (zqk A.a2 A.c2 m.ep z1 w2 M2.o.2.2.1 I.o.2.2.1.1 I.o.2.2.1.2 (by omega) (by omega)).mono ?_;rintro e w3 ⟨⟨z2,rfl,y2,u2,v2⟩,q⟩;have N:=zc (M.o.trans (q.mono M.o.size));have M3:=zc (M2.o.later q);have X3:=zc ((q.block _ (aLt X2.o)).trans X2.o);have V2:=zc v2;clear q v2 K D z H J E;obtain⟨K,D,z,H,J,E⟩:=zj X3.o;by_cases t2:0<=z2
 case neg=>
  go_wp2;go_ret;exact⟨⟨-1,rfl,by omega,by omega,fun h=>by omega⟩,N.o⟩
 go_wp2_with fail;refine (zqm A.a3 A.c3 m.st z2 w3 M3.o.2.2.2.1 I.o.2.2.2.1.1 I.o.2.2.2.1.2 (by omega) (by omega)).mono ?_;rintro e w4 ⟨⟨z3,rfl,y3,u3,v3⟩,q⟩;have U:=zc (N.o.trans (q.mono N.o.size));have M4:=zc (M3.o.later q);have Y:=zc ((q.block _ (aLt X3.o)).trans X3.o);have V3:=zc v3;clear q v3 K D z H J E;obtain⟨K,D,z,H,J,E⟩:=zj Y.o;by_cases t3:0<=z3
 case neg=>
  go_wp2;go_ret;exact⟨⟨-1,rfl,by omega,by omega,fun h=>by omega⟩,U.o⟩
 go_wp2_with fail;refine (zqo A.a4 A.c4 m.ex z3 w4 M4.o.2.2.2.2 I.o.2.2.2.2.1 I.o.2.2.2.2.2 (by omega) (by omega)).mono ?_;rintro e w5 ⟨⟨z4,rfl,y4,u4,v4⟩,q⟩;have X:=zc (U.o.trans (q.mono U.o.size));have M5:=zc (M4.o.later q);have X5:=zc ((q.block _ (aLt Y.o)).trans Y.o);have V4:=zc v4;clear q v4 K D z H J E;obtain⟨K,D,z,H,J,E⟩:=zj X5.o;by_cases t4:0<=z4
 case neg=>
  go_wp2;go_ret;exact⟨⟨-1,rfl,by omega,by omega,fun h=>by omega⟩,X.o⟩
 go_wp2;go_ret;exact⟨⟨z4,rfl,by omega,by omega,fun _=>by have q0:=V0.o t0;have q1:=V1.o t1;have q2:=V2.o t2;have q3:=V3.o t3;have q4:=V4.o t4;unfold zbi;omega⟩,X.o⟩
theorem Tryz.infoTStr:(prog.info? 9).map (fun i=>(i.zero,i.size,i.bytes))=some (some (.string {data:=#[]}),1,16):=by kernel_rfl
variable (w:Option Addr) (g:Nat)
theorem zkE (l:List BA) (W:World) (hr:RowAt W w (fun x=>[Value.string x]) 1 l) (hl:l.length<=1048576):
  Calls prog 31 #[.slice w l.length g] W fun e w'=>zeZ W 9 1 l.length (l.flatMap (fun x=>[Value.string x])) e w':=by
 have HR:=zc hr;clear hr;obtain⟨i0,hi,N,V,X⟩:=info_parts Tryz.infoTStr;go_enter func31,ntmps31;go_wp2_with (first|(at_make;refine wpList_make_full W rfl _ _ 22 rfl W.heap.size 9 i0 _ 1 underlying22 hi N V .i64 .i64 _ _ l.length (by rfl) (by rfl) rfl rfl (by rw[X];omega) (by unfold maxLen;omega) (le_refl _) ?_));intro L q z;have Z:=zc ((Below.refl _ _).grown z (le_refl _) (fun k h=>by cases h):Bw W L);have A:Hid (OwnC L W.heap.size 9 1 W.heap.size l.length (l.flatMap (fun x=>[Value.string x])) 0):=⟨_,q,fun j hj=>absurd hj (not_lt_zero j)⟩;clear q z;obtain⟨C,E⟩: ∃C,C=W.heap.size:=⟨_,rfl⟩;have Y:=zc E;rw[<-E];rw[<-E] at A;have aa:Hid (OwnC L W.heap.size 9 1 C l.length (l.flatMap (fun x=>[Value.string x])) 0):=by rw[<-E];exact A.o
 clear E A;go_wp2;go_loopg [4] l.length (fun k i wr=>∃j:Nat,i= .int .i64 j/\j+k=l.length/\OwnC wr W.heap.size 9 1 C l.length (l.flatMap (fun x=>[Value.string x])) (j*1)/\Bw W wr)
 case atStart=>exact⟨0,rfl,by omega,aa.o,Z.o⟩
 case round=>
  obtain⟨j,rfl,hj,ho,hb⟩:=hrel;have J:=zc ho;have O:=zc hb;clear ho hb;by_cases M:j<l.length
  ·have H:(j:Int)<(l.length:Int):=by omega
   obtain⟨x,hx⟩: ∃x,l[j]? =some x:=⟨_,getElem?_eq_getElem M⟩;obtain⟨b,ab,rfl,hc⟩:=(HR.o.later O.o).get hx;have HX:=zc hx;clear hx;have c0:=hc 0 _ rfl;simp only[add_zero,mul_one] at c0;clear hc;obtain⟨I,D⟩: ∃I,I=j+1:=⟨_,rfl⟩;have ej:(j:Int)+1=(I:Int):=by omega
   have HJ:=zc D;clear D;obtain⟨v0,g0⟩:=J.o.has (j*1) (by omega);have f0:=J.o.free (j*1);have HN:=zc (J.o.put (by omega) (zbp (f:=(fun x=>[Value.string x])) (m:=1) (fun _=>rfl) l j x 0 _ HX.o rfl));simp only[mul_one] at g0 f0;have K:W.heap.size<=C:=by have:=Y.o;omega
   go_wp2;go_roundg (gk-1)
   case rel=>exact⟨I,rfl,by have:=HJ.o;omega,by have:=HN.o;simp only[mul_one] at this;rw[HJ.o,mul_one];exact this,(O.o.setCell K _)⟩
   case measure=>omega
  ·have H: ¬(j:Int)<(l.length:Int):=by omega
   obtain rfl:j=l.length:=by omega
   go_wp2;go_ret;exact⟨C,rfl,J.o.all (zdZ (f:=(fun x=>[Value.string x])) (fun _=>rfl) l),O.o⟩
theorem Tryz.infoTIm:(prog.info? 95).map (fun i=>(i.zero,i.size,i.bytes))=some (some (.agg #[.string {data:=#[]},.string {data:=#[]},.string {data:=#[]}]),3,48):=by kernel_rfl
theorem zqq (x:Im) (w:World):
  Calls prog 126 #[.agg #[.string x.spec,.string x.first,.string x.loc]] w fun e h=>e= .returned (.agg #[.string x.spec,.string x.first,.string x.loc])/\Bw w h:=by
 go_enter func126,ntmps126;go_wp2;refine bodyPost_ret (results_cell_row rfl _ _ (w.heap.size+1) 95 #[.string x.spec,.string x.first,.string x.loc] (0,0) _ rfl ?_ underlying95 rfl (by kernel_rfl)) rfl ?_
 ·rw[heap_alloc_old _ _ (by show _<((w.heap.push _).push _).size;simp)];exact heap_alloc2_new w _ _
 ·exact⟨rfl,((bA0).alloc (by show _<=(w.heap.push _).size;simp) _).alloc (by show _<=((w.heap.push _).push _).size;simp;omega) _⟩
theorem zqr (l:List Im) (W:World) (hr:RowAt W w imL 3 l) (hl:l.length<=1048576):
  Calls prog 89 #[.slice w l.length g] W fun e w'=>zeZ W 95 3 l.length (l.flatMap imL) e w':=by
 have HR:=zc hr;clear hr;obtain⟨i0,hi,V,Y,Z⟩:=info_parts Tryz.infoTIm;go_enter func89,ntmps89;go_wp2_with (first|(at_make;refine wpList_make_full W rfl _ _ 49 rfl W.heap.size 95 i0 _ 3 underlying49 hi V Y .i64 .i64 _ _ l.length (by rfl) (by rfl) rfl rfl (by rw[Z];omega) (by unfold maxLen;omega) (le_refl _) ?_));intro O z A;have ab:=zc ((Below.refl _ _).grown A (le_refl _) (fun k h=>by cases h):Bw W O);have E:Hid (OwnC O W.heap.size 95 3 W.heap.size l.length (l.flatMap imL) 0):=⟨_,z,fun j hj=>absurd hj (not_lt_zero j)⟩;clear z A;obtain⟨C,J⟩: ∃C,C=W.heap.size:=⟨_,rfl⟩;have aa:=zc J;rw[<-J];rw[<-J] at E;have ac:Hid (OwnC O W.heap.size 95 3 C l.length (l.flatMap imL) 0):=by rw[<-J];exact E.o
 clear J E;go_wp2;go_loopg [4] l.length (fun k i wr=>∃j:Nat,i= .int .i64 j/\j+k=l.length/\OwnC wr W.heap.size 95 3 C l.length (l.flatMap imL) (j*3)/\Bw W wr)
 case atStart=>exact⟨0,rfl,by omega,ac.o,ab.o⟩
 case round=>
  obtain⟨j,rfl,hj,ho,hb⟩:=hrel;have HO:=zc ho;have M:=zc hb;clear ho hb;by_cases U:j<l.length
  ·have K:(j:Int)<(l.length:Int):=by omega
   obtain⟨x,hx⟩: ∃x,l[j]? =some x:=⟨_,getElem?_eq_getElem U⟩;obtain⟨b,ae,rfl,N⟩:=(HR.o.later M.o).get hx;have HX:=zc hx;clear hx;have c0:=N 0 _ rfl;have c1:=N 1 _ rfl;have c2:=N 2 _ rfl;simp only[add_zero] at c0;clear N;obtain⟨L,I⟩: ∃L,L=j+1:=⟨_,rfl⟩;have ej:(j:Int)+1=(L:Int):=by omega
   have HJ:=zc I;clear I;go_wp2_with fail;refine (zqq x _).mono ?_;rintro e w2 ⟨rfl,H⟩;have q:=zc (HO.o.later H);have ad:=zc (M.o.trans (H.mono M.o.size));clear H c0 c1 c2;obtain⟨v0,g0⟩:=q.o.has (j*3) (by omega);have f0:=q.o.free (j*3);obtain⟨v1,g1⟩:=q.o.has (j*3+1) (by omega);have f1:=q.o.free (j*3+1);obtain⟨v2,g2⟩:=q.o.has (j*3+2) (by omega);have f2:=q.o.free (j*3+2);have HN:=zc (((q.o.put (by omega) (zbp (f:=imL) (m:=3) (fun _=>rfl) l j x 0 _ HX.o rfl)).put (by omega) (zbp (f:=imL) (m:=3) (fun _=>rfl) l j x 1 _ HX.o rfl)).put (by omega) (zbp (f:=imL) (m:=3) (fun _=>rfl) l j x 2 _ HX.o rfl));have D:W.heap.size<=C:=by have:=aa.o;omega
   go_wp2;go_roundg (gk-1)
   case rel=>exact⟨L,rfl,by have:=HJ.o;omega,by rw[HJ.o,succ_mul];exact HN.o,(((ad.o.setCell D _).setCell D _).setCell D _)⟩
   case measure=>omega
  ·have K: ¬(j:Int)<(l.length:Int):=by omega
   obtain rfl:j=l.length:=by omega
   go_wp2;go_ret;exact⟨C,rfl,HO.o.all (zdZ (f:=imL) (fun _=>rfl) l),M.o⟩
theorem Tryz.infoTEp:(prog.info? 97).map (fun i=>(i.zero,i.size,i.bytes))=some (some (.agg #[.int .i64 0,.string {data:=#[]},.string {data:=#[]},.string {data:=#[]}]),4,56):=by kernel_rfl
theorem zqs (x:Ep) (w:World):
  Calls prog 127 #[.agg #[.int .i64 x.kind,.string x.name,.string x.loc,.string x.spec]] w fun e h=>e= .returned (.agg #[.int .i64 x.kind,.string x.name,.string x.loc,.string x.spec])/\Bw w h:=by
 go_enter func127,ntmps127;go_wp2;refine bodyPost_ret (results_cell_row rfl _ _ (w.heap.size+1) 97 #[.int .i64 x.kind,.string x.name,.string x.loc,.string x.spec] (0,0) _ rfl ?_ underlying97 rfl (by kernel_rfl)) rfl ?_
 ·rw[heap_alloc_old _ _ (by show _<((w.heap.push _).push _).size;simp)];exact heap_alloc2_new w _ _
 ·exact⟨rfl,((bA0).alloc (by show _<=(w.heap.push _).size;simp) _).alloc (by show _<=((w.heap.push _).push _).size;simp;omega) _⟩
theorem zqt (l:List Ep) (W:World) (hr:RowAt W w epL 4 l) (hl:l.length<=1048576):
  Calls prog 90 #[.slice w l.length g] W fun e w'=>zeZ W 97 4 l.length (l.flatMap epL) e w':=by
 have HR:=zc hr;clear hr;obtain⟨i0,hi,X,Z,aa⟩:=info_parts Tryz.infoTEp;go_enter func90,ntmps90;go_wp2_with (first|(at_make;refine wpList_make_full W rfl _ _ 50 rfl W.heap.size 97 i0 _ 4 underlying50 hi X Z .i64 .i64 _ _ l.length (by rfl) (by rfl) rfl rfl (by rw[aa];omega) (by unfold maxLen;omega) (le_refl _) ?_));intro U z D;have ac:=zc ((Below.refl _ _).grown D (le_refl _) (fun k h=>by cases h):Bw W U);have E:Hid (OwnC U W.heap.size 97 4 W.heap.size l.length (l.flatMap epL) 0):=⟨_,z,fun j hj=>absurd hj (not_lt_zero j)⟩;clear z D;obtain⟨C,J⟩: ∃C,C=W.heap.size:=⟨_,rfl⟩;have ab:=zc J;rw[<-J];rw[<-J] at E;have ad:Hid (OwnC U W.heap.size 97 4 C l.length (l.flatMap epL) 0):=by rw[<-J];exact E.o
 clear J E;go_wp2;go_loopg [4] l.length (fun k i wr=>∃j:Nat,i= .int .i64 j/\j+k=l.length/\OwnC wr W.heap.size 97 4 C l.length (l.flatMap epL) (j*4)/\Bw W wr)
 case atStart=>exact⟨0,rfl,by omega,ad.o,ac.o⟩
 case round=>
  obtain⟨j,rfl,hj,ho,hb⟩:=hrel;have HO:=zc ho;have N:=zc hb;clear ho hb;by_cases V:j<l.length
  ·have K:(j:Int)<(l.length:Int):=by omega
   obtain⟨x,hx⟩: ∃x,l[j]? =some x:=⟨_,getElem?_eq_getElem V⟩;obtain⟨b,af,rfl,L⟩:=(HR.o.later N.o).get hx;have O:=zc hx;clear hx;have c0:=L 0 _ rfl;have c1:=L 1 _ rfl;have c2:=L 2 _ rfl;have c3:=L 3 _ rfl;simp only[add_zero] at c0;clear L;obtain⟨M,I⟩: ∃M,M=j+1:=⟨_,rfl⟩;have ej:(j:Int)+1=(M:Int):=by omega
   have HJ:=zc I;clear I;go_wp2_with fail;refine (zqs x _).mono ?_;rintro e w2 ⟨rfl,H⟩;have q:=zc (HO.o.later H);have ae:=zc (N.o.trans (H.mono N.o.size));clear H c0 c1 c2 c3;obtain⟨v0,g0⟩:=q.o.has (j*4) (by omega);have f0:=q.o.free (j*4);obtain⟨v1,g1⟩:=q.o.has (j*4+1) (by omega);have f1:=q.o.free (j*4+1);obtain⟨v2,g2⟩:=q.o.has (j*4+2) (by omega);have f2:=q.o.free (j*4+2);obtain⟨v3,g3⟩:=q.o.has (j*4+3) (by omega);have f3:=q.o.free (j*4+3);have HN:=zc ((((q.o.put (by omega) (zbp (f:=epL) (m:=4) (fun _=>rfl) l j x 0 _ O.o rfl)).put (by omega) (zbp (f:=epL) (m:=4) (fun _=>rfl) l j x 1 _ O.o rfl)).put (by omega) (zbp (f:=epL) (m:=4) (fun _=>rfl) l j x 2 _ O.o rfl)).put (by omega) (zbp (f:=epL) (m:=4) (fun _=>rfl) l j x 3 _ O.o rfl));have A:W.heap.size<=C:=by have:=ab.o;omega
   go_wp2;go_roundg (gk-1)
   case rel=>exact⟨M,rfl,by have:=HJ.o;omega,by rw[HJ.o,succ_mul];exact HN.o,((((ae.o.setCell A _).setCell A _).setCell A _).setCell A _)⟩
   case measure=>omega
  ·have K: ¬(j:Int)<(l.length:Int):=by omega
   obtain rfl:j=l.length:=by omega
   go_wp2;go_ret;exact⟨C,rfl,HO.o.all (zdZ (f:=epL) (fun _=>rfl) l),N.o⟩
theorem Tryz.infoTSm:(prog.info? 102).map (fun i=>(i.zero,i.size,i.bytes))=some (some (.agg #[.int .i64 0,.string {data:=#[]},.int .i64 0]),3,32):=by kernel_rfl
theorem zqu (x:Sm) (w:World):
  Calls prog 128 #[.agg #[.int .i64 x.kind,.string x.name,.int .i64 x.expr]] w fun e h=>e= .returned (.agg #[.int .i64 x.kind,.string x.name,.int .i64 x.expr])/\Bw w h:=by
 go_enter func128,ntmps128;go_wp2;refine bodyPost_ret (results_cell_row rfl _ _ (w.heap.size+1) 102 #[.int .i64 x.kind,.string x.name,.int .i64 x.expr] (0,0) _ rfl ?_ underlying102 rfl (by kernel_rfl)) rfl ?_
 ·rw[heap_alloc_old _ _ (by show _<((w.heap.push _).push _).size;simp)];exact heap_alloc2_new w _ _
 ·exact⟨rfl,((bA0).alloc (by show _<=(w.heap.push _).size;simp) _).alloc (by show _<=((w.heap.push _).push _).size;simp;omega) _⟩
theorem zqv (l:List Sm) (W:World) (hr:RowAt W w smL 3 l) (hl:l.length<=1048576):
  Calls prog 91 #[.slice w l.length g] W fun e w'=>zeZ W 102 3 l.length (l.flatMap smL) e w':=by
 have HR:=zc hr;clear hr;obtain⟨i0,hi,V,Y,Z⟩:=info_parts Tryz.infoTSm;go_enter func91,ntmps91;go_wp2_with (first|(at_make;refine wpList_make_full W rfl _ _ 51 rfl W.heap.size 102 i0 _ 3 underlying51 hi V Y .i64 .i64 _ _ l.length (by rfl) (by rfl) rfl rfl (by rw[Z];omega) (by unfold maxLen;omega) (le_refl _) ?_));intro O z A;have ab:=zc ((Below.refl _ _).grown A (le_refl _) (fun k h=>by cases h):Bw W O);have E:Hid (OwnC O W.heap.size 102 3 W.heap.size l.length (l.flatMap smL) 0):=⟨_,z,fun j hj=>absurd hj (not_lt_zero j)⟩;clear z A;obtain⟨C,J⟩: ∃C,C=W.heap.size:=⟨_,rfl⟩;have aa:=zc J;rw[<-J];rw[<-J] at E;have ac:Hid (OwnC O W.heap.size 102 3 C l.length (l.flatMap smL) 0):=by rw[<-J];exact E.o
 clear J E;go_wp2;go_loopg [4] l.length (fun k i wr=>∃j:Nat,i= .int .i64 j/\j+k=l.length/\OwnC wr W.heap.size 102 3 C l.length (l.flatMap smL) (j*3)/\Bw W wr)
 case atStart=>exact⟨0,rfl,by omega,ac.o,ab.o⟩
 case round=>
  obtain⟨j,rfl,hj,ho,hb⟩:=hrel;have HO:=zc ho;have M:=zc hb;clear ho hb;by_cases U:j<l.length
  ·have K:(j:Int)<(l.length:Int):=by omega
   obtain⟨x,hx⟩: ∃x,l[j]? =some x:=⟨_,getElem?_eq_getElem U⟩;obtain⟨b,ae,rfl,N⟩:=(HR.o.later M.o).get hx;have HX:=zc hx;clear hx;have c0:=N 0 _ rfl;have c1:=N 1 _ rfl;have c2:=N 2 _ rfl;simp only[add_zero] at c0;clear N;obtain⟨L,I⟩: ∃L,L=j+1:=⟨_,rfl⟩;have ej:(j:Int)+1=(L:Int):=by omega
   have HJ:=zc I;clear I;go_wp2_with fail;refine (zqu x _).mono ?_;rintro e w2 ⟨rfl,H⟩;have q:=zc (HO.o.later H);have ad:=zc (M.o.trans (H.mono M.o.size));clear H c0 c1 c2;obtain⟨v0,g0⟩:=q.o.has (j*3) (by omega);have f0:=q.o.free (j*3);obtain⟨v1,g1⟩:=q.o.has (j*3+1) (by omega);have f1:=q.o.free (j*3+1);obtain⟨v2,g2⟩:=q.o.has (j*3+2) (by omega);have f2:=q.o.free (j*3+2);have HN:=zc (((q.o.put (by omega) (zbp (f:=smL) (m:=3) (fun _=>rfl) l j x 0 _ HX.o rfl)).put (by omega) (zbp (f:=smL) (m:=3) (fun _=>rfl) l j x 1 _ HX.o rfl)).put (by omega) (zbp (f:=smL) (m:=3) (fun _=>rfl) l j x 2 _ HX.o rfl));have D:W.heap.size<=C:=by have:=aa.o;omega
   go_wp2;go_roundg (gk-1)
   case rel=>exact⟨L,rfl,by have:=HJ.o;omega,by rw[HJ.o,succ_mul];exact HN.o,(((ad.o.setCell D _).setCell D _).setCell D _)⟩
   case measure=>omega
  ·have K: ¬(j:Int)<(l.length:Int):=by omega
   obtain rfl:j=l.length:=by omega
   go_wp2;go_ret;exact⟨C,rfl,HO.o.all (zdZ (f:=smL) (fun _=>rfl) l),M.o⟩
theorem Tryz.infoTEx:(prog.info? 100).map (fun i=>(i.zero,i.size,i.bytes))=some (some (.agg #[.int .i64 0,.int .i64 0,.string {data:=#[]},.string {data:=#[]},.int .i64 0,.int .i64 0]),6,64):=by kernel_rfl
theorem zqw (x:Ex) (w:World):
  Calls prog 129 #[.agg #[.int .i64 x.kind,.int .i64 x.num,.string x.name,.string x.field,.int .i64 x.l,.int .i64 x.r]] w fun e h=>e= .returned (.agg #[.int .i64 x.kind,.int .i64 x.num,.string x.name,.string x.field,.int .i64 x.l,.int .i64 x.r])/\Bw w h:=by
 go_enter func129,ntmps129;go_wp2;refine bodyPost_ret (results_cell_row rfl _ _ (w.heap.size+1) 100 #[.int .i64 x.kind,.int .i64 x.num,.string x.name,.string x.field,.int .i64 x.l,.int .i64 x.r] (0,0) _ rfl ?_ underlying100 rfl (by kernel_rfl)) rfl ?_
 ·rw[heap_alloc_old _ _ (by show _<((w.heap.push _).push _).size;simp)];exact heap_alloc2_new w _ _
 ·exact⟨rfl,((bA0).alloc (by show _<=(w.heap.push _).size;simp) _).alloc (by show _<=((w.heap.push _).push _).size;simp;omega) _⟩
theorem zqx (l:List Ex) (W:World) (hr:RowAt W w exL 6 l) (hl:l.length<=1048576):
  Calls prog 92 #[.slice w l.length g] W fun e w'=>zeZ W 100 6 l.length (l.flatMap exL) e w':=by
 have HR:=zc hr;clear hr;obtain⟨i0,hi,X,Z,aa⟩:=info_parts Tryz.infoTEx;go_enter func92,ntmps92;go_wp2_with (first|(at_make;refine wpList_make_full W rfl _ _ 52 rfl W.heap.size 100 i0 _ 6 underlying52 hi X Z .i64 .i64 _ _ l.length (by rfl) (by rfl) rfl rfl (by rw[aa];omega) (by unfold maxLen;omega) (le_refl _) ?_));intro U A D;have ac:=zc ((Below.refl _ _).grown D (le_refl _) (fun k h=>by cases h):Bw W U);have E:Hid (OwnC U W.heap.size 100 6 W.heap.size l.length (l.flatMap exL) 0):=⟨_,A,fun j hj=>absurd hj (not_lt_zero j)⟩;clear A D;obtain⟨C,L⟩: ∃C,C=W.heap.size:=⟨_,rfl⟩;have ab:=zc L;rw[<-L];rw[<-L] at E;have ad:Hid (OwnC U W.heap.size 100 6 C l.length (l.flatMap exL) 0):=by rw[<-L];exact E.o
 clear L E;go_wp2;go_loopg [4] l.length (fun k i wr=>∃j:Nat,i= .int .i64 j/\j+k=l.length/\OwnC wr W.heap.size 100 6 C l.length (l.flatMap exL) (j*6)/\Bw W wr)
 case atStart=>exact⟨0,rfl,by omega,ad.o,ac.o⟩
 case round=>
  obtain⟨j,rfl,hj,ho,hb⟩:=hrel;have HO:=zc ho;have O:=zc hb;clear ho hb;by_cases V:j<l.length
  ·have M:(j:Int)<(l.length:Int):=by omega
   obtain⟨x,hx⟩: ∃x,l[j]? =some x:=⟨_,getElem?_eq_getElem V⟩;obtain⟨b,af,rfl,I⟩:=(HR.o.later O.o).get hx;have J:=zc hx;clear hx;have c0:=I 0 _ rfl;have c1:=I 1 _ rfl;have c2:=I 2 _ rfl;have c3:=I 3 _ rfl;have c4:=I 4 _ rfl;have c5:=I 5 _ rfl;simp only[add_zero] at c0;clear I;obtain⟨N,K⟩: ∃N,N=j+1:=⟨_,rfl⟩;have ej:(j:Int)+1=(N:Int):=by omega
   have HJ:=zc K;clear K;go_wp2_with fail;refine (zqw x _).mono ?_;rintro e w2 ⟨rfl,H⟩;have q:=zc (HO.o.later H);have ae:=zc (O.o.trans (H.mono O.o.size));clear H c0 c1 c2 c3 c4 c5;obtain⟨v0,g0⟩:=q.o.has (j*6) (by omega);have f0:=q.o.free (j*6);obtain⟨v1,g1⟩:=q.o.has (j*6+1) (by omega);have f1:=q.o.free (j*6+1);obtain⟨v2,g2⟩:=q.o.has (j*6+2) (by omega);have f2:=q.o.free (j*6+2);obtain⟨v3,g3⟩:=q.o.has (j*6+3) (by omega);have f3:=q.o.free (j*6+3);obtain⟨v4,g4⟩:=q.o.has (j*6+4) (by omega);have f4:=q.o.free (j*6+4);obtain⟨v5,g5⟩:=q.o.has (j*6+5) (by omega);have f5:=q.o.free (j*6+5);have HN:=zc ((((((q.o.put (by omega) (zbp (f:=exL) (m:=6) (fun _=>rfl) l j x 0 _ J.o rfl)).put (by omega) (zbp (f:=exL) (m:=6) (fun _=>rfl) l j x 1 _ J.o rfl)).put (by omega) (zbp (f:=exL) (m:=6) (fun _=>rfl) l j x 2 _ J.o rfl)).put (by omega) (zbp (f:=exL) (m:=6) (fun _=>rfl) l j x 3 _ J.o rfl)).put (by omega) (zbp (f:=exL) (m:=6) (fun _=>rfl) l j x 4 _ J.o rfl)).put (by omega) (zbp (f:=exL) (m:=6) (fun _=>rfl) l j x 5 _ J.o rfl));have z:W.heap.size<=C:=by have:=ab.o;omega
   go_wp2;go_roundg (gk-1)
   case rel=>exact⟨N,rfl,by have:=HJ.o;omega,by rw[HJ.o,succ_mul];exact HN.o,((((((ae.o.setCell z _).setCell z _).setCell z _).setCell z _).setCell z _).setCell z _)⟩
   case measure=>omega
  ·have M: ¬(j:Int)<(l.length:Int):=by omega
   obtain rfl:j=l.length:=by omega
   go_wp2;go_ret;exact⟨C,rfl,HO.o.all (zdZ (f:=exL) (fun _=>rfl) l),O.o⟩
end Go.Proofs.YtgcbmogmniahjaaGreat
namespace Go.Proofs.YtgcbmogmniahjaaGreat
open Go.Proofs.Tryz
set_option maxHeartbeats 1600000
set_option maxRecDepth 100000
open Go.RowKit Go.PlainAid Go.Sort
abbrev RowS (w:World) (a:Option Addr) (l:List BA):Prop:=RowAt w a (fun x=>[Value.string x]) 1 l
variable {g:Nat} {w:World} {W:Rw}
theorem RowAt.take {α:Type} {f:α->List Value} {a:Option Addr} {l:List α} (h:RowAt w a f g l) (k:Nat):RowAt w a f g (l.take k):=by
 rcases h with rfl|⟨b,A,D,z,E⟩
 ·exact .inl (List.take_nil)
 ·refine .inr ⟨b,A,D,z,fun j x q=>?_⟩;rw[List.getElem?_take] at q
  split at q
  ·exact E j x q
  ·cases q
theorem zgd (a:Option Addr) (D n:Nat) (l:List BA) (s:BA) (w:World) (M:n=l.length) (K:RowS w a l) (hl:n<=1048576):
  Calls prog 27 #[.slice a n D,.string s] w fun e U=>e= .returned (.bool (inL l s))/\U=w:=by
 have V:=zc K;have L:=zc M;clear K M;go_enter func27,ntmps27;go_wp2;go_loop [5] (fun i=>∃k:Nat,k<=n/\i= .int .i64 k/\(∀j,j<k->((l.getD j sNone).toList==s.toList)=false)) (fun i=>(n-intOf i).toNat)
 case atStart=>exact⟨0,by omega,rfl,fun j H=>absurd H (Nat.not_lt_zero j)⟩
 case round=>
  obtain⟨k,hk,rfl,z⟩:=hrel;have A:=zc z;clear z;by_cases O:k<n
  ·have q:k<l.length:=by have:=L.o;omega
   obtain⟨x,E⟩: ∃x,l[k]? =some x:=⟨_,List.getElem?_eq_getElem q⟩;obtain⟨b,X,rfl,N⟩:=V.o.get E;have h:l.getD k sNone=x:=by simp[List.getD,E]
   have Y:=N 0 _ rfl;simp only[Nat.add_zero,Nat.mul_one] at Y;clear N E;cases J:(x.toList==s.toList) with
   |true=>
    have I:Hid (inL l s=true):=zpV (k:=k) q (by rw[h];exact J);clear h q;go_wp2;go_ret;exact⟨zi I.o.symm,rfl⟩
   |false=>
    have Z:Hid (∀j,j<k+1->((l.getD j sNone).toList==s.toList)=false):=fun j H=>by
     by_cases e:j=k
     ·rw[e,h];exact J
     ·exact A.o j (by omega)
    clear h q;go_wp2;go_round
    case rel=>exact⟨k+1,by omega,by go_num,Z.o⟩
    case measure=>simp[intOf];omega
  ·have I:Hid (inL l s=false):=zpW fun j H=>A.o j (by have:=L.o;omega);go_wp2;go_ret;exact⟨zi I.o.symm,rfl⟩
theorem zmF (a:Option Addr) (h n:Nat) (l:List BA) (w:World) (Y:n=l.length) (V:RowS w a l) (hl:n<=1048576) (O:n<=h):
  Calls prog 58 #[.slice a n h] w fun e M=>e= .returned (.bool (twB l))/\Bw w M:=by
 have U:=zc V;have X:=zc Y;clear V Y;go_enter func58,ntmps58;go_wp2;go_loopg [3] n (fun k i wr=>∃j:Nat,i= .int .i64 j/\j+k=n/\(∀i,i<j->inL (l.take i) (l.getD i sNone)=false)/\Bw w wr)
 case atStart=>exact⟨0,rfl,by omega,fun j Z=>absurd Z (Nat.not_lt_zero j),Below.refl _ _⟩
 case round=>
  obtain⟨j,rfl,Z,z,N⟩:=hrel;have E:=zc z;have H:=zc N;clear z N;by_cases aa:j<n
  ·have J:(j:Int)<(n:Int):=by omega
   have D:j<l.length:=by have:=X.o;omega
   have ac:(j:Int)<=(h:Int):=by omega
   obtain⟨x,K⟩: ∃x,l[j]? =some x:=⟨_,List.getElem?_eq_getElem D⟩;obtain⟨b,ab,rfl,hc⟩:=(U.o.later H.o).get K;have A:l.getD j sNone=x:=by simp[List.getD,K]
   have c0:=hc 0 _ rfl;simp only[Nat.add_zero,Nat.mul_one] at c0;clear hc K;have HT:=zc ((U.o.later H.o).take j);have HL:Hid (j=(l.take j).length):=by show j=_;rw[List.length_take];omega
   obtain⟨v,hv⟩: ∃v,inL (l.take j) x=v:=⟨_,rfl⟩;have q:=zc hv;have I:=zc A;clear hv A;go_wp2_with fail;go_region_with (first|(go_at_call 27;refine (zgd _ h j (l.take j) x _ HL.o (by exact HT.o) (by omega)).mono ?_;rintro e M ⟨rfl,rfl⟩;rw[q.o]))
   all_goals
    cases v with
    |true=>
     have L:Hid (twB l=true):=zk4 D (by rw[I.o];exact q.o);go_wp2;go_ret;exact⟨zi L.o.symm,H.o.drew⟩
    |false=>
     have HX:Hid (∀i,i<j+1->inL (l.take i) (l.getD i sNone)=false):=fun i hi=>by
      by_cases e:i=j
      ·rw[e,I.o];exact q.o
      ·exact E.o i (by omega)
     go_wp2;go_roundg (gk-1)
     case rel=>exact⟨j+1,by go_num,by omega,HX.o,H.o.drew⟩
     case measure=>omega
  ·have J: ¬(j:Int)<(n:Int):=by omega
   have L:Hid (twB l=false):=zpX fun i hi=>E.o i (by have:=X.o;omega);go_wp2;go_ret;exact⟨zi L.o.symm,H.o⟩
theorem RowAt.of {α:Type} {f:α->List Value} {m:Nat} (z: ∀x,(f x).length=m) {b0:Nat} {e:TypeId} {l:List α} (h:OwnR w b0 e m W l.length (l.flatMap f)):RowAt w W.a f m l:=by
 cases D:l with
 |nil=>exact .inl rfl
 |cons y t=>
  rw[<-D];obtain⟨g,A,_⟩:=OwnR.elem z h (j:=0) (x:=y) (by rw[D];rfl);refine .inr ⟨g,0,A,(h.typed (by rw[Rw.blk,A];rfl)).2.1,fun j x H i v E=>?_⟩;obtain⟨K,q,I⟩:=OwnR.elem z h H;rw[A] at q;cases q;obtain⟨J,_⟩:=List.getElem?_eq_some_iff.1 E;rw[Nat.zero_add,I i (by rw[<-z x];exact J)];exact E
theorem RowS.of {l:List BA} (h:OwnR w g 9 1 W l.length (l.map .string)):RowS w W.a l:=by
 refine RowAt.of (f:=fun x=>[Value.string x]) (fun _=>rfl) (b0:=g) (e:=9) ?_;have e:(l.flatMap fun x=>[Value.string x])=l.map .string:=by
  clear h
  induction l with
  |nil=>rfl
  |cons x l q=>rw[List.flatMap_cons,List.map_cons,q];rfl
 rw[e];exact h
def ziI (l:List Im) (n:BA) (z:Int):Prop:=
 (z= -1/\∀(j:Nat) (y:Im),l[j]? =some y->(y.loc.toList==n.toList)=false)∨
 ∃(k:Nat) (x:Im),z=k/\l[k]? =some x/\(x.loc.toList==n.toList)=true/\∀(j:Nat) (y:Im),j<k->l[j]? =some y->(y.loc.toList==n.toList)=false
def zv1 (l:List Im) (n:BA) (e:Ending):Prop:=∃z,e= .returned (.int .i64 z)/\ziI l n z
theorem zv2 (V:Sv) (m:Md) (n:BA) (w:World) (E:RowAt w V.im.a imL 3 m.im) (hl:m.im.length<=1048576):
  Calls prog 88 #[zl V m,.string n] w fun e O=>zv1 m.im n e/\Bw w O:=by
 obtain⟨a,L⟩: ∃a,V.im.a=a:=⟨_,rfl⟩;unfold zl;rw[L] at E ⊢;have D:Hid (Bw w (w.alloc (.cells #[.slice V.rq.a m.rq.length V.rq.cap,.slice a m.im.length V.im.cap,.slice V.ep.a m.ep.length V.ep.cap,.slice V.st.a m.st.length V.st.cap,.slice V.ex.a m.ex.length V.ex.cap] 54))):=bA0;have U:=zc (E.later D.o);clear E L;go_enter func88,ntmps88;go_wp2;go_loop [5] (fun i=>∃k:Nat,k<=m.im.length/\i= .int .i64 k/\(∀(j:Nat) (y:Im),j<k->m.im[j]? =some y->(y.loc.toList==n.toList)=false)) (fun i=>(m.im.length-intOf i).toNat)
 case atStart=>exact⟨0,by omega,rfl,fun j _ K=>absurd K (Nat.not_lt_zero j)⟩
 case round=>
  obtain⟨k,Z,rfl,z⟩:=hrel;have h:=zc z;clear z;by_cases A:k<m.im.length
  ·obtain⟨x,H⟩: ∃x,m.im[k]? =some x:=⟨_,List.getElem?_eq_getElem A⟩;obtain⟨b,X,rfl,M⟩:=U.o.get H;have N:=zc H;have c0:=M 2 _ rfl;clear M H;cases J:(x.loc.toList==n.toList) with
   |true=>
    have I:Hid (ziI m.im n k):=.inr ⟨k,x,rfl,N.o,J,h.o⟩;go_wp2;go_ret;exact⟨⟨_,rfl,I.o⟩,D.o⟩
   |false=>
    have Y:Hid (∀(j:Nat) (y:Im),j<k+1->m.im[j]? =some y->(y.loc.toList==n.toList)=false):=fun j y K q=>by
     by_cases e:j=k
     ·rw[e,N.o] at q;cases q;exact J
     ·exact h.o j y (by omega) q
    go_wp2;go_round
    case rel=>exact⟨k+1,by omega,by go_num,Y.o⟩
    case measure=>simp[intOf];omega
  ·have I:Hid (ziI m.im n (-1)):=.inl ⟨rfl,fun j y q=>h.o j y (by have:=(List.getElem?_eq_some_iff.1 q).1;omega) q⟩;go_wp2;go_ret;exact⟨⟨_,rfl,I.o⟩,D.o⟩
theorem zef (V:Sv) (m:Md) (n:BA) (w:World) (L:RowAt w V.im.a imL 3 m.im) (Z:m.im.length<=1048576):
  Calls prog 59 #[zl V m,.string n] w fun e U=>e= .returned (.bool (spB m.im n))/\Bw w U:=by
 have J:=zc L;clear L;have I:Hid (Bw w (w.alloc (.cells #[.slice V.rq.a m.rq.length V.rq.cap,.slice V.im.a m.im.length V.im.cap,.slice V.ep.a m.ep.length V.ep.cap,.slice V.st.a m.st.length V.st.cap,.slice V.ex.a m.ex.length V.ex.cap] 54))):=bA0;unfold zl;go_enter func59,ntmps59;go_wp2_with fail;refine (zv2 V m n _ (J.o.later I.o) Z).mono ?_;rintro e w1 ⟨⟨z,rfl,K⟩,D⟩;have q:=zc (I.o.trans (D.mono (by rw[zg];omega)));obtain⟨c0,X,c2,c3,c4,cf⟩:=zj ((D.block w.heap.size (by rw[zg];omega)).trans (heap_alloc_new w _));have N:=zc K;clear K D;rcases N.o with ⟨rfl,h⟩|⟨k,x,rfl,A,H,h⟩
 ·have E:Hid (spB m.im n=false):=zpZ h;clear h;go_wp2;go_ret;exact⟨zi E.o.symm,q.o⟩
 ·have E:Hid (spB m.im n=(x.first.toList==[42])):=zpY A H h;have hk:=(List.getElem?_eq_some_iff.1 A).1;obtain⟨b,Y,M,O⟩:=(J.o.later q.o).get A;have d0:=O 1 _ rfl;rw[M] at X;clear O h H A M N;go_wp2;go_ret;exact⟨zi E.o.symm,q.o⟩
end Go.Proofs.YtgcbmogmniahjaaGreat
