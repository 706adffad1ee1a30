/- Facts and walks that the theorem stands on. -/
import Derived.Test.YtgcbmogmniahjaaGreatA18
import Derived.Test.YtgcbmogmniahjaaGreatA16
namespace Go.Proofs.YtgcbmogmniahjaaGreat
open Go.Proofs.Tryz
set_option maxRecDepth 100000
set_option maxHeartbeats 3200000
open Go.RowKit Go.PlainAid Go.Sort
def zdR (x:BA):Prop:=x.size<=9223372036854775807
theorem zky (a:Option Addr) (O:Nat) (l:List BA) (left:Int) (w:World) (Y:RowAt w a (fun x=>[Value.string x]) 1 l) (hl:l.length<=9223372036854775807) (A: ∀x∈l,zdR x) (h0:0<=left) (h1:left<=1048576):
  Calls prog 22 #[.slice a l.length O,.int .i64 left] w fun e w'=>zct left (l.length+zF zbZ l) e/\Below w.heap.size w w':=by
 have HR:=zc Y;have HG:=zc A;clear Y A;by_cases aa:(l.length:Int)<=left
 case neg=>
  go_enter func22,ntmps22;go_wp2;go_ret;exact⟨⟨-1,rfl,by omega,by omega,fun h=>by omega⟩,Below.refl _ _⟩
 go_enter func22,ntmps22;go_wp2;go_loopg [1,5] l.length (fun k s1 s5 wr=>∃(j:Nat) (z:Int),s5= .int .i64 j/\s1= .int .i64 z/\j+k=l.length/\0<=z/\z<=left/\z+((l.length+zF zbZ (l.take j):Nat):Int)=left/\Below w.heap.size w wr)
 case atStart=>exact⟨0,_,rfl,rfl,by omega,by omega,by omega,by simp[zF],Below.refl _ _⟩
 case round=>
  obtain⟨j,z,rfl,rfl,hj,ab,V,H,A⟩:=hrel;have Z:=zc H;have L:=zc A;clear H A;by_cases N:j<l.length
  ·have J:(j:Int)<(l.length:Int):=by omega
   obtain⟨x,M⟩: ∃x,l[j]? =some x:=⟨_,List.getElem?_eq_getElem N⟩;obtain⟨b,ac,rfl,hc⟩:=(HR.o.later L.o).get M;have I:=HG.o x (List.mem_of_getElem? M);have HC:=zc (zeo zbZ M);have c0:=hc 0 _ rfl;simp only[Nat.add_zero,Nat.mul_one] at c0;clear hc M;obtain⟨K,q⟩: ∃K,K=j+1:=⟨_,rfl⟩;have ej:(j:Int)+1=(K:Int):=by omega
   have X:=zc q;clear q;unfold zdR at I;by_cases U:0<=z-(x.size:Int)
   ·go_wp2;go_roundg (gk-1)
    case rel=>exact⟨K,_,rfl,rfl,by have:=X.o;omega,U,by omega,by have:=Z.o;have:zbZ x=x.size:=rfl;rw[X.o,HC.o];omega,L.o⟩
    case measure=>omega
   ·go_wp2;go_ret;exact⟨⟨-1,rfl,by omega,by omega,fun h=>by omega⟩,L.o⟩
  ·have J: ¬(j:Int)<(l.length:Int):=by omega
   obtain rfl:j=l.length:=by omega
   go_wp2;go_ret;exact⟨⟨z,rfl,by omega,V,fun _=>by have:=Z.o;rw[List.take_length] at this;exact this⟩,L.o⟩
def zep (x:Im):Prop:=x.spec.size<=9223372036854775807/\x.first.size<=9223372036854775807/\x.loc.size<=9223372036854775807
theorem zpL (x:Im) (left:Int) (w:World) (q:zep x) (I:0<=left) (H:left<=1048576):
  Calls prog 107 #[.agg #[.string x.spec,.string x.first,.string x.loc],.int .i64 left] w fun e w'=>zct left (zca x) e/\Below w.heap.size w w':=by
 unfold zep at q;obtain⟨A,z,J⟩:=q;go_enter func107,ntmps107;go_wp2
 ·go_ret;exact⟨⟨-1,rfl,by omega,by omega,fun h=>by omega⟩,(Below.refl _ _).alloc (Nat.le_refl _) _⟩
 ·go_ret;exact⟨⟨-1,rfl,by omega,by omega,fun h=>by omega⟩,(Below.refl _ _).alloc (Nat.le_refl _) _⟩
 ·go_ret;exact⟨⟨-1,rfl,by omega,by omega,fun h=>by omega⟩,(Below.refl _ _).alloc (Nat.le_refl _) _⟩
 ·go_ret;exact⟨⟨_,rfl,by omega,by omega,fun _=>by unfold zca;omega⟩,(Below.refl _ _).alloc (Nat.le_refl _) _⟩
theorem zpM (a:Option Addr) (aa:Nat) (l:List Im) (left:Int) (w:World) (hr:RowAt w a imL 3 l) (hl:l.length<=9223372036854775807) (H: ∀x∈l,zep x) (h0:0<=left) (h1:left<=1048576):
  Calls prog 77 #[.slice a l.length aa,.int .i64 left] w fun e w'=>zct left (l.length+zF zca l) e/\Below w.heap.size w w':=by
 have HR:=zc hr;have HG:=zc H;clear hr H;by_cases ad:(l.length:Int)<=left
 case neg=>
  go_enter func77,ntmps77;go_wp2;go_ret;exact⟨⟨-1,rfl,by omega,by omega,fun h=>by omega⟩,Below.refl _ _⟩
 go_enter func77,ntmps77;go_wp2;go_loopg [1,5] l.length (fun k s1 s5 wr=>∃(j:Nat) (z:Int),s5= .int .i64 j/\s1= .int .i64 z/\j+k=l.length/\0<=z/\z<=left/\z+((l.length+zF zca (l.take j):Nat):Int)=left/\Below w.heap.size w wr)
 case atStart=>exact⟨0,_,rfl,rfl,by omega,by omega,by omega,by simp[zF],Below.refl _ _⟩
 case round=>
  obtain⟨j,z,rfl,rfl,hj,Z,ab,K,H⟩:=hrel;have HZ:=zc K;have U:=zc H;clear K H;by_cases Y:j<l.length
  ·have N:(j:Int)<(l.length:Int):=by omega
   obtain⟨x,V⟩: ∃x,l[j]? =some x:=⟨_,List.getElem?_eq_getElem Y⟩;obtain⟨b,af,rfl,X⟩:=(HR.o.later U.o).get V;have q:=HG.o x (List.mem_of_getElem? V);have HC:=zc (zeo zca V);have c0:=X 0 _ rfl;have c1:=X 1 _ rfl;have c2:=X 2 _ rfl;simp only[Nat.add_zero] at c0;clear X V;obtain⟨O,A⟩: ∃O,O=j+1:=⟨_,rfl⟩;have ej:(j:Int)+1=(O:Int):=by omega
   have HJ:=zc A;clear A;go_wp2_with fail;refine (zpL x z _ q Z (by omega)).mono ?_;rintro e w1 ⟨⟨z1,rfl,ag,ae,J⟩,M⟩;have L:=zc (U.o.trans (M.mono U.o.size));have ac:=zc J;clear M J q c0 c1 c2;by_cases I:0<=z1
   ·go_wp2;go_roundg (gk-1)
    case rel=>exact⟨O,z1,rfl,rfl,by have:=HJ.o;omega,I,by omega,by have:=HZ.o;have:=ac.o I;rw[HJ.o,HC.o];omega,L.o⟩
    case measure=>omega
   ·go_wp2;go_ret;exact⟨⟨-1,rfl,by omega,by omega,fun h=>by omega⟩,L.o⟩
  ·have N: ¬(j:Int)<(l.length:Int):=by omega
   obtain rfl:j=l.length:=by omega
   go_wp2;go_ret;exact⟨⟨z,rfl,by omega,ab,fun _=>by have:=HZ.o;rw[List.take_length] at this;exact this⟩,U.o⟩
def zeq (x:Ep):Prop:=x.name.size<=9223372036854775807/\x.loc.size<=9223372036854775807/\x.spec.size<=9223372036854775807
theorem zpN (x:Ep) (left:Int) (w:World) (q:zeq x) (I:0<=left) (H:left<=1048576):
  Calls prog 108 #[.agg #[.int .i64 x.kind,.string x.name,.string x.loc,.string x.spec],.int .i64 left] w fun e w'=>zct left (zcb x) e/\Below w.heap.size w w':=by
 unfold zeq at q;obtain⟨A,z,J⟩:=q;go_enter func108,ntmps108;go_wp2
 ·go_ret;exact⟨⟨-1,rfl,by omega,by omega,fun h=>by omega⟩,(Below.refl _ _).alloc (Nat.le_refl _) _⟩
 ·go_ret;exact⟨⟨-1,rfl,by omega,by omega,fun h=>by omega⟩,(Below.refl _ _).alloc (Nat.le_refl _) _⟩
 ·go_ret;exact⟨⟨-1,rfl,by omega,by omega,fun h=>by omega⟩,(Below.refl _ _).alloc (Nat.le_refl _) _⟩
 ·go_ret;exact⟨⟨_,rfl,by omega,by omega,fun _=>by unfold zcb;omega⟩,(Below.refl _ _).alloc (Nat.le_refl _) _⟩
theorem zpO (a:Option Addr) (aa:Nat) (l:List Ep) (left:Int) (w:World) (hr:RowAt w a epL 4 l) (hl:l.length<=9223372036854775807) (H: ∀x∈l,zeq x) (h0:0<=left) (h1:left<=1048576):
  Calls prog 78 #[.slice a l.length aa,.int .i64 left] w fun e w'=>zct left (l.length+zF zcb l) e/\Below w.heap.size w w':=by
 have HR:=zc hr;have HG:=zc H;clear hr H;by_cases ad:(l.length:Int)<=left
 case neg=>
  go_enter func78,ntmps78;go_wp2;go_ret;exact⟨⟨-1,rfl,by omega,by omega,fun h=>by omega⟩,Below.refl _ _⟩
 go_enter func78,ntmps78;go_wp2;go_loopg [1,5] l.length (fun k s1 s5 wr=>∃(j:Nat) (z:Int),s5= .int .i64 j/\s1= .int .i64 z/\j+k=l.length/\0<=z/\z<=left/\z+((l.length+zF zcb (l.take j):Nat):Int)=left/\Below w.heap.size w wr)
 case atStart=>exact⟨0,_,rfl,rfl,by omega,by omega,by omega,by simp[zF],Below.refl _ _⟩
 case round=>
  obtain⟨j,z,rfl,rfl,hj,Z,ab,K,H⟩:=hrel;have HZ:=zc K;have V:=zc H;clear K H;by_cases Y:j<l.length
  ·have N:(j:Int)<(l.length:Int):=by omega
   obtain⟨x,X⟩: ∃x,l[j]? =some x:=⟨_,List.getElem?_eq_getElem Y⟩;obtain⟨b,af,rfl,O⟩:=(HR.o.later V.o).get X;have q:=HG.o x (List.mem_of_getElem? X);have HC:=zc (zeo zcb X);have c0:=O 0 _ rfl;have c1:=O 1 _ rfl;have c2:=O 2 _ rfl;have c3:=O 3 _ rfl;simp only[Nat.add_zero] at c0;clear O X;obtain⟨U,A⟩: ∃U,U=j+1:=⟨_,rfl⟩;have ej:(j:Int)+1=(U:Int):=by omega
   have HJ:=zc A;clear A;go_wp2_with fail;refine (zpN x z _ q Z (by omega)).mono ?_;rintro e w1 ⟨⟨z1,rfl,ag,ae,J⟩,M⟩;have L:=zc (V.o.trans (M.mono V.o.size));have ac:=zc J;clear M J q c0 c1 c2 c3;by_cases I:0<=z1
   ·go_wp2;go_roundg (gk-1)
    case rel=>exact⟨U,z1,rfl,rfl,by have:=HJ.o;omega,I,by omega,by have:=HZ.o;have:=ac.o I;rw[HJ.o,HC.o];omega,L.o⟩
    case measure=>omega
   ·go_wp2;go_ret;exact⟨⟨-1,rfl,by omega,by omega,fun h=>by omega⟩,L.o⟩
  ·have N: ¬(j:Int)<(l.length:Int):=by omega
   obtain rfl:j=l.length:=by omega
   go_wp2;go_ret;exact⟨⟨z,rfl,by omega,ab,fun _=>by have:=HZ.o;rw[List.take_length] at this;exact this⟩,V.o⟩
def zer (x:Sm):Prop:=x.name.size<=9223372036854775807
theorem zpP (x:Sm) (left:Int) (w:World) (q:zer x) (A:0<=left) (z:left<=1048576):
  Calls prog 109 #[.agg #[.int .i64 x.kind,.string x.name,.int .i64 x.expr],.int .i64 left] w fun e w'=>zct left (zcu x) e/\Below w.heap.size w w':=by
 unfold zer at q;go_enter func109,ntmps109;go_wp2
 ·go_ret;exact⟨⟨-1,rfl,by omega,by omega,fun h=>by omega⟩,(Below.refl _ _).alloc (Nat.le_refl _) _⟩
 ·go_ret;exact⟨⟨_,rfl,by omega,by omega,fun _=>by unfold zcu;omega⟩,(Below.refl _ _).alloc (Nat.le_refl _) _⟩
theorem zpQ (a:Option Addr) (aa:Nat) (l:List Sm) (left:Int) (w:World) (hr:RowAt w a smL 3 l) (hl:l.length<=9223372036854775807) (H: ∀x∈l,zer x) (h0:0<=left) (h1:left<=1048576):
  Calls prog 79 #[.slice a l.length aa,.int .i64 left] w fun e w'=>zct left (l.length+zF zcu l) e/\Below w.heap.size w w':=by
 have HR:=zc hr;have HG:=zc H;clear hr H;by_cases ad:(l.length:Int)<=left
 case neg=>
  go_enter func79,ntmps79;go_wp2;go_ret;exact⟨⟨-1,rfl,by omega,by omega,fun h=>by omega⟩,Below.refl _ _⟩
 go_enter func79,ntmps79;go_wp2;go_loopg [1,5] l.length (fun k s1 s5 wr=>∃(j:Nat) (z:Int),s5= .int .i64 j/\s1= .int .i64 z/\j+k=l.length/\0<=z/\z<=left/\z+((l.length+zF zcu (l.take j):Nat):Int)=left/\Below w.heap.size w wr)
 case atStart=>exact⟨0,_,rfl,rfl,by omega,by omega,by omega,by simp[zF],Below.refl _ _⟩
 case round=>
  obtain⟨j,z,rfl,rfl,hj,Z,ab,K,H⟩:=hrel;have HZ:=zc K;have U:=zc H;clear K H;by_cases Y:j<l.length
  ·have N:(j:Int)<(l.length:Int):=by omega
   obtain⟨x,V⟩: ∃x,l[j]? =some x:=⟨_,List.getElem?_eq_getElem Y⟩;obtain⟨b,af,rfl,X⟩:=(HR.o.later U.o).get V;have q:=HG.o x (List.mem_of_getElem? V);have HC:=zc (zeo zcu V);have c0:=X 0 _ rfl;have c1:=X 1 _ rfl;have c2:=X 2 _ rfl;simp only[Nat.add_zero] at c0;clear X V;obtain⟨O,A⟩: ∃O,O=j+1:=⟨_,rfl⟩;have ej:(j:Int)+1=(O:Int):=by omega
   have HJ:=zc A;clear A;go_wp2_with fail;refine (zpP x z _ q Z (by omega)).mono ?_;rintro e w1 ⟨⟨z1,rfl,ag,ae,J⟩,M⟩;have L:=zc (U.o.trans (M.mono U.o.size));have ac:=zc J;clear M J q c0 c1 c2;by_cases I:0<=z1
   ·go_wp2;go_roundg (gk-1)
    case rel=>exact⟨O,z1,rfl,rfl,by have:=HJ.o;omega,I,by omega,by have:=HZ.o;have:=ac.o I;rw[HJ.o,HC.o];omega,L.o⟩
    case measure=>omega
   ·go_wp2;go_ret;exact⟨⟨-1,rfl,by omega,by omega,fun h=>by omega⟩,L.o⟩
  ·have N: ¬(j:Int)<(l.length:Int):=by omega
   obtain rfl:j=l.length:=by omega
   go_wp2;go_ret;exact⟨⟨z,rfl,by omega,ab,fun _=>by have:=HZ.o;rw[List.take_length] at this;exact this⟩,U.o⟩
def zes (x:Ex):Prop:=x.name.size<=9223372036854775807/\x.field.size<=9223372036854775807
theorem zpR (x:Ex) (left:Int) (w:World) (q:zes x) (I:0<=left) (H:left<=1048576):
  Calls prog 110 #[.agg #[.int .i64 x.kind,.int .i64 x.num,.string x.name,.string x.field,.int .i64 x.l,.int .i64 x.r],.int .i64 left] w fun e w'=>zct left (zcJ x) e/\Below w.heap.size w w':=by
 unfold zes at q;obtain⟨A,z⟩:=q;go_enter func110,ntmps110;go_wp2
 ·go_ret;exact⟨⟨-1,rfl,by omega,by omega,fun h=>by omega⟩,(Below.refl _ _).alloc (Nat.le_refl _) _⟩
 ·go_ret;exact⟨⟨-1,rfl,by omega,by omega,fun h=>by omega⟩,(Below.refl _ _).alloc (Nat.le_refl _) _⟩
 ·go_ret;exact⟨⟨_,rfl,by omega,by omega,fun _=>by unfold zcJ;omega⟩,(Below.refl _ _).alloc (Nat.le_refl _) _⟩
theorem zpS (a:Option Addr) (aa:Nat) (l:List Ex) (left:Int) (w:World) (hr:RowAt w a exL 6 l) (hl:l.length<=9223372036854775807) (I: ∀x∈l,zes x) (h0:0<=left) (h1:left<=1048576):
  Calls prog 80 #[.slice a l.length aa,.int .i64 left] w fun e w'=>zct left (l.length+zF zcJ l) e/\Below w.heap.size w w':=by
 have HR:=zc hr;have HG:=zc I;clear hr I;by_cases ad:(l.length:Int)<=left
 case neg=>
  go_enter func80,ntmps80;go_wp2;go_ret;exact⟨⟨-1,rfl,by omega,by omega,fun h=>by omega⟩,Below.refl _ _⟩
 go_enter func80,ntmps80;go_wp2;go_loopg [1,5] l.length (fun k s1 s5 wr=>∃(j:Nat) (z:Int),s5= .int .i64 j/\s1= .int .i64 z/\j+k=l.length/\0<=z/\z<=left/\z+((l.length+zF zcJ (l.take j):Nat):Int)=left/\Below w.heap.size w wr)
 case atStart=>exact⟨0,_,rfl,rfl,by omega,by omega,by omega,by simp[zF],Below.refl _ _⟩
 case round=>
  obtain⟨j,z,rfl,rfl,hj,Z,ab,L,I⟩:=hrel;have HZ:=zc L;have V:=zc I;clear L I;by_cases Y:j<l.length
  ·have O:(j:Int)<(l.length:Int):=by omega
   obtain⟨x,X⟩: ∃x,l[j]? =some x:=⟨_,List.getElem?_eq_getElem Y⟩;obtain⟨b,af,rfl,A⟩:=(HR.o.later V.o).get X;have q:=HG.o x (List.mem_of_getElem? X);have HC:=zc (zeo zcJ X);have c0:=A 0 _ rfl;have c1:=A 1 _ rfl;have c2:=A 2 _ rfl;have c3:=A 3 _ rfl;have c4:=A 4 _ rfl;have c5:=A 5 _ rfl;simp only[Nat.add_zero] at c0;clear A X;obtain⟨U,H⟩: ∃U,U=j+1:=⟨_,rfl⟩;have ej:(j:Int)+1=(U:Int):=by omega
   have HJ:=zc H;clear H;go_wp2_with fail;refine (zpR x z _ q Z (by omega)).mono ?_;rintro e w1 ⟨⟨z1,rfl,ag,ae,K⟩,N⟩;have M:=zc (V.o.trans (N.mono V.o.size));have ac:=zc K;clear N K q c0 c1 c2 c3 c4 c5;by_cases J:0<=z1
   ·go_wp2;go_roundg (gk-1)
    case rel=>exact⟨U,z1,rfl,rfl,by have:=HJ.o;omega,J,by omega,by have:=HZ.o;have:=ac.o J;rw[HJ.o,HC.o];omega,M.o⟩
    case measure=>omega
   ·go_wp2;go_ret;exact⟨⟨-1,rfl,by omega,by omega,fun h=>by omega⟩,M.o⟩
  ·have O: ¬(j:Int)<(l.length:Int):=by omega
   obtain rfl:j=l.length:=by omega
   go_wp2;go_ret;exact⟨⟨z,rfl,by omega,ab,fun _=>by have:=HZ.o;rw[List.take_length] at this;exact this⟩,V.o⟩
structure MA where
 a0:Option Addr
 a1:Option Addr
 a2:Option Addr
 a3:Option Addr
 a4:Option Addr
 c0:Nat
 c1:Nat
 c2:Nat
 c3:Nat
 c4:Nat
def zfC (A:MA) (m:Md):Value:=.agg #[.slice A.a0 m.rq.length A.c0,.slice A.a1 m.im.length A.c1,.slice A.a2 m.ep.length A.c2,.slice A.a3 m.st.length A.c3,.slice A.a4 m.ex.length A.c4]
def ModIn (w:World) (A:MA) (m:Md):Prop:=RowAt w A.a0 (fun x=>[Value.string x]) 1 m.rq/\RowAt w A.a1 imL 3 m.im/\RowAt w A.a2 epL 4 m.ep/\RowAt w A.a3 smL 3 m.st/\RowAt w A.a4 exL 6 m.ex
theorem ModIn.later {w w':World} {A:MA} {m:Md} (h:ModIn w A m) (q:Below w.heap.size w w'):ModIn w' A m:=⟨h.1.later q,h.2.1.later q,h.2.2.1.later q,h.2.2.2.1.later q,h.2.2.2.2.later q⟩
def zfD (m:Md):Prop:=(m.rq.length<=9223372036854775807/\∀x∈m.rq,zdR x)/\(m.im.length<=9223372036854775807/\∀x∈m.im,zep x)/\(m.ep.length<=9223372036854775807/\∀x∈m.ep,zeq x)/\(m.st.length<=9223372036854775807/\∀x∈m.st,zer x)/\(m.ex.length<=9223372036854775807/\∀x∈m.ex,zes x)
theorem zpT (A:MA) (m:Md) (left:Int) (w:World) (hr:ModIn w A m) (q:zfD m) (h0:0<=left) (h1:left<=1048576):
  Calls prog 51 #[zfC A m,.int .i64 left] w fun e w'=>zct left (zbv m) e/\Below w.heap.size w w':=by
 have HR:=zc hr;have z:=zc q;clear hr q;unfold zfC;go_enter func51,ntmps51;go_upto_region 1 with fail;have HW:Hid (Below w.heap.size w (w.alloc (.cells #[.slice A.a0 m.rq.length A.c0,.slice A.a1 m.im.length A.c1,.slice A.a2 m.ep.length A.c2,.slice A.a3 m.st.length A.c3,.slice A.a4 m.ex.length A.c4] 85))):=(Below.refl _ _).alloc (Nat.le_refl _) _;refine zx (R:=fun W=>W.heap[w.heap.size]? =some (.cells #[.slice A.a0 m.rq.length A.c0,.slice A.a1 m.im.length A.c1,.slice A.a2 m.ep.length A.c2,.slice A.a3 m.st.length A.c3,.slice A.a4 m.ex.length A.c4] 85 (0,0))/\ModIn W A m/\Below w.heap.size w W) ⟨heap_alloc_new w _,HR.o.later HW.o,HW.o⟩ ?_;obtain⟨gx,X⟩: ∃gx,gx=w.heap.size:=⟨_,rfl⟩;rw[<-X];rintro w0 ⟨hx,hm,q⟩;rw[X] at q;clear X HW HR;have X0:=zc hx;have M0:=zc hm;have Y:=zc q;clear hx hm q;obtain⟨M,H,I,K,L,J⟩:=zj X0.o;go_wp2_with fail;refine (zky A.a0 A.c0 m.rq left w0 M0.o.1 z.o.1.1 z.o.1.2 (by omega) (by omega)).mono ?_;rintro e w1 ⟨⟨z0,rfl,y0,u0,v0⟩,q⟩;have O:=zc (Y.o.trans (q.mono Y.o.size));have M1:=zc (M0.o.later q);have X1:=zc ((q.block _ (aLt X0.o)).trans X0.o);have V0:=zc v0;clear q v0 M H I K L J;obtain⟨M,H,I,K,L,J⟩:=zj X1.o;by_cases t0:0<=z0
 case neg=>
  go_wp2;go_ret;exact⟨⟨-1,rfl,by omega,by omega,fun h=>by omega⟩,O.o⟩
 go_wp2_with fail;refine (zpM A.a1 A.c1 m.im z0 w1 M1.o.2.1 z.o.2.1.1 z.o.2.1.2 (by omega) (by omega)).mono ?_;rintro e w2 ⟨⟨z1,rfl,y1,u1,v1⟩,q⟩;have U:=zc (O.o.trans (q.mono O.o.size));have M2:=zc (M1.o.later q);have X2:=zc ((q.block _ (aLt X1.o)).trans X1.o);have V1:=zc v1;clear q v1 M H I K L J;obtain⟨M,H,I,K,L,J⟩:=zj X2.o;by_cases t1:0<=z1
 case neg=>
  go_wp2;go_ret;exact⟨⟨-1,rfl,by omega,by omega,fun h=>by omega⟩,U.o⟩
 go_wp2_with fail;refine (zpO A.a2 A.c2 m.ep z1 w2 M2.o.2.2.1 z.o.2.2.1.1 z.o.2.2.1.2 (by omega) (by omega)).mono ?_;rintro e w3 ⟨⟨z2,rfl,y2,u2,v2⟩,q⟩;have N:=zc (U.o.trans (q.mono U.o.size));have M3:=zc (M2.o.later q);have X3:=zc ((q.block _ (aLt X2.o)).trans X2.o);have V2:=zc v2;clear q v2 M H I K L J;obtain⟨M,H,I,K,L,J⟩:=zj X3.o;by_cases t2:0<=z2
 case neg=>
  go_wp2;go_ret;exact⟨⟨-1,rfl,by omega,by omega,fun h=>by omega⟩,N.o⟩
 go_wp2_with fail;refine (zpQ A.a3 A.c3 m.st z2 w3 M3.o.2.2.2.1 z.o.2.2.2.1.1 z.o.2.2.2.1.2 (by omega) (by omega)).mono ?_;rintro e w4 ⟨⟨z3,rfl,y3,u3,v3⟩,q⟩;have V:=zc (N.o.trans (q.mono N.o.size));have M4:=zc (M3.o.later q);have X4:=zc ((q.block _ (aLt X3.o)).trans X3.o);have V3:=zc v3;clear q v3 M H I K L J;obtain⟨M,H,I,K,L,J⟩:=zj X4.o;by_cases t3:0<=z3
 case neg=>
  go_wp2;go_ret;exact⟨⟨-1,rfl,by omega,by omega,fun h=>by omega⟩,V.o⟩
 go_wp2_with fail;refine (zpS A.a4 A.c4 m.ex z3 w4 M4.o.2.2.2.2 z.o.2.2.2.2.1 z.o.2.2.2.2.2 (by omega) (by omega)).mono ?_;rintro e w5 ⟨⟨z4,rfl,y4,u4,v4⟩,q⟩;have Z:=zc (V.o.trans (q.mono V.o.size));have M5:=zc (M4.o.later q);have X5:=zc ((q.block _ (aLt X4.o)).trans X4.o);have V4:=zc v4;clear q v4 M H I K L J;obtain⟨M,H,I,K,L,J⟩:=zj X5.o;by_cases t4:0<=z4
 case neg=>
  go_wp2;go_ret;exact⟨⟨-1,rfl,by omega,by omega,fun h=>by omega⟩,Z.o⟩
 go_wp2;go_ret;exact⟨⟨z4,rfl,by omega,by omega,fun _=>by have q0:=V0.o t0;have q1:=V1.o t1;have q2:=V2.o t2;have q3:=V3.o t3;have q4:=V4.o t4;unfold zbv;omega⟩,Z.o⟩
theorem Tryz.infoTStr:(prog.info? 9).map (fun i=>(i.zero,i.size,i.bytes))=some (some (.string {data:=#[]}),1,16):=by kernel_rfl
theorem zkz (a:Option Addr) (X:Nat) (l:List BA) (w:World) (hr:RowAt w a (fun x=>[Value.string x]) 1 l) (hl:l.length<=1048576):
  Calls prog 31 #[.slice a l.length X] w fun e w'=>zeP w 9 1 l.length (l.flatMap (fun x=>[Value.string x])) e w':=by
 have HR:=zc hr;clear hr;obtain⟨i0,hi,U,Y,Z⟩:=info_parts Tryz.infoTStr;go_enter func31,ntmps31;go_wp2_with (first|(at_make;refine wpList_make_full w rfl _ _ 22 rfl w.heap.size 9 i0 _ 1 underlying22 hi U Y .i64 .i64 _ _ l.length (by rfl) (by rfl) rfl rfl (by rw[Z];omega) (by unfold maxLen;omega) (Nat.le_refl _) ?_));intro N q z;have ab:=zc ((Below.refl _ _).grown z (Nat.le_refl _) (fun k h=>by cases h):Below w.heap.size w N);have A:Hid (OwnC N w.heap.size 9 1 w.heap.size l.length (l.flatMap (fun x=>[Value.string x])) 0):=⟨_,q,fun j hj=>absurd hj (Nat.not_lt_zero j)⟩;clear q z;obtain⟨g,I⟩: ∃g,g=w.heap.size:=⟨_,rfl⟩;have aa:=zc I;rw[<-I];rw[<-I] at A;have ac:Hid (OwnC N w.heap.size 9 1 g l.length (l.flatMap (fun x=>[Value.string x])) 0):=by rw[<-I];exact A.o
 clear I A;go_wp2;go_loopg [4] l.length (fun k i wr=>∃j:Nat,i= .int .i64 j/\j+k=l.length/\OwnC wr w.heap.size 9 1 g l.length (l.flatMap (fun x=>[Value.string x])) (j*1)/\Below w.heap.size w wr)
 case atStart=>exact⟨0,rfl,by omega,ac.o,ab.o⟩
 case round=>
  obtain⟨j,rfl,hj,ho,hb⟩:=hrel;have L:=zc ho;have V:=zc hb;clear ho hb;by_cases O:j<l.length
  ·have J:(j:Int)<(l.length:Int):=by omega
   obtain⟨x,hx⟩: ∃x,l[j]? =some x:=⟨_,List.getElem?_eq_getElem O⟩;obtain⟨b,ad,rfl,hc⟩:=(HR.o.later V.o).get hx;have HX:=zc hx;clear hx;have c0:=hc 0 _ rfl;simp only[Nat.add_zero,Nat.mul_one] at c0;clear hc;obtain⟨K,H⟩: ∃K,K=j+1:=⟨_,rfl⟩;have ej:(j:Int)+1=(K:Int):=by omega
   have HJ:=zc H;clear H;obtain⟨v0,g0⟩:=L.o.has (j*1) (by omega);have f0:=L.o.free (j*1);have HN:=zc (L.o.put (by omega) (zbm (f:=(fun x=>[Value.string x])) (m:=1) (fun _=>rfl) l j x 0 _ HX.o rfl));simp only[Nat.mul_one] at g0 f0;have M:w.heap.size<=g:=by have:=aa.o;omega
   go_wp2;go_roundg (gk-1)
   case rel=>exact⟨K,rfl,by have:=HJ.o;omega,by have:=HN.o;simp only[Nat.mul_one] at this;rw[HJ.o,Nat.mul_one];exact this,(V.o.setCell M _)⟩
   case measure=>omega
  ·have J: ¬(j:Int)<(l.length:Int):=by omega
   obtain rfl:j=l.length:=by omega
   go_wp2;go_ret;exact⟨g,rfl,L.o.all (zdQ (f:=(fun x=>[Value.string x])) (fun _=>rfl) l),V.o⟩
theorem Tryz.infoTIm:(prog.info? 95).map (fun i=>(i.zero,i.size,i.bytes))=some (some (.agg #[.string {data:=#[]},.string {data:=#[]},.string {data:=#[]}]),3,48):=by kernel_rfl
theorem zpU (x:Im) (w:World):
  Calls prog 126 #[.agg #[.string x.spec,.string x.first,.string x.loc]] w fun e w'=>e= .returned (.agg #[.string x.spec,.string x.first,.string x.loc])/\Below w.heap.size w w':=by
 go_enter func126,ntmps126;go_wp2;refine bodyPost_ret (results_cell_row rfl _ _ (w.heap.size+1) 95 #[.string x.spec,.string x.first,.string x.loc] (0,0) _ rfl ?_ underlying95 rfl (by kernel_rfl)) rfl ?_
 ·rw[heap_alloc_old _ _ (by show _<((w.heap.push _).push _).size;simp)];exact heap_alloc2_new w _ _
 ·exact⟨rfl,(((Below.refl _ _).alloc (Nat.le_refl _) _).alloc (by show _<=(w.heap.push _).size;simp) _).alloc (by show _<=((w.heap.push _).push _).size;simp;omega) _⟩
theorem zpV (a:Option Addr) (Z:Nat) (l:List Im) (w:World) (hr:RowAt w a imL 3 l) (hl:l.length<=1048576):
  Calls prog 89 #[.slice a l.length Z] w fun e w'=>zeP w 95 3 l.length (l.flatMap imL) e w':=by
 have HR:=zc hr;clear hr;obtain⟨i0,hi,Y,aa,ab⟩:=info_parts Tryz.infoTIm;go_enter func89,ntmps89;go_wp2_with (first|(at_make;refine wpList_make_full w rfl _ _ 49 rfl w.heap.size 95 i0 _ 3 underlying49 hi Y aa .i64 .i64 _ _ l.length (by rfl) (by rfl) rfl rfl (by rw[ab];omega) (by unfold maxLen;omega) (Nat.le_refl _) ?_));intro V z A;have ad:=zc ((Below.refl _ _).grown A (Nat.le_refl _) (fun k h=>by cases h):Below w.heap.size w V);have I:Hid (OwnC V w.heap.size 95 3 w.heap.size l.length (l.flatMap imL) 0):=⟨_,z,fun j hj=>absurd hj (Nat.not_lt_zero j)⟩;clear z A;obtain⟨g,L⟩: ∃g,g=w.heap.size:=⟨_,rfl⟩;have ac:=zc L;rw[<-L];rw[<-L] at I;have ae:Hid (OwnC V w.heap.size 95 3 g l.length (l.flatMap imL) 0):=by rw[<-L];exact I.o
 clear L I;go_wp2;go_loopg [4] l.length (fun k i wr=>∃j:Nat,i= .int .i64 j/\j+k=l.length/\OwnC wr w.heap.size 95 3 g l.length (l.flatMap imL) (j*3)/\Below w.heap.size w wr)
 case atStart=>exact⟨0,rfl,by omega,ae.o,ad.o⟩
 case round=>
  obtain⟨j,rfl,hj,ho,hb⟩:=hrel;have HO:=zc ho;have O:=zc hb;clear ho hb;by_cases X:j<l.length
  ·have M:(j:Int)<(l.length:Int):=by omega
   obtain⟨x,hx⟩: ∃x,l[j]? =some x:=⟨_,List.getElem?_eq_getElem X⟩;obtain⟨b,ag,rfl,U⟩:=(HR.o.later O.o).get hx;have HX:=zc hx;clear hx;have c0:=U 0 _ rfl;have c1:=U 1 _ rfl;have c2:=U 2 _ rfl;simp only[Nat.add_zero] at c0;clear U;obtain⟨N,K⟩: ∃N,N=j+1:=⟨_,rfl⟩;have ej:(j:Int)+1=(N:Int):=by omega
   have HJ:=zc K;clear K;go_wp2_with fail;refine (zpU x _).mono ?_;rintro e w2 ⟨rfl,J⟩;have q:=zc (HO.o.later J);have af:=zc (O.o.trans (J.mono O.o.size));clear J c0 c1 c2;obtain⟨v0,g0⟩:=q.o.has (j*3) (by omega);have f0:=q.o.free (j*3);obtain⟨v1,g1⟩:=q.o.has (j*3+1) (by omega);have f1:=q.o.free (j*3+1);obtain⟨v2,g2⟩:=q.o.has (j*3+2) (by omega);have f2:=q.o.free (j*3+2);have HN:=zc (((q.o.put (by omega) (zbm (f:=imL) (m:=3) (fun _=>rfl) l j x 0 _ HX.o rfl)).put (by omega) (zbm (f:=imL) (m:=3) (fun _=>rfl) l j x 1 _ HX.o rfl)).put (by omega) (zbm (f:=imL) (m:=3) (fun _=>rfl) l j x 2 _ HX.o rfl));have H:w.heap.size<=g:=by have:=ac.o;omega
   go_wp2;go_roundg (gk-1)
   case rel=>exact⟨N,rfl,by have:=HJ.o;omega,by rw[HJ.o,Nat.succ_mul];exact HN.o,(((af.o.setCell H _).setCell H _).setCell H _)⟩
   case measure=>omega
  ·have M: ¬(j:Int)<(l.length:Int):=by omega
   obtain rfl:j=l.length:=by omega
   go_wp2;go_ret;exact⟨g,rfl,HO.o.all (zdQ (f:=imL) (fun _=>rfl) l),O.o⟩
theorem Tryz.infoTEp:(prog.info? 97).map (fun i=>(i.zero,i.size,i.bytes))=some (some (.agg #[.int .i64 0,.string {data:=#[]},.string {data:=#[]},.string {data:=#[]}]),4,56):=by kernel_rfl
theorem zpW (x:Ep) (w:World):
  Calls prog 127 #[.agg #[.int .i64 x.kind,.string x.name,.string x.loc,.string x.spec]] w fun e w'=>e= .returned (.agg #[.int .i64 x.kind,.string x.name,.string x.loc,.string x.spec])/\Below w.heap.size w w':=by
 go_enter func127,ntmps127;go_wp2;refine bodyPost_ret (results_cell_row rfl _ _ (w.heap.size+1) 97 #[.int .i64 x.kind,.string x.name,.string x.loc,.string x.spec] (0,0) _ rfl ?_ underlying97 rfl (by kernel_rfl)) rfl ?_
 ·rw[heap_alloc_old _ _ (by show _<((w.heap.push _).push _).size;simp)];exact heap_alloc2_new w _ _
 ·exact⟨rfl,(((Below.refl _ _).alloc (Nat.le_refl _) _).alloc (by show _<=(w.heap.push _).size;simp) _).alloc (by show _<=((w.heap.push _).push _).size;simp;omega) _⟩
theorem zpX (a:Option Addr) (aa:Nat) (l:List Ep) (w:World) (hr:RowAt w a epL 4 l) (hl:l.length<=1048576):
  Calls prog 90 #[.slice a l.length aa] w fun e w'=>zeP w 97 4 l.length (l.flatMap epL) e w':=by
 have HR:=zc hr;clear hr;obtain⟨i0,hi,Z,ab,ac⟩:=info_parts Tryz.infoTEp;go_enter func90,ntmps90;go_wp2_with (first|(at_make;refine wpList_make_full w rfl _ _ 50 rfl w.heap.size 97 i0 _ 4 underlying50 hi Z ab .i64 .i64 _ _ l.length (by rfl) (by rfl) rfl rfl (by rw[ac];omega) (by unfold maxLen;omega) (Nat.le_refl _) ?_));intro X z H;have ae:=zc ((Below.refl _ _).grown H (Nat.le_refl _) (fun k h=>by cases h):Below w.heap.size w X);have I:Hid (OwnC X w.heap.size 97 4 w.heap.size l.length (l.flatMap epL) 0):=⟨_,z,fun j hj=>absurd hj (Nat.not_lt_zero j)⟩;clear z H;obtain⟨g,L⟩: ∃g,g=w.heap.size:=⟨_,rfl⟩;have ad:=zc L;rw[<-L];rw[<-L] at I;have af:Hid (OwnC X w.heap.size 97 4 g l.length (l.flatMap epL) 0):=by rw[<-L];exact I.o
 clear L I;go_wp2;go_loopg [4] l.length (fun k i wr=>∃j:Nat,i= .int .i64 j/\j+k=l.length/\OwnC wr w.heap.size 97 4 g l.length (l.flatMap epL) (j*4)/\Below w.heap.size w wr)
 case atStart=>exact⟨0,rfl,by omega,af.o,ae.o⟩
 case round=>
  obtain⟨j,rfl,hj,ho,hb⟩:=hrel;have HO:=zc ho;have U:=zc hb;clear ho hb;by_cases Y:j<l.length
  ·have M:(j:Int)<(l.length:Int):=by omega
   obtain⟨x,hx⟩: ∃x,l[j]? =some x:=⟨_,List.getElem?_eq_getElem Y⟩;obtain⟨b,ah,rfl,N⟩:=(HR.o.later U.o).get hx;have V:=zc hx;clear hx;have c0:=N 0 _ rfl;have c1:=N 1 _ rfl;have c2:=N 2 _ rfl;have c3:=N 3 _ rfl;simp only[Nat.add_zero] at c0;clear N;obtain⟨O,K⟩: ∃O,O=j+1:=⟨_,rfl⟩;have ej:(j:Int)+1=(O:Int):=by omega
   have HJ:=zc K;clear K;go_wp2_with fail;refine (zpW x _).mono ?_;rintro e w2 ⟨rfl,J⟩;have q:=zc (HO.o.later J);have ag:=zc (U.o.trans (J.mono U.o.size));clear J c0 c1 c2 c3;obtain⟨v0,g0⟩:=q.o.has (j*4) (by omega);have f0:=q.o.free (j*4);obtain⟨v1,g1⟩:=q.o.has (j*4+1) (by omega);have f1:=q.o.free (j*4+1);obtain⟨v2,g2⟩:=q.o.has (j*4+2) (by omega);have f2:=q.o.free (j*4+2);obtain⟨v3,g3⟩:=q.o.has (j*4+3) (by omega);have f3:=q.o.free (j*4+3);have HN:=zc ((((q.o.put (by omega) (zbm (f:=epL) (m:=4) (fun _=>rfl) l j x 0 _ V.o rfl)).put (by omega) (zbm (f:=epL) (m:=4) (fun _=>rfl) l j x 1 _ V.o rfl)).put (by omega) (zbm (f:=epL) (m:=4) (fun _=>rfl) l j x 2 _ V.o rfl)).put (by omega) (zbm (f:=epL) (m:=4) (fun _=>rfl) l j x 3 _ V.o rfl));have A:w.heap.size<=g:=by have:=ad.o;omega
   go_wp2;go_roundg (gk-1)
   case rel=>exact⟨O,rfl,by have:=HJ.o;omega,by rw[HJ.o,Nat.succ_mul];exact HN.o,((((ag.o.setCell A _).setCell A _).setCell A _).setCell A _)⟩
   case measure=>omega
  ·have M: ¬(j:Int)<(l.length:Int):=by omega
   obtain rfl:j=l.length:=by omega
   go_wp2;go_ret;exact⟨g,rfl,HO.o.all (zdQ (f:=epL) (fun _=>rfl) l),U.o⟩
theorem Tryz.infoTSm:(prog.info? 102).map (fun i=>(i.zero,i.size,i.bytes))=some (some (.agg #[.int .i64 0,.string {data:=#[]},.int .i64 0]),3,32):=by kernel_rfl
theorem zpY (x:Sm) (w:World):
  Calls prog 128 #[.agg #[.int .i64 x.kind,.string x.name,.int .i64 x.expr]] w fun e w'=>e= .returned (.agg #[.int .i64 x.kind,.string x.name,.int .i64 x.expr])/\Below w.heap.size w w':=by
 go_enter func128,ntmps128;go_wp2;refine bodyPost_ret (results_cell_row rfl _ _ (w.heap.size+1) 102 #[.int .i64 x.kind,.string x.name,.int .i64 x.expr] (0,0) _ rfl ?_ underlying102 rfl (by kernel_rfl)) rfl ?_
 ·rw[heap_alloc_old _ _ (by show _<((w.heap.push _).push _).size;simp)];exact heap_alloc2_new w _ _
 ·exact⟨rfl,(((Below.refl _ _).alloc (Nat.le_refl _) _).alloc (by show _<=(w.heap.push _).size;simp) _).alloc (by show _<=((w.heap.push _).push _).size;simp;omega) _⟩
theorem zpZ (a:Option Addr) (Z:Nat) (l:List Sm) (w:World) (hr:RowAt w a smL 3 l) (hl:l.length<=1048576):
  Calls prog 91 #[.slice a l.length Z] w fun e w'=>zeP w 102 3 l.length (l.flatMap smL) e w':=by
 have HR:=zc hr;clear hr;obtain⟨i0,hi,Y,aa,ab⟩:=info_parts Tryz.infoTSm;go_enter func91,ntmps91;go_wp2_with (first|(at_make;refine wpList_make_full w rfl _ _ 51 rfl w.heap.size 102 i0 _ 3 underlying51 hi Y aa .i64 .i64 _ _ l.length (by rfl) (by rfl) rfl rfl (by rw[ab];omega) (by unfold maxLen;omega) (Nat.le_refl _) ?_));intro V z A;have ad:=zc ((Below.refl _ _).grown A (Nat.le_refl _) (fun k h=>by cases h):Below w.heap.size w V);have I:Hid (OwnC V w.heap.size 102 3 w.heap.size l.length (l.flatMap smL) 0):=⟨_,z,fun j hj=>absurd hj (Nat.not_lt_zero j)⟩;clear z A;obtain⟨g,L⟩: ∃g,g=w.heap.size:=⟨_,rfl⟩;have ac:=zc L;rw[<-L];rw[<-L] at I;have ae:Hid (OwnC V w.heap.size 102 3 g l.length (l.flatMap smL) 0):=by rw[<-L];exact I.o
 clear L I;go_wp2;go_loopg [4] l.length (fun k i wr=>∃j:Nat,i= .int .i64 j/\j+k=l.length/\OwnC wr w.heap.size 102 3 g l.length (l.flatMap smL) (j*3)/\Below w.heap.size w wr)
 case atStart=>exact⟨0,rfl,by omega,ae.o,ad.o⟩
 case round=>
  obtain⟨j,rfl,hj,ho,hb⟩:=hrel;have HO:=zc ho;have O:=zc hb;clear ho hb;by_cases X:j<l.length
  ·have M:(j:Int)<(l.length:Int):=by omega
   obtain⟨x,hx⟩: ∃x,l[j]? =some x:=⟨_,List.getElem?_eq_getElem X⟩;obtain⟨b,ag,rfl,U⟩:=(HR.o.later O.o).get hx;have HX:=zc hx;clear hx;have c0:=U 0 _ rfl;have c1:=U 1 _ rfl;have c2:=U 2 _ rfl;simp only[Nat.add_zero] at c0;clear U;obtain⟨N,K⟩: ∃N,N=j+1:=⟨_,rfl⟩;have ej:(j:Int)+1=(N:Int):=by omega
   have HJ:=zc K;clear K;go_wp2_with fail;refine (zpY x _).mono ?_;rintro e w2 ⟨rfl,J⟩;have q:=zc (HO.o.later J);have af:=zc (O.o.trans (J.mono O.o.size));clear J c0 c1 c2;obtain⟨v0,g0⟩:=q.o.has (j*3) (by omega);have f0:=q.o.free (j*3);obtain⟨v1,g1⟩:=q.o.has (j*3+1) (by omega);have f1:=q.o.free (j*3+1);obtain⟨v2,g2⟩:=q.o.has (j*3+2) (by omega);have f2:=q.o.free (j*3+2);have HN:=zc (((q.o.put (by omega) (zbm (f:=smL) (m:=3) (fun _=>rfl) l j x 0 _ HX.o rfl)).put (by omega) (zbm (f:=smL) (m:=3) (fun _=>rfl) l j x 1 _ HX.o rfl)).put (by omega) (zbm (f:=smL) (m:=3) (fun _=>rfl) l j x 2 _ HX.o rfl));have H:w.heap.size<=g:=by have:=ac.o;omega
   go_wp2;go_roundg (gk-1)
   case rel=>exact⟨N,rfl,by have:=HJ.o;omega,by rw[HJ.o,Nat.succ_mul];exact HN.o,(((af.o.setCell H _).setCell H _).setCell H _)⟩
   case measure=>omega
  ·have M: ¬(j:Int)<(l.length:Int):=by omega
   obtain rfl:j=l.length:=by omega
   go_wp2;go_ret;exact⟨g,rfl,HO.o.all (zdQ (f:=smL) (fun _=>rfl) l),O.o⟩
theorem Tryz.infoTEx:(prog.info? 100).map (fun i=>(i.zero,i.size,i.bytes))=some (some (.agg #[.int .i64 0,.int .i64 0,.string {data:=#[]},.string {data:=#[]},.int .i64 0,.int .i64 0]),6,64):=by kernel_rfl
theorem zqa (x:Ex) (w:World):
  Calls prog 129 #[.agg #[.int .i64 x.kind,.int .i64 x.num,.string x.name,.string x.field,.int .i64 x.l,.int .i64 x.r]] w fun e w'=>e= .returned (.agg #[.int .i64 x.kind,.int .i64 x.num,.string x.name,.string x.field,.int .i64 x.l,.int .i64 x.r])/\Below w.heap.size w w':=by
 go_enter func129,ntmps129;go_wp2;refine bodyPost_ret (results_cell_row rfl _ _ (w.heap.size+1) 100 #[.int .i64 x.kind,.int .i64 x.num,.string x.name,.string x.field,.int .i64 x.l,.int .i64 x.r] (0,0) _ rfl ?_ underlying100 rfl (by kernel_rfl)) rfl ?_
 ·rw[heap_alloc_old _ _ (by show _<((w.heap.push _).push _).size;simp)];exact heap_alloc2_new w _ _
 ·exact⟨rfl,(((Below.refl _ _).alloc (Nat.le_refl _) _).alloc (by show _<=(w.heap.push _).size;simp) _).alloc (by show _<=((w.heap.push _).push _).size;simp;omega) _⟩
theorem zqb (a:Option Addr) (aa:Nat) (l:List Ex) (w:World) (hr:RowAt w a exL 6 l) (hl:l.length<=1048576):
  Calls prog 92 #[.slice a l.length aa] w fun e w'=>zeP w 100 6 l.length (l.flatMap exL) e w':=by
 have HR:=zc hr;clear hr;obtain⟨i0,hi,Z,ab,ac⟩:=info_parts Tryz.infoTEx;go_enter func92,ntmps92;go_wp2_with (first|(at_make;refine wpList_make_full w rfl _ _ 52 rfl w.heap.size 100 i0 _ 6 underlying52 hi Z ab .i64 .i64 _ _ l.length (by rfl) (by rfl) rfl rfl (by rw[ac];omega) (by unfold maxLen;omega) (Nat.le_refl _) ?_));intro X A H;have ae:=zc ((Below.refl _ _).grown H (Nat.le_refl _) (fun k h=>by cases h):Below w.heap.size w X);have I:Hid (OwnC X w.heap.size 100 6 w.heap.size l.length (l.flatMap exL) 0):=⟨_,A,fun j hj=>absurd hj (Nat.not_lt_zero j)⟩;clear A H;obtain⟨g,N⟩: ∃g,g=w.heap.size:=⟨_,rfl⟩;have ad:=zc N;rw[<-N];rw[<-N] at I;have af:Hid (OwnC X w.heap.size 100 6 g l.length (l.flatMap exL) 0):=by rw[<-N];exact I.o
 clear N I;go_wp2;go_loopg [4] l.length (fun k i wr=>∃j:Nat,i= .int .i64 j/\j+k=l.length/\OwnC wr w.heap.size 100 6 g l.length (l.flatMap exL) (j*6)/\Below w.heap.size w wr)
 case atStart=>exact⟨0,rfl,by omega,af.o,ae.o⟩
 case round=>
  obtain⟨j,rfl,hj,ho,hb⟩:=hrel;have HO:=zc ho;have V:=zc hb;clear ho hb;by_cases Y:j<l.length
  ·have O:(j:Int)<(l.length:Int):=by omega
   obtain⟨x,hx⟩: ∃x,l[j]? =some x:=⟨_,List.getElem?_eq_getElem Y⟩;obtain⟨b,ah,rfl,K⟩:=(HR.o.later V.o).get hx;have L:=zc hx;clear hx;have c0:=K 0 _ rfl;have c1:=K 1 _ rfl;have c2:=K 2 _ rfl;have c3:=K 3 _ rfl;have c4:=K 4 _ rfl;have c5:=K 5 _ rfl;simp only[Nat.add_zero] at c0;clear K;obtain⟨U,M⟩: ∃U,U=j+1:=⟨_,rfl⟩;have ej:(j:Int)+1=(U:Int):=by omega
   have HJ:=zc M;clear M;go_wp2_with fail;refine (zqa x _).mono ?_;rintro e w2 ⟨rfl,J⟩;have q:=zc (HO.o.later J);have ag:=zc (V.o.trans (J.mono V.o.size));clear J c0 c1 c2 c3 c4 c5;obtain⟨v0,g0⟩:=q.o.has (j*6) (by omega);have f0:=q.o.free (j*6);obtain⟨v1,g1⟩:=q.o.has (j*6+1) (by omega);have f1:=q.o.free (j*6+1);obtain⟨v2,g2⟩:=q.o.has (j*6+2) (by omega);have f2:=q.o.free (j*6+2);obtain⟨v3,g3⟩:=q.o.has (j*6+3) (by omega);have f3:=q.o.free (j*6+3);obtain⟨v4,g4⟩:=q.o.has (j*6+4) (by omega);have f4:=q.o.free (j*6+4);obtain⟨v5,g5⟩:=q.o.has (j*6+5) (by omega);have f5:=q.o.free (j*6+5);have HN:=zc ((((((q.o.put (by omega) (zbm (f:=exL) (m:=6) (fun _=>rfl) l j x 0 _ L.o rfl)).put (by omega) (zbm (f:=exL) (m:=6) (fun _=>rfl) l j x 1 _ L.o rfl)).put (by omega) (zbm (f:=exL) (m:=6) (fun _=>rfl) l j x 2 _ L.o rfl)).put (by omega) (zbm (f:=exL) (m:=6) (fun _=>rfl) l j x 3 _ L.o rfl)).put (by omega) (zbm (f:=exL) (m:=6) (fun _=>rfl) l j x 4 _ L.o rfl)).put (by omega) (zbm (f:=exL) (m:=6) (fun _=>rfl) l j x 5 _ L.o rfl));have z:w.heap.size<=g:=by have:=ad.o;omega
   go_wp2;go_roundg (gk-1)
   case rel=>exact⟨U,rfl,by have:=HJ.o;omega,by rw[HJ.o,Nat.succ_mul];exact HN.o,((((((ag.o.setCell z _).setCell z _).setCell z _).setCell z _).setCell z _).setCell z _)⟩
   case measure=>omega
  ·have O: ¬(j:Int)<(l.length:Int):=by omega
   obtain rfl:j=l.length:=by omega
   go_wp2;go_ret;exact⟨g,rfl,HO.o.all (zdQ (f:=exL) (fun _=>rfl) l),V.o⟩
end Go.Proofs.YtgcbmogmniahjaaGreat
namespace Go.Proofs.YtgcbmogmniahjaaGreat
open Go.Proofs.Tryz
set_option maxHeartbeats 1600000
set_option maxRecDepth 100000
open Go.RowKit Go.PlainAid Go.Sort
abbrev RowS (w:World) (a:Option Addr) (l:List BA):Prop:=RowAt w a (fun x=>[Value.string x]) 1 l
theorem RowAt.take {α:Type} {f:α->List Value} {m:Nat} {w:World} {a:Option Addr} {l:List α} (h:RowAt w a f m l) (k:Nat):RowAt w a f m (l.take k):=by
 rcases h with rfl|⟨b,A,H,z,I⟩
 ·exact .inl (List.take_nil)
 ·refine .inr ⟨b,A,H,z,fun j x q=>?_⟩;rw[List.getElem?_take] at q
  split at q
  ·exact I j x q
  ·cases q
theorem zfU (a:Option Addr) (H n:Nat) (l:List BA) (s:BA) (w:World) (O:n=l.length) (M:RowS w a l) (hl:n<=1048576):
  Calls prog 27 #[.slice a n H,.string s] w fun e w'=>e= .returned (.bool (inL l s))/\w'=w:=by
 have X:=zc M;have N:=zc O;clear M O;go_enter func27,ntmps27;go_wp2;go_loop [5] (fun i=>∃k:Nat,k<=n/\i= .int .i64 k/\(∀j,j<k->((l.getD j sNone).toList==s.toList)=false)) (fun i=>(n-intOf i).toNat)
 case atStart=>exact⟨0,by omega,rfl,fun j J=>absurd J (Nat.not_lt_zero j)⟩
 case round=>
  obtain⟨k,hk,rfl,z⟩:=hrel;have A:=zc z;clear z;by_cases V:k<n
  ·have q:k<l.length:=by have:=N.o;omega
   obtain⟨x,I⟩: ∃x,l[k]? =some x:=⟨_,List.getElem?_eq_getElem q⟩;obtain⟨b,Y,rfl,U⟩:=X.o.get I;have h:l.getD k sNone=x:=by simp[List.getD,I]
   have Z:=U 0 _ rfl;simp only[Nat.add_zero,Nat.mul_one] at Z;clear U I;cases L:(x.toList==s.toList) with
   |true=>
    have K:Hid (inL l s=true):=zp9 (k:=k) q (by rw[h];exact L);clear h q;go_wp2;go_ret;exact⟨zi K.o.symm,rfl⟩
   |false=>
    have HX:Hid (∀j,j<k+1->((l.getD j sNone).toList==s.toList)=false):=fun j J=>by
     by_cases e:j=k
     ·rw[e,h];exact L
     ·exact A.o j (by omega)
    clear h q;go_wp2;go_round
    case rel=>exact⟨k+1,by omega,by go_num,HX.o⟩
    case measure=>simp[intOf];omega
  ·have K:Hid (inL l s=false):=zpA fun j J=>A.o j (by have:=N.o;omega);go_wp2;go_ret;exact⟨zi K.o.symm,rfl⟩
theorem zm0 (a:Option Addr) (h n:Nat) (l:List BA) (w:World) (Z:n=l.length) (X:RowS w a l) (hl:n<=1048576) (U:n<=h):
  Calls prog 58 #[.slice a n h] w fun e w'=>e= .returned (.bool (twB l))/\Below w.heap.size w w':=by
 have V:=zc X;have Y:=zc Z;clear X Z;go_enter func58,ntmps58;go_wp2;go_loopg [3] n (fun k i wr=>∃j:Nat,i= .int .i64 j/\j+k=n/\(∀i,i<j->inL (l.take i) (l.getD i sNone)=false)/\Below w.heap.size w wr)
 case atStart=>exact⟨0,rfl,by omega,fun j hj=>absurd hj (Nat.not_lt_zero j),Below.refl _ _⟩
 case round=>
  obtain⟨j,rfl,hj,z,O⟩:=hrel;have I:=zc z;have J:=zc O;clear z O;by_cases aa:j<n
  ·have L:(j:Int)<(n:Int):=by omega
   have H:j<l.length:=by have:=Y.o;omega
   have ac:(j:Int)<=(h:Int):=by omega
   obtain⟨x,M⟩: ∃x,l[j]? =some x:=⟨_,List.getElem?_eq_getElem H⟩;obtain⟨b,ab,rfl,hc⟩:=(V.o.later J.o).get M;have A:l.getD j sNone=x:=by simp[List.getD,M]
   have c0:=hc 0 _ rfl;simp only[Nat.add_zero,Nat.mul_one] at c0;clear hc M;have HT:=zc ((V.o.later J.o).take j);have HL:Hid (j=(l.take j).length):=by show j=_;rw[List.length_take];omega
   obtain⟨v,hv⟩: ∃v,inL (l.take j) x=v:=⟨_,rfl⟩;have q:=zc hv;have K:=zc A;clear hv A;go_wp2_with fail;go_region_with (first|(go_at_call 27;refine (zfU _ h j (l.take j) x _ HL.o (by exact HT.o) (by omega)).mono ?_;rintro e w' ⟨rfl,rfl⟩;rw[q.o]))
   all_goals
    cases v with
    |true=>
     have N:Hid (twB l=true):=zkp H (by rw[K.o];exact q.o);go_wp2;go_ret;exact⟨zi N.o.symm,J.o.drew⟩
    |false=>
     have HX:Hid (∀i,i<j+1->inL (l.take i) (l.getD i sNone)=false):=fun i hi=>by
      by_cases e:i=j
      ·rw[e,K.o];exact q.o
      ·exact I.o i (by omega)
     go_wp2;go_roundg (gk-1)
     case rel=>exact⟨j+1,by go_num,by omega,HX.o,J.o.drew⟩
     case measure=>omega
  ·have L: ¬(j:Int)<(n:Int):=by omega
   have N:Hid (twB l=false):=zpB fun i hi=>I.o i (by have:=Y.o;omega);go_wp2;go_ret;exact⟨zi N.o.symm,J.o⟩
theorem RowAt.of {α:Type} {f:α->List Value} {m:Nat} (z: ∀x,(f x).length=m) {w:World} {b0:Nat} {e:TypeId} {r:Rw} {l:List α} (h:OwnR w b0 e m r l.length (l.flatMap f)):RowAt w r.a f m l:=by
 cases H:l with
 |nil=>exact .inl rfl
 |cons y t=>
  rw[<-H];obtain⟨g,A,_⟩:=OwnR.elem z h (j:=0) (x:=y) (by rw[H];rfl);refine .inr ⟨g,0,A,(h.typed (by rw[Rw.blk,A];rfl)).2.1,fun j x J i v I=>?_⟩;obtain⟨M,q,K⟩:=OwnR.elem z h J;rw[A] at q;cases q;obtain⟨L,_⟩:=List.getElem?_eq_some_iff.1 I;rw[Nat.zero_add,K i (by rw[<-z x];exact L)];exact I
theorem RowS.of {w:World} {base:Nat} {r:Rw} {l:List BA} (h:OwnR w base 9 1 r l.length (l.map .string)):RowS w r.a l:=by
 refine RowAt.of (f:=fun x=>[Value.string x]) (fun _=>rfl) (b0:=base) (e:=9) ?_;have e:(l.flatMap fun x=>[Value.string x])=l.map .string:=by
  clear h
  induction l with
  |nil=>rfl
  |cons x l q=>rw[List.flatMap_cons,List.map_cons,q];rfl
 rw[e];exact h
def zi9 (l:List Im) (n:BA) (z:Int):Prop:=
 (z= -1/\∀(j:Nat) (y:Im),l[j]? =some y->(y.loc.toList==n.toList)=false)∨
 ∃(k:Nat) (x:Im),z=k/\l[k]? =some x/\(x.loc.toList==n.toList)=true/\∀(j:Nat) (y:Im),j<k->l[j]? =some y->(y.loc.toList==n.toList)=false
def zvf (l:List Im) (n:BA) (e:Ending):Prop:=∃z,e= .returned (.int .i64 z)/\zi9 l n z
theorem zvg (V:Sv) (m:Md) (n:BA) (w:World) (I:RowAt w V.im.a imL 3 m.im) (hl:m.im.length<=1048576):
  Calls prog 88 #[zl V m,.string n] w fun e w'=>zvf m.im n e/\Below w.heap.size w w':=by
 obtain⟨a,N⟩: ∃a,V.im.a=a:=⟨_,rfl⟩;unfold zl;rw[N] at I ⊢;have H:Hid (Below w.heap.size w (w.alloc (.cells #[.slice V.rq.a m.rq.length V.rq.cap,.slice a m.im.length V.im.cap,.slice V.ep.a m.ep.length V.ep.cap,.slice V.st.a m.st.length V.st.cap,.slice V.ex.a m.ex.length V.ex.cap] 54))):=(Below.refl _ _).alloc (Nat.le_refl _) _;have X:=zc (I.later H.o);clear I N;go_enter func88,ntmps88;go_wp2;go_loop [5] (fun i=>∃k:Nat,k<=m.im.length/\i= .int .i64 k/\(∀(j:Nat) (y:Im),j<k->m.im[j]? =some y->(y.loc.toList==n.toList)=false)) (fun i=>(m.im.length-intOf i).toNat)
 case atStart=>exact⟨0,by omega,rfl,fun j _ M=>absurd M (Nat.not_lt_zero j)⟩
 case round=>
  obtain⟨k,hk,rfl,z⟩:=hrel;have h:=zc z;clear z;by_cases A:k<m.im.length
  ·obtain⟨x,J⟩: ∃x,m.im[k]? =some x:=⟨_,List.getElem?_eq_getElem A⟩;obtain⟨b,Y,rfl,O⟩:=X.o.get J;have U:=zc J;have c0:=O 2 _ rfl;clear O J;cases L:(x.loc.toList==n.toList) with
   |true=>
    have K:Hid (zi9 m.im n k):=.inr ⟨k,x,rfl,U.o,L,h.o⟩;go_wp2;go_ret;exact⟨⟨_,rfl,K.o⟩,H.o⟩
   |false=>
    have Z:Hid (∀(j:Nat) (y:Im),j<k+1->m.im[j]? =some y->(y.loc.toList==n.toList)=false):=fun j y M q=>by
     by_cases e:j=k
     ·rw[e,U.o] at q;cases q;exact L
     ·exact h.o j y (by omega) q
    go_wp2;go_round
    case rel=>exact⟨k+1,by omega,by go_num,Z.o⟩
    case measure=>simp[intOf];omega
  ·have K:Hid (zi9 m.im n (-1)):=.inl ⟨rfl,fun j y q=>h.o j y (by have:=(List.getElem?_eq_some_iff.1 q).1;omega) q⟩;go_wp2;go_ret;exact⟨⟨_,rfl,K.o⟩,H.o⟩
theorem zdV (V:Sv) (m:Md) (n:BA) (w:World) (N:RowAt w V.im.a imL 3 m.im) (hl:m.im.length<=1048576):
  Calls prog 59 #[zl V m,.string n] w fun e w'=>e= .returned (.bool (spB m.im n))/\Below w.heap.size w w':=by
 have L:=zc N;clear N;have K:Hid (Below w.heap.size w (w.alloc (.cells #[.slice V.rq.a m.rq.length V.rq.cap,.slice V.im.a m.im.length V.im.cap,.slice V.ep.a m.ep.length V.ep.cap,.slice V.st.a m.st.length V.st.cap,.slice V.ex.a m.ex.length V.ex.cap] 54))):=(Below.refl _ _).alloc (Nat.le_refl _) _;unfold zl;go_enter func59,ntmps59;go_wp2_with fail;refine (zvg V m n _ (L.o.later K.o) hl).mono ?_;rintro e w1 ⟨⟨z,rfl,M⟩,H⟩;have q:=zc (K.o.trans (H.mono (by rw[zg];omega)));obtain⟨c0,Y,c2,c3,c4,cf⟩:=zj ((H.block w.heap.size (by rw[zg];omega)).trans (heap_alloc_new w _));have U:=zc M;clear M H;rcases U.o with ⟨rfl,h⟩|⟨k,x,rfl,A,J,h⟩
 ·have I:Hid (spB m.im n=false):=zpD h;clear h;go_wp2;go_ret;exact⟨zi I.o.symm,q.o⟩
 ·have I:Hid (spB m.im n=(x.first.toList==[42])):=zpC A J h;have hk:=(List.getElem?_eq_some_iff.1 A).1;obtain⟨b,Z,O,X⟩:=(L.o.later q.o).get A;have d0:=X 1 _ rfl;rw[O] at Y;clear X h J A O U;go_wp2;go_ret;exact⟨zi I.o.symm,q.o⟩
end Go.Proofs.YtgcbmogmniahjaaGreat
