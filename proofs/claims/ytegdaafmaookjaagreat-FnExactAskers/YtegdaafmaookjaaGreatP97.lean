/- Facts. -/
import Derived.Test.YtegdaafmaookjaaGreatP87
import Derived.Test.YtegdaafmaookjaaGreatP89
import Derived.RangeFuncBox
namespace Go.Proofs.YtegdaafmaookjaaGreat
open Go.RowKit Go.PlainAid Go.Sort Go.Proofs.Tryz
theorem zzh {W J:World} {base gf n g O A:Nat} {b:List Bool} {l:List Int} (h:OwnBl W base gf n b) (M:OwnE itE W base 3 g O A l) (V:W.grownBy J (some g)):OwnBl J base gf n b:=by
 obtain⟨K,U⟩:=h.block;refine OwnR.keep h fun k L=>?_;have e:k=gf:=by simpa [Rw.blk,Value.ownBlock] using L.symm
 rw[e];refine V.block gf h.at.2 fun X=>?_;have N:gf=g:=oI X;rcases M.1.2 with ⟨w,_⟩|⟨Y,I,H,w,_,q,_⟩
 ·simp at w
 ·simp only[vI,sI0,Addr.mk.injEq,and_true] at w;rw[<-w.1,<-N,U] at q;exact absurd (oI q) (by simp)
theorem zzi {W M:World} {base q g U H:Nat} {K:Array Value} {l:List Int} (h:Bk W q K 32) (N:OwnE itE W base 3 g U H l) (V:W.grownBy M (some g)):Bk M q K 32:=by
 have I:W.heap[q]? =_:=h;refine (V.block q (aLt I) fun X=>?_).trans I;have O:q=g:=oI X;rcases N.1.2 with ⟨A,_⟩|⟨Y,L,J,A,_,w,_⟩
 ·simp at A
 ·simp only[vI,sI0,Addr.mk.injEq,and_true] at A;rw[<-A.1,<-O,I] at w;exact absurd (oI w) (by simp)
theorem Tryz.infoItS:(prog.info? 3).map (fun i=>(i.zero,i.size,i.bytes))=some (some (.int .i64 0),1,8):=by kernel_rfl
set_option maxRecDepth 100000
set_option maxHeartbeats 1600000
theorem zoD (O:GrC 13) (base:Nat) (G:GS) (g:Gr) (A:Int) (w:World) (U:GrOwn w base G g) (K:GdG g):
  Calls prog 56 #[grD G g,.int .i64 A] w fun e w'=>SameOut (InG g A) e/\Bw w w':=by
 have CG:=zc O;have X:=zc K;have aa:=K.ml;obtain⟨J,h⟩: ∃J,J=w.alloc (.cells (grC G g) 32):=⟨_,rfl⟩;have H:Hid (Bw w J):=by rw[h];exact zc (zn w _)
 have X0:Hid (Bk J w.heap.size (grC G g) 32):=by rw[h];exact zc (hN0 w _)
 have O0:=zc (U.later H.o);clear U K O;obtain⟨c0,Y,Z,cf⟩:=zg X0.o;rw[h] at c0 Y Z;unfold grD;by_cases L:0<=A
 ·have V:=zc L;by_cases N:A<(g.ms.length:Int)
  ·have H1:=zc N;go_enter func56,ntmps56;go_wp2_with fail;rw[<-h];refine (CG.o base G g J O0.o X.o).mono ?_;rintro e w1 ⟨⟨b,rfl,M⟩,I⟩;have q:Hid (b=true↔InG g A):=zc (M.trans ⟨fun k=>⟨k,V.o,H1.o⟩,fun k=>k.1⟩);have HW:=zc (H.o.trans (I.mono H.o.size));clear M I
   cases b<;>(
    go_wp2;go_ret
    exact⟨⟨_,rfl,by simpa using q.o⟩,HW.o⟩)
  ·have q:Hid (false=true↔InG g A):=zc ⟨fun k=>(by cases k),fun k=>absurd k.2.2 N⟩;go_enter func56,ntmps56;go_wp2;go_ret;rw[<-h];exact⟨⟨false,rfl,q.o⟩,H.o⟩
 ·have q:Hid (false=true↔InG g A):=zc ⟨fun k=>(by cases k),fun k=>absurd k.2.1 L⟩;go_enter func56,ntmps56;go_wp2;go_ret;rw[<-h];exact⟨⟨false,rfl,q.o⟩,H.o⟩
theorem Tryz.infoItA:(prog.info? 3).map (fun i=>(i.zero,i.size,i.bytes))=some (some (.int .i64 0),1,8):=by kernel_rfl
