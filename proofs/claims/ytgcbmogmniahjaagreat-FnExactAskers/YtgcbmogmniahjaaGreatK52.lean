/- Facts and walks. -/
import Derived.Test.YtgcbmogmniahjaaGreatK27
import Derived.Test.YtgcbmogmniahjaaGreatK51
namespace Go.Proofs.YtgcbmogmniahjaaGreat
open Go.RowKit Go.PlainAid
end Go.Proofs.YtgcbmogmniahjaaGreat
namespace Go.Proofs.YtgcbmogmniahjaaGreat
open Go.RowKit Go.PlainAid Go.Sort
structure MdR (w:World) (V:Sv) (m:Md):Prop where
 im:RowAt w V.im.a imL 3 m.im
 ep:RowAt w V.ep.a epL 4 m.ep
 st:RowAt w V.st.a smL 3 m.st
 ex:RowAt w V.ex.a exL 6 m.ex
variable {w:World} {W:Obj} {g:Nat} {C:List BA}
theorem MdR.later {z:World} {V:Sv} {m:Md} (h:MdR w V m) (q:Bw w z):MdR z V m:=⟨h.im.later q,h.ep.later q,h.st.later q,h.ex.later q⟩
structure UW (w:World) (bx:Obj) (g n cap:Nat) (xs:List BA) (W:World):Prop where
 box:W.heap[w.heap.size]? =some bx
 bel:Bw w W
 own:zbo W (w.heap.size+1) 9 g n cap xs
 siz:w.heap.size+1<=W.heap.size
theorem UW.put {S D:World} {n z J E q:Nat} {I:List BA} (h:UW w W g n z C S) (A:Bw S D) (K:zbo D (w.heap.size+1) 9 J E q I):UW w W J E q I D:=
 ⟨(A.block _ (aLt h.box)).trans h.box,h.bel.trans (A.mono h.bel.size),K,Nat.le_trans h.siz A.size⟩
theorem UW.app {S D:World} {n z J E q:Nat} {I:List BA} (h:UW w W g n z C S) (K:zbo D (w.heap.size+1) 9 J E q I) (A:S.grownBy D (some g)):UW w W J E q I D:=by
 have M:=zmW h.own;have L:=(aLt h.box);exact⟨(A.block _ L fun e=>by have:=Option.some.inj e;omega).trans h.box,h.bel.grown A h.bel.size fun k e=>by have:=Option.some.inj e;omega,K,Nat.le_trans h.siz A.size⟩
theorem UW.aside {S D:World} {n q x:Nat} (h:UW w W g n q C S) (z:S.grownBy D (some x)) (I:w.heap.size+1<=x) (J:g<x):UW w W g n q C D:=by
 have E:=zmW h.own;have H:=(aLt h.box);exact⟨(z.block _ H fun e=>by have:=Option.some.inj e;omega).trans h.box,h.bel.grown z h.bel.size fun k e=>by have:=Option.some.inj e;omega,zwd h.own (z.block g E.2 fun e=>by have:=Option.some.inj e;omega),Nat.le_trans h.siz z.size⟩
theorem UW.start (w:World) (h:Obj):UW w h (w.heap.size+1) 0 0 [] ((w.alloc h).alloc (.cells #[] 9)):=by
 have e:(w.alloc h).heap.size=w.heap.size+1:=zg w h;refine⟨(heap_alloc_old _ _ (by rw[e];omega)).trans (heap_alloc_new w _),(bA0).alloc (by rw[e];omega) _,?_,by rw[zg,e];omega⟩;have:=World.ownsRow_lit (w.alloc h) (base:=w.heap.size+1) (e:=9) (size:=1) #[] 0 (by rw[e];exact Nat.le_refl _) (by unfold maxLen;omega) rfl;rw[e] at this;exact⟨this,rfl⟩
def zyf (w:World) (l:List BA) (e:Ending) (w':World):Prop:=∃g n cap,e= .returned (.slice (some ⟨g,0,none⟩) n cap)/\zbo w' w.heap.size 9 g n cap l/\Bw w w'
def zft (S:Sv) (m:Md):Obj:=.cells #[.slice S.rq.a m.rq.length S.rq.cap,.slice S.im.a m.im.length S.im.cap,.slice S.ep.a m.ep.length S.ep.cap,.slice S.st.a m.st.length S.st.cap,.slice S.ex.a m.ex.length S.ex.cap] 54
def zyg:Obj:=.cells #[.slice none 0 0,.slice none 0 0,.slice none 0 0,.slice none 0 0,.slice none 0 0] 54
theorem zfu {q:World} (h:w.heap[g]? =some W) (z:Bw w q):q.heap[g]? =some W:=(z.block g (aLt h)).trans h
end Go.Proofs.YtgcbmogmniahjaaGreat
