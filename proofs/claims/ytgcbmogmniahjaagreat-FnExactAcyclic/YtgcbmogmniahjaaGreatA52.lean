/- Facts and walks that the theorem stands on. -/
import Derived.Test.YtgcbmogmniahjaaGreatA27
import Derived.Test.YtgcbmogmniahjaaGreatA51
namespace Go.Proofs.YtgcbmogmniahjaaGreat
open Go.RowKit Go.PlainAid
end Go.Proofs.YtgcbmogmniahjaaGreat
namespace Go.Proofs.YtgcbmogmniahjaaGreat
open Go.RowKit Go.PlainAid Go.Sort
structure MdR (w:World) (V:Sv) (m:Md):Prop where
 im:RowAt w V.im.a imL 3 m.im
 ep:RowAt w V.ep.a epL 4 m.ep
 st:RowAt w V.st.a smL 3 m.st
 ex:RowAt w V.ex.a exL 6 m.ex
theorem MdR.later {w w':World} {V:Sv} {m:Md} (h:MdR w V m) (q:Below w.heap.size w w'):MdR w' V m:=⟨h.im.later q,h.ep.later q,h.st.later q,h.ex.later q⟩
structure UW (w:World) (bx:Obj) (g n cap:Nat) (xs:List BA) (W:World):Prop where
 box:W.heap[w.heap.size]? =some bx
 bel:Below w.heap.size w W
 own:zbl W (w.heap.size+1) 9 g n cap xs
 siz:w.heap.size+1<=W.heap.size
theorem UW.put {w W H:World} {J:Obj} {g n z L I q:Nat} {xs K:List BA} (h:UW w J g n z xs W) (A:Below W.heap.size W H) (M:zbl H (w.heap.size+1) 9 L I q K):UW w J L I q K H:=
 ⟨(A.block _ (aLt h.box)).trans h.box,h.bel.trans (A.mono h.bel.size),M,Nat.le_trans h.siz A.size⟩
theorem UW.app {w W H:World} {J:Obj} {g n z L I q:Nat} {xs K:List BA} (h:UW w J g n z xs W) (M:zbl H (w.heap.size+1) 9 L I q K) (A:W.grownBy H (some g)):UW w J L I q K H:=by
 have O:=zmH h.own;have N:=(aLt h.box);exact⟨(A.block _ N fun e=>by have:=Option.some.inj e;omega).trans h.box,h.bel.grown A h.bel.size fun k e=>by have:=Option.some.inj e;omega,M,Nat.le_trans h.siz A.size⟩
theorem UW.aside {w W H:World} {A:Obj} {g n q x:Nat} {xs:List BA} (h:UW w A g n q xs W) (z:W.grownBy H (some x)) (K:w.heap.size+1<=x) (L:g<x):UW w A g n q xs H:=by
 have I:=zmH h.own;have J:=(aLt h.box);exact⟨(z.block _ J fun e=>by have:=Option.some.inj e;omega).trans h.box,h.bel.grown z h.bel.size fun k e=>by have:=Option.some.inj e;omega,zvH h.own (z.block g I.2 fun e=>by have:=Option.some.inj e;omega),Nat.le_trans h.siz z.size⟩
theorem UW.start (w:World) (h:Obj):UW w h (w.heap.size+1) 0 0 [] ((w.alloc h).alloc (.cells #[] 9)):=by
 have e:(w.alloc h).heap.size=w.heap.size+1:=zg w h;refine⟨(heap_alloc_old _ _ (by rw[e];omega)).trans (heap_alloc_new w _),((Below.refl _ _).alloc (Nat.le_refl _) _).alloc (by rw[e];omega) _,?_,by rw[zg,e];omega⟩;have:=World.ownsRow_lit (w.alloc h) (base:=w.heap.size+1) (e:=9) (size:=1) #[] 0 (by rw[e];exact Nat.le_refl _) (by unfold maxLen;omega) rfl;rw[e] at this;exact⟨this,rfl⟩
def zxp (w:World) (l:List BA) (e:Ending) (w':World):Prop:=∃g n cap,e= .returned (.slice (some ⟨g,0,none⟩) n cap)/\zbl w' w.heap.size 9 g n cap l/\Below w.heap.size w w'
def zfj (S:Sv) (m:Md):Obj:=.cells #[.slice S.rq.a m.rq.length S.rq.cap,.slice S.im.a m.im.length S.im.cap,.slice S.ep.a m.ep.length S.ep.cap,.slice S.st.a m.st.length S.st.cap,.slice S.ex.a m.ex.length S.ex.cap] 54
def zxq:Obj:=.cells #[.slice none 0 0,.slice none 0 0,.slice none 0 0,.slice none 0 0,.slice none 0 0] 54
theorem zfk {w w':World} {k:Nat} {o:Obj} (h:w.heap[k]? =some o) (q:Below w.heap.size w w'):w'.heap[k]? =some o:=(q.block k (aLt h)).trans h
end Go.Proofs.YtgcbmogmniahjaaGreat
