/-
  The specification's draw of a program in memory. No program is spoken of but for the numbers of its types.
  What spec's l4Spec answers: the walk.
-/
import Derived.Test.YticdggnnpjachaaGreatCbImplParseJToOddMath
namespace Go.Proofs.YticdggnnpjachaaGreat
set_option maxRecDepth 100000
set_option maxHeartbeats 3200000
open Go.RowKit Go.PlainAid Go.Sort
structure Drawn (k:Nat) (m:Md):Prop where
 rq:m.rq.length≤300+k∧∀x∈m.rq,x.size≤20000
 im:m.im.length≤300+k∧∀x∈m.im,x.spec.size≤20000∧x.first.size≤20000∧x.loc.size≤20000
 ep:m.ep.length≤300+k∧∀x∈m.ep,zcM 20000 x
 st:m.st.length≤300+k∧∀x∈m.st,x.name.size≤20000
 ex:m.ex.length≤300+k∧∀x∈m.ex,zeM 20000 x
 fair:zdq m.st
theorem OwnR.asideD {w z:World} {b s n b2 D A:Nat} {e q:TypeId} {r j:Rw} {xs I:List Value} (h:OwnR w b e s r n xs) (H:OwnR w b2 q D j A I) (J:e≠q) (g:w.grownBy z j.blk):OwnR z b e s r n xs:=
 h.keep fun k o=>g.block k (h.typed o).2.1 fun E=>h.ne H J o E.symm
structure MM (S:Src) (g:Nat) (w0:World) (b6 b7:Nat) (V:Sv) (m:Md) (q:Nat×Int) (W:World):Prop where
 r6:W.heap[b6]? =some (.cells #[.slice none 0 0,.slice none 0 0,.slice none 0 0,.slice none 0 0,.slice none 0 0] 28 (0,0))
 r7:W.heap[b7]? =some (.cells #[.slice V.rq.a m.rq.length V.rq.cap,.slice V.im.a m.im.length V.im.cap,.slice V.ep.a m.ep.length V.ep.cap,.slice V.st.a m.st.length V.st.cap,.slice V.ex.a m.ex.length V.ex.cap] 28 (0,0))
 own:OwnMd W w0.heap.size V m
 cur:zR 147 S W g q
 gr:w0.grownBy W (some g)
 ge:w0.heap.size≤b6
 lt:b6<b7
 gl:g<w0.heap.size
theorem OwnMd.grown {w A:World} {o g:Nat} {V:Sv} {m:Md} (h:OwnMd w o V m) (H:g<o) (k:w.grownBy A (some g)):OwnMd A o V m:=by
 have q: ∀{e:TypeId} {z n:Nat} {r:Rw} {D:List Value},OwnR w o e z r n D→OwnR A o e z r n D:=fun h=>h.keep fun j E=>k.block j (h.typed E).2.1 (by have:=(h.typed E).1;simp;omega)
 exact⟨q h.rq,q h.im,q h.ep,q h.st,q h.ex⟩
theorem MM.step {S:Src} {g:Nat} {w0 W n:World} {o z:Nat} {V:Sv} {m:Md} {q q':Nat×Int} (h:MM S g w0 o z V m q W) (A:zR 147 S n g q') (j:W.grownBy n (some g)):MM S g w0 o z V m q' n:=
 ⟨(j.block _ (Array.getElem?_eq_some_iff.1 h.r6).1 (by have:=h.ge;have:=h.gl;simp;omega)).trans h.r6,(j.block _ (Array.getElem?_eq_some_iff.1 h.r7).1 (by have:=h.ge;have:=h.gl;have:=h.lt;simp;omega)).trans h.r7,h.own.grown h.gl j,A,zB h.gr j,h.ge,h.lt,h.gl⟩
theorem MM.alloc {S:Src} {g:Nat} {w0 W:World} {j n:Nat} {V:Sv} {m:Md} {q:Nat×Int} (h:MM S g w0 j n V m q W) (o:Obj):MM S g w0 j n V m q (W.alloc o):=h.step (ze9 h.cur o) (ze8 W o _)
theorem MM.drew {S:Src} {g:Nat} {w0 W:World} {j n:Nat} {V:Sv} {m:Md} {q:Nat×Int} (h:MM S g w0 j n V m q W):MM S g w0 j n V m q W.drew:=h.step (zbS h.cur fun _ _=>rfl) ⟨rfl,rfl,rfl,Nat.le_refl _,fun _ _ _=>rfl⟩
theorem MM.far_rq {S:Src} {g:Nat} {w0 W o:World} {A n:Nat} {V:Sv} {m:Md} {q:Nat×Int} (h:MM S g w0 A n V m q W) (D:W.grownBy o V.rq.blk):o.heap[n]? =some (.cells #[.slice V.rq.a m.rq.length V.rq.cap,.slice V.im.a m.im.length V.im.cap,.slice V.ep.a m.ep.length V.ep.cap,.slice V.st.a m.st.length V.st.cap,.slice V.ex.a m.ex.length V.ex.cap] 28 (0,0)):=
 (D.block n (Array.getElem?_eq_some_iff.1 h.r7).1 fun e=>by
  obtain⟨_,_,z,j⟩:=h.own.rq.typed e.symm
  rw[h.r7] at j
  simp only[Option.some.injEq,Obj.cells.injEq] at j
  exact absurd j.2.1 (by decide)).trans h.r7
theorem MM.app_rq {S:Src} {g:Nat} {w0 W H:World} {O K:Nat} {V:Sv} {m:Md} {q:Nat×Int} {J:Rw} {x:ByteArray} (h:MM S g w0 O K V m q W) (hr:OwnR H w0.heap.size 9 1 J (m.rq.length+1) (m.rq.map Value.string++[Value.string x])) (o:W.grownBy H V.rq.blk):
  MM S g w0 O K {V with rq:=J} {m with rq:=m.rq++[x]} q (H.setCell ⟨K,0,none⟩ (.slice J.a (m.rq.length+1) J.cap)):=by
 have hz:=h.gr.size
 have D: ∀(k:Nat) (U:Array Value) (t:TypeId),W.heap[k]? =some (.cells U t (0,0))→t≠9→H.heap[k]? =W.heap[k]?:=fun k U t z ht=>o.block k (Array.getElem?_eq_some_iff.1 z).1 fun e=>by
  obtain⟨_,_,L,I⟩:=h.own.rq.typed e.symm
  rw[z] at I
  simp only[Option.some.injEq,Obj.cells.injEq] at I
  exact ht I.2.1
 have Q:=(D _ _ _ h.r7 (by decide)).trans h.r7
 have j: ∀{e:TypeId} {E n:Nat} {r:Rw} (M:List Value),OwnR H w0.heap.size e E r n M→e≠28→OwnR (H.setCell ⟨K,0,none⟩ (.slice J.a (m.rq.length+1) J.cap)) w0.heap.size e E r n M:=fun M X he=>X.keep fun k z=>zi fun e=>by
  obtain⟨_,_,L,I⟩:=X.typed z
  rw[e,Q] at I
  simp only[Option.some.injEq,Obj.cells.injEq] at I
  exact he I.2.1.symm
 have Z:=h.ge
 have aa:=h.lt
 have Y:=h.gl
 have A: ∀k,k<w0.heap.size→H.heap[k]? =W.heap[k]?:=fun k z=>by
  refine o.block k (by omega) fun e=>?_
  have:=(h.own.rq.typed e.symm).1
  omega
 refine⟨(zi (by omega)).trans ((D _ _ _ h.r6 (by decide)).trans h.r6),(za9 Q).trans (by simp),⟨(j _ (by exact (by rw[List.map_append,List.length_append];exact hr)) (by decide)),(j _ (h.own.im.asideD h.own.rq (by decide) o) (by decide)),(j _ (h.own.ep.asideD h.own.rq (by decide) o) (by decide)),(j _ (h.own.st.asideD h.own.rq (by decide) o) (by decide)),(j _ (h.own.ex.asideD h.own.rq (by decide) o) (by decide))⟩,?_,?_,h.ge,h.lt,h.gl⟩
 ·exact zbS h.cur fun k z=>(zi (by omega)).trans (A k (by omega))
 ·refine⟨o.os.trans h.gr.os,o.tape.trans h.gr.tape,o.output.trans h.gr.output,?_,fun k z N=>(zi (by omega)).trans ((A k z).trans (h.gr.block k z N))⟩
  rw[World.size_setCell]
  exact Nat.le_trans h.gr.size o.size
theorem MM.far_im {S:Src} {g:Nat} {w0 W o:World} {A n:Nat} {V:Sv} {m:Md} {q:Nat×Int} (h:MM S g w0 A n V m q W) (D:W.grownBy o V.im.blk):o.heap[n]? =some (.cells #[.slice V.rq.a m.rq.length V.rq.cap,.slice V.im.a m.im.length V.im.cap,.slice V.ep.a m.ep.length V.ep.cap,.slice V.st.a m.st.length V.st.cap,.slice V.ex.a m.ex.length V.ex.cap] 28 (0,0)):=
 (D.block n (Array.getElem?_eq_some_iff.1 h.r7).1 fun e=>by
  obtain⟨_,_,z,j⟩:=h.own.im.typed e.symm
  rw[h.r7] at j
  simp only[Option.some.injEq,Obj.cells.injEq] at j
  exact absurd j.2.1 (by decide)).trans h.r7
theorem MM.app_im {S:Src} {g:Nat} {w0 W H:World} {O K:Nat} {V:Sv} {m:Md} {q:Nat×Int} {J:Rw} {x:Im} (h:MM S g w0 O K V m q W) (hr:OwnR H w0.heap.size 100 3 J (m.im.length+1) (m.im.flatMap imL++imL x)) (o:W.grownBy H V.im.blk):
  MM S g w0 O K {V with im:=J} {m with im:=m.im++[x]} q (H.setCell ⟨K,1,none⟩ (.slice J.a (m.im.length+1) J.cap)):=by
 have hz:=h.gr.size
 have D: ∀(k:Nat) (U:Array Value) (t:TypeId),W.heap[k]? =some (.cells U t (0,0))→t≠100→H.heap[k]? =W.heap[k]?:=fun k U t z ht=>o.block k (Array.getElem?_eq_some_iff.1 z).1 fun e=>by
  obtain⟨_,_,L,I⟩:=h.own.im.typed e.symm
  rw[z] at I
  simp only[Option.some.injEq,Obj.cells.injEq] at I
  exact ht I.2.1
 have Q:=(D _ _ _ h.r7 (by decide)).trans h.r7
 have j: ∀{e:TypeId} {E n:Nat} {r:Rw} (M:List Value),OwnR H w0.heap.size e E r n M→e≠28→OwnR (H.setCell ⟨K,1,none⟩ (.slice J.a (m.im.length+1) J.cap)) w0.heap.size e E r n M:=fun M X he=>X.keep fun k z=>zi fun e=>by
  obtain⟨_,_,L,I⟩:=X.typed z
  rw[e,Q] at I
  simp only[Option.some.injEq,Obj.cells.injEq] at I
  exact he I.2.1.symm
 have Z:=h.ge
 have aa:=h.lt
 have Y:=h.gl
 have A: ∀k,k<w0.heap.size→H.heap[k]? =W.heap[k]?:=fun k z=>by
  refine o.block k (by omega) fun e=>?_
  have:=(h.own.im.typed e.symm).1
  omega
 refine⟨(zi (by omega)).trans ((D _ _ _ h.r6 (by decide)).trans h.r6),(za9 Q).trans (by simp),⟨(j _ (h.own.rq.asideD h.own.im (by decide) o) (by decide)),(j _ (by exact (by rw[List.flatMap_append,List.length_append];simpa using hr)) (by decide)),(j _ (h.own.ep.asideD h.own.im (by decide) o) (by decide)),(j _ (h.own.st.asideD h.own.im (by decide) o) (by decide)),(j _ (h.own.ex.asideD h.own.im (by decide) o) (by decide))⟩,?_,?_,h.ge,h.lt,h.gl⟩
 ·exact zbS h.cur fun k z=>(zi (by omega)).trans (A k (by omega))
 ·refine⟨o.os.trans h.gr.os,o.tape.trans h.gr.tape,o.output.trans h.gr.output,?_,fun k z N=>(zi (by omega)).trans ((A k z).trans (h.gr.block k z N))⟩
  rw[World.size_setCell]
  exact Nat.le_trans h.gr.size o.size
theorem MM.far_ep {S:Src} {g:Nat} {w0 W o:World} {A n:Nat} {V:Sv} {m:Md} {q:Nat×Int} (h:MM S g w0 A n V m q W) (D:W.grownBy o V.ep.blk):o.heap[n]? =some (.cells #[.slice V.rq.a m.rq.length V.rq.cap,.slice V.im.a m.im.length V.im.cap,.slice V.ep.a m.ep.length V.ep.cap,.slice V.st.a m.st.length V.st.cap,.slice V.ex.a m.ex.length V.ex.cap] 28 (0,0)):=
 (D.block n (Array.getElem?_eq_some_iff.1 h.r7).1 fun e=>by
  obtain⟨_,_,z,j⟩:=h.own.ep.typed e.symm
  rw[h.r7] at j
  simp only[Option.some.injEq,Obj.cells.injEq] at j
  exact absurd j.2.1 (by decide)).trans h.r7
theorem MM.app_ep {S:Src} {g:Nat} {w0 W H:World} {O K:Nat} {V:Sv} {m:Md} {q:Nat×Int} {J:Rw} {x:Ep} (h:MM S g w0 O K V m q W) (hr:OwnR H w0.heap.size 102 4 J (m.ep.length+1) (m.ep.flatMap epL++epL x)) (o:W.grownBy H V.ep.blk):
  MM S g w0 O K {V with ep:=J} {m with ep:=m.ep++[x]} q (H.setCell ⟨K,2,none⟩ (.slice J.a (m.ep.length+1) J.cap)):=by
 have hz:=h.gr.size
 have D: ∀(k:Nat) (U:Array Value) (t:TypeId),W.heap[k]? =some (.cells U t (0,0))→t≠102→H.heap[k]? =W.heap[k]?:=fun k U t z ht=>o.block k (Array.getElem?_eq_some_iff.1 z).1 fun e=>by
  obtain⟨_,_,L,I⟩:=h.own.ep.typed e.symm
  rw[z] at I
  simp only[Option.some.injEq,Obj.cells.injEq] at I
  exact ht I.2.1
 have Q:=(D _ _ _ h.r7 (by decide)).trans h.r7
 have j: ∀{e:TypeId} {E n:Nat} {r:Rw} (M:List Value),OwnR H w0.heap.size e E r n M→e≠28→OwnR (H.setCell ⟨K,2,none⟩ (.slice J.a (m.ep.length+1) J.cap)) w0.heap.size e E r n M:=fun M X he=>X.keep fun k z=>zi fun e=>by
  obtain⟨_,_,L,I⟩:=X.typed z
  rw[e,Q] at I
  simp only[Option.some.injEq,Obj.cells.injEq] at I
  exact he I.2.1.symm
 have Z:=h.ge
 have aa:=h.lt
 have Y:=h.gl
 have A: ∀k,k<w0.heap.size→H.heap[k]? =W.heap[k]?:=fun k z=>by
  refine o.block k (by omega) fun e=>?_
  have:=(h.own.ep.typed e.symm).1
  omega
 refine⟨(zi (by omega)).trans ((D _ _ _ h.r6 (by decide)).trans h.r6),(za9 Q).trans (by simp),⟨(j _ (h.own.rq.asideD h.own.ep (by decide) o) (by decide)),(j _ (h.own.im.asideD h.own.ep (by decide) o) (by decide)),(j _ (by exact (by rw[List.flatMap_append,List.length_append];simpa using hr)) (by decide)),(j _ (h.own.st.asideD h.own.ep (by decide) o) (by decide)),(j _ (h.own.ex.asideD h.own.ep (by decide) o) (by decide))⟩,?_,?_,h.ge,h.lt,h.gl⟩
 ·exact zbS h.cur fun k z=>(zi (by omega)).trans (A k (by omega))
 ·refine⟨o.os.trans h.gr.os,o.tape.trans h.gr.tape,o.output.trans h.gr.output,?_,fun k z N=>(zi (by omega)).trans ((A k z).trans (h.gr.block k z N))⟩
  rw[World.size_setCell]
  exact Nat.le_trans h.gr.size o.size
theorem MM.far_st {S:Src} {g:Nat} {w0 W o:World} {A n:Nat} {V:Sv} {m:Md} {q:Nat×Int} (h:MM S g w0 A n V m q W) (D:W.grownBy o V.st.blk):o.heap[n]? =some (.cells #[.slice V.rq.a m.rq.length V.rq.cap,.slice V.im.a m.im.length V.im.cap,.slice V.ep.a m.ep.length V.ep.cap,.slice V.st.a m.st.length V.st.cap,.slice V.ex.a m.ex.length V.ex.cap] 28 (0,0)):=
 (D.block n (Array.getElem?_eq_some_iff.1 h.r7).1 fun e=>by
  obtain⟨_,_,z,j⟩:=h.own.st.typed e.symm
  rw[h.r7] at j
  simp only[Option.some.injEq,Obj.cells.injEq] at j
  exact absurd j.2.1 (by decide)).trans h.r7
theorem MM.app_st {S:Src} {g:Nat} {w0 W H:World} {O K:Nat} {V:Sv} {m:Md} {q:Nat×Int} {J:Rw} {x:Sm} (h:MM S g w0 O K V m q W) (hr:OwnR H w0.heap.size 106 3 J (m.st.length+1) (m.st.flatMap smL++smL x)) (o:W.grownBy H V.st.blk):
  MM S g w0 O K {V with st:=J} {m with st:=m.st++[x]} q (H.setCell ⟨K,3,none⟩ (.slice J.a (m.st.length+1) J.cap)):=by
 have hz:=h.gr.size
 have D: ∀(k:Nat) (U:Array Value) (t:TypeId),W.heap[k]? =some (.cells U t (0,0))→t≠106→H.heap[k]? =W.heap[k]?:=fun k U t z ht=>o.block k (Array.getElem?_eq_some_iff.1 z).1 fun e=>by
  obtain⟨_,_,L,I⟩:=h.own.st.typed e.symm
  rw[z] at I
  simp only[Option.some.injEq,Obj.cells.injEq] at I
  exact ht I.2.1
 have Q:=(D _ _ _ h.r7 (by decide)).trans h.r7
 have j: ∀{e:TypeId} {E n:Nat} {r:Rw} (M:List Value),OwnR H w0.heap.size e E r n M→e≠28→OwnR (H.setCell ⟨K,3,none⟩ (.slice J.a (m.st.length+1) J.cap)) w0.heap.size e E r n M:=fun M X he=>X.keep fun k z=>zi fun e=>by
  obtain⟨_,_,L,I⟩:=X.typed z
  rw[e,Q] at I
  simp only[Option.some.injEq,Obj.cells.injEq] at I
  exact he I.2.1.symm
 have Z:=h.ge
 have aa:=h.lt
 have Y:=h.gl
 have A: ∀k,k<w0.heap.size→H.heap[k]? =W.heap[k]?:=fun k z=>by
  refine o.block k (by omega) fun e=>?_
  have:=(h.own.st.typed e.symm).1
  omega
 refine⟨(zi (by omega)).trans ((D _ _ _ h.r6 (by decide)).trans h.r6),(za9 Q).trans (by simp),⟨(j _ (h.own.rq.asideD h.own.st (by decide) o) (by decide)),(j _ (h.own.im.asideD h.own.st (by decide) o) (by decide)),(j _ (h.own.ep.asideD h.own.st (by decide) o) (by decide)),(j _ (by exact (by rw[List.flatMap_append,List.length_append];simpa using hr)) (by decide)),(j _ (h.own.ex.asideD h.own.st (by decide) o) (by decide))⟩,?_,?_,h.ge,h.lt,h.gl⟩
 ·exact zbS h.cur fun k z=>(zi (by omega)).trans (A k (by omega))
 ·refine⟨o.os.trans h.gr.os,o.tape.trans h.gr.tape,o.output.trans h.gr.output,?_,fun k z N=>(zi (by omega)).trans ((A k z).trans (h.gr.block k z N))⟩
  rw[World.size_setCell]
  exact Nat.le_trans h.gr.size o.size
theorem MM.far_ex {S:Src} {g:Nat} {w0 W o:World} {A n:Nat} {V:Sv} {m:Md} {q:Nat×Int} (h:MM S g w0 A n V m q W) (D:W.grownBy o V.ex.blk):o.heap[n]? =some (.cells #[.slice V.rq.a m.rq.length V.rq.cap,.slice V.im.a m.im.length V.im.cap,.slice V.ep.a m.ep.length V.ep.cap,.slice V.st.a m.st.length V.st.cap,.slice V.ex.a m.ex.length V.ex.cap] 28 (0,0)):=
 (D.block n (Array.getElem?_eq_some_iff.1 h.r7).1 fun e=>by
  obtain⟨_,_,z,j⟩:=h.own.ex.typed e.symm
  rw[h.r7] at j
  simp only[Option.some.injEq,Obj.cells.injEq] at j
  exact absurd j.2.1 (by decide)).trans h.r7
theorem MM.app_ex {S:Src} {g:Nat} {w0 W H:World} {O K:Nat} {V:Sv} {m:Md} {q:Nat×Int} {J:Rw} {x:Ex} (h:MM S g w0 O K V m q W) (hr:OwnR H w0.heap.size 108 6 J (m.ex.length+1) (m.ex.flatMap exL++exL x)) (o:W.grownBy H V.ex.blk):
  MM S g w0 O K {V with ex:=J} {m with ex:=m.ex++[x]} q (H.setCell ⟨K,4,none⟩ (.slice J.a (m.ex.length+1) J.cap)):=by
 have hz:=h.gr.size
 have D: ∀(k:Nat) (U:Array Value) (t:TypeId),W.heap[k]? =some (.cells U t (0,0))→t≠108→H.heap[k]? =W.heap[k]?:=fun k U t z ht=>o.block k (Array.getElem?_eq_some_iff.1 z).1 fun e=>by
  obtain⟨_,_,L,I⟩:=h.own.ex.typed e.symm
  rw[z] at I
  simp only[Option.some.injEq,Obj.cells.injEq] at I
  exact ht I.2.1
 have Q:=(D _ _ _ h.r7 (by decide)).trans h.r7
 have j: ∀{e:TypeId} {E n:Nat} {r:Rw} (M:List Value),OwnR H w0.heap.size e E r n M→e≠28→OwnR (H.setCell ⟨K,4,none⟩ (.slice J.a (m.ex.length+1) J.cap)) w0.heap.size e E r n M:=fun M X he=>X.keep fun k z=>zi fun e=>by
  obtain⟨_,_,L,I⟩:=X.typed z
  rw[e,Q] at I
  simp only[Option.some.injEq,Obj.cells.injEq] at I
  exact he I.2.1.symm
 have Z:=h.ge
 have aa:=h.lt
 have Y:=h.gl
 have A: ∀k,k<w0.heap.size→H.heap[k]? =W.heap[k]?:=fun k z=>by
  refine o.block k (by omega) fun e=>?_
  have:=(h.own.ex.typed e.symm).1
  omega
 refine⟨(zi (by omega)).trans ((D _ _ _ h.r6 (by decide)).trans h.r6),(za9 Q).trans (by simp),⟨(j _ (h.own.rq.asideD h.own.ex (by decide) o) (by decide)),(j _ (h.own.im.asideD h.own.ex (by decide) o) (by decide)),(j _ (h.own.ep.asideD h.own.ex (by decide) o) (by decide)),(j _ (h.own.st.asideD h.own.ex (by decide) o) (by decide)),(j _ (by exact (by rw[List.flatMap_append,List.length_append];simpa using hr)) (by decide))⟩,?_,?_,h.ge,h.lt,h.gl⟩
 ·exact zbS h.cur fun k z=>(zi (by omega)).trans (A k (by omega))
 ·refine⟨o.os.trans h.gr.os,o.tape.trans h.gr.tape,o.output.trans h.gr.output,?_,fun k z N=>(zi (by omega)).trans ((A k z).trans (h.gr.block k z N))⟩
  rw[World.size_setCell]
  exact Nat.le_trans h.gr.size o.size
theorem zmL {l:List Sm} {x:Sm} (h:zdq l) (n:x.name.toList≠dN):zdq (l++[x]):=fun s j=>by
 rcases List.mem_append.1 j with j|j
 ·exact h s j
 ·rw[List.mem_singleton] at j
  rw[j]
  exact fun k=>absurd k n
theorem zmM {α:Type} {P:α→Prop} {l:List α} {k:Nat} {y:α} (h: ∀x∈l,P x) (n:P y): ∀x∈l.set k y,P x:=fun x j=>by
 rcases List.mem_or_eq_of_mem_set j with j|j
 ·exact h x j
 ·rw[j]
  exact n
theorem zmN:(({data:=#[113]}:ByteArray)).toList≠dN:=fun h=>by
 rw[Lib.toList_data] at h
 cases h
theorem zmO (v:Int) (l:List Ex): ∀(k:Nat) (x:Ex),l[k]? =some x→(l.flatMap exL).set (k*6+1) (.int .i64 v)=(l.set k {x with num:=v}).flatMap exL:=by
 induction l with
 |nil=>intro k x h;cases h
 |cons y l j=>
  intro k x h
  cases k with
  |zero=>
   cases h
   rfl
  |succ k=>
   rw[List.set_cons_succ,List.flatMap_cons,List.flatMap_cons,←j k x h,List.set_append_right _ _ (by show 6≤_;omega)]
   congr 2
   show (k+1)*6+1-6=_
   omega
theorem MM.num {S:Src} {g:Nat} {w0 W:World} {N Q D:Nat} {V:Sv} {m:Md} {q:Nat×Int} {k:Nat} {x:Ex} (h:MM S g w0 N Q V m q W) (hk:m.ex[k]? =some x) (X:V.ex.a=some ⟨D,0,none⟩) (v:Int):
  MM S g w0 N Q V {m with ex:=m.ex.set k {x with num:=v}} q (W.setCell ⟨D,k*6+1,none⟩ (.int .i64 v)):=by
 have hb:V.ex.blk=some D:=by unfold Rw.blk;rw[X];rfl
 obtain⟨J,ac,ab,E⟩:=h.own.ex.typed hb
 have aa:=h.ge
 have Z:=h.gl
 have I: ∀(j:Nat) (O:Array Value) (t:TypeId),W.heap[j]? =some (.cells O t (0,0))→t≠108→j≠D:=fun j O t z ht e=>by
  rw[e,E] at z
  simp only[Option.some.injEq,Obj.cells.injEq] at z
  exact ht z.2.1.symm
 have o: ∀{e:TypeId} {A n:Nat} {r:Rw} {U:List Value},OwnR W w0.heap.size e A r n U→e≠108→OwnR (W.setCell ⟨D,k*6+1,none⟩ (.int .i64 v)) w0.heap.size e A r n U:=fun Y he=>Y.keep fun j z=>zi (by
  obtain⟨_,_,c,hc⟩:=Y.typed z
  exact I j _ _ hc he)
 have H:OwnR (W.setCell ⟨D,k*6+1,none⟩ (.int .i64 v)) w0.heap.size 108 6 V.ex m.ex.length ((m.ex.set k {x with num:=v}).flatMap exL):=by
  have K:=h.own.ex
  unfold OwnR at K ⊢
  rw[X] at K ⊢
  rw[←zmO v m.ex k x hk]
  exact (K.stored (k*6+1) (.int .i64 v)).1
 refine⟨(zi (I _ _ _ h.r6 (by decide))).trans h.r6,?_,⟨o h.own.rq (by decide),o h.own.im (by decide),o h.own.ep (by decide),o h.own.st (by decide),?_⟩,?_,?_,h.ge,h.lt,h.gl⟩
 ·rw[zi (I _ _ _ h.r7 (by decide)),h.r7]
  simp
 ·show OwnR _ _ _ _ _ (m.ex.set k _).length _
  rw[List.length_set]
  exact H
 ·exact zbS h.cur fun j z=>zi (by omega)
 ·have L:Below 0 W (W.setCell ⟨D,k*6+1,none⟩ (.int .i64 v)):=(Below.refl 0 W).setCell (Nat.zero_le _) _
  refine⟨L.os.trans h.gr.os,L.tape.trans h.gr.tape,L.output.trans h.gr.output,?_,fun j z M=>(zi (by omega)).trans (h.gr.block j z M)⟩
  rw[World.size_setCell]
  exact h.gr.size
theorem MM.spot {S:Src} {g:Nat} {w0 W:World} {A H n:Nat} {V:Sv} {m:Md} {q:Nat×Int} {k:Nat} (h:MM S g w0 A H V m q W) (D:k<m.ex.length) (o:V.ex.a=some ⟨n,0,none⟩):W.cell? ⟨n,k*6+1,none⟩=some (.int .i64 (m.ex.getD k zg).num)∧W.frozen? ⟨n,k*6+1,none⟩=false:=by
 obtain⟨I,z,_,_,E,_⟩:=h.own.expr D
 rw[o] at z
 cases z
 refine⟨E,?_⟩
 have j:=h.own.ex
 unfold OwnR at j
 rw[o] at j
 exact j.frozenAt _
theorem Tryz.infoString:(Tryz.prog.info? 9).map (fun i=>(i.zero,i.size,i.bytes))=some (some (.string {data:=#[]}),1,16):=by kernel_rfl
theorem OwnR.addr {w:World} {j size n:Nat} {e:TypeId} {r:Rw} {xs:List Value} (h:OwnR w j e size r n xs):n=0∨∃g,r.a=some ⟨g,0,none⟩:=by
 rcases h.2 with ⟨_,q⟩|⟨g,A,z,o,_⟩
 ·exact .inl q
 ·simp only[Value.slice.injEq] at o
  exact .inr ⟨g,o.1⟩
theorem OwnR.str {w:World} {n:Nat} {e:TypeId} {r:Rw} {l:List ByteArray} {g:Nat} (h:OwnR w n e 1 r l.length (l.map .string)) (o:r.a=some ⟨g,0,none⟩) {j:Nat} (q:j<l.length):w.cell? ⟨g,j,none⟩=some (.string (l.getD j sNone)):=by
 unfold OwnR at h
 rw[o] at h
 rw[h.cellAt j (by omega)]
 simp[List.getD,q]
theorem OwnR.lt {w:World} {j size n:Nat} {e:TypeId} {r:Rw} {xs:List Value} {g:Nat} (h:OwnR w j e size r n xs) (o:r.a=some ⟨g,0,none⟩):g<w.heap.size:=(h.typed (k:=g) (by simp[Rw.blk,o,Value.ownBlock])).2.1
theorem zmP {l:List ByteArray} {x:ByteArray} {j:Nat} (n:j<l.length) (h:((l.getD j sNone).toList==x.toList)=true):zaX l x=true:=by
 rw[zaX,List.any_eq_true]
 exact⟨l[j],List.getElem_mem n,by simpa [List.getD,n] using h⟩
theorem zmQ {l:List ByteArray} {x:ByteArray} (h: ∀j,j<l.length→((l.getD j sNone).toList==x.toList)=false):zaX l x=false:=by
 rw[Bool.eq_false_iff,zaX]
 intro k
 rw[List.any_eq_true] at k
 obtain⟨y,q,n⟩:=k
 obtain⟨j,o,rfl⟩:=List.getElem_of_mem q
 have:=h j o
 simp only[List.getD,List.getElem?_eq_getElem o,Option.getD_some] at this
 rw[this] at n
 cases n
theorem zmR {C:Cx} {x:PR} {q:PS} {z:Int} (D:Is x q z) (o:(decide (z<0)&&((ze C q.pos).kind==3))=false):Is2 (bd x (zH C)) q (zbp C q.pos z) sNone:=by
 unfold zbp
 by_cases j:z<0
 ·obtain⟨n,A⟩:=zaC D j
  simp only[j,decide_true,Bool.true_and] at o
  rw[n,zz,zH,o,if_pos j]
  rfl
 ·obtain⟨e,n,A⟩:=zdc D j
  rw[n,zdU,if_neg j]
  exact A
theorem zmS (C:Cx) (H A j:Nat) (x:PR) (S:Sv) (q:PS) (z:Int) (d:Nat) (w:World) (hx:Is x q z) (M:Mem C H A j S q w) (L:(decide (z<0)&&((ze C q.pos).kind==3))=false):
  Calls Tryz.prog 131 #[pv C H A S q z d] w (zdo C H A j (bd x (zH C)) d S w):=by
 have Q:=zc M
 have o:=M.tok
 have D:=M.few
 have N:Hid (Is2 (bd x (zH C)) q (zbp C q.pos z) sNone):=zmR hx L
 clear hx M
 by_cases hz:z<0
 ·have O:decide (0≤z)=false:=decide_eq_false (by omega)
  simp only[hz,decide_true,Bool.true_and] at L
  by_cases hp:q.pos<C.ts.length
  ·obtain⟨J,_,_,_⟩:=o.cells hp (d:=⟨0,sNone,0,C.fin⟩)
   have aa:=(zan o).1
   change _=some (Value.int .i64 (ze C q.pos).kind) at J
   generalize U:ze C q.pos=t at J L
   have ab:(t.kind !=3)=true:=by rw[bne,L];rfl
   clear U
   unfold pv
   go_enter Tryz.func131,Tryz.ntmps131
   go_wp2_with fail
   refine (zda C H A j S q z d _ (zq (zq o _) _) D).mono ?_
   rintro e w2 ⟨rfl,n⟩
   have E:Hid (_=_):=(zcz n).2
   obtain⟨J,c1,V,c3,c4,c5,Z,c7,c8,Y,I,K,X⟩:=zaj E.out
   unfold pv
   go_wp2
   refine bodyPost_ret (zaA rfl _ _ (w.heap.size+1) 53 _ (0,0) _ rfl (zaS E.out) Tryz.underlying53 rfl (by kernel_rfl)) rfl ?_
   exact zd5 rfl N.out Q.out (zbD (zaZ n) (Nat.le_succ _) ..)
  ·unfold pv
   go_enter Tryz.func131,Tryz.ntmps131
   go_wp2_with fail
   refine (zda C H A j S q z d _ (zq (zq o _) _) D).mono ?_
   rintro e w2 ⟨rfl,n⟩
   have E:Hid (_=_):=(zcz n).2
   obtain⟨J,c1,V,c3,c4,c5,Z,c7,c8,Y,I,K,X⟩:=zaj E.out
   unfold pv
   go_wp2
   refine bodyPost_ret (zaA rfl _ _ (w.heap.size+1) 53 _ (0,0) _ rfl (zaS E.out) Tryz.underlying53 rfl (by kernel_rfl)) rfl ?_
   exact zd5 rfl N.out Q.out (zbD (zaZ n) (Nat.le_succ _) ..)
 ·have O:decide (0≤z)=true:=decide_eq_true (by omega)
  unfold pv
  go_enter Tryz.func131,Tryz.ntmps131
  go_wp2_with fail
  refine (zda C H A j S q z d _ (zq (zq o _) _) D).mono ?_
  rintro e w2 ⟨rfl,n⟩
  have E:Hid (_=_):=(zcz n).2
  obtain⟨J,c1,V,c3,c4,c5,Z,c7,c8,Y,I,K,X⟩:=zaj E.out
  unfold pv
  go_wp2
  refine bodyPost_ret (zaA rfl _ _ (w.heap.size+1) 53 _ (0,0) _ rfl (zaS E.out) Tryz.underlying53 rfl (by kernel_rfl)) rfl ?_
  exact zd5 rfl N.out Q.out (zbD (zaZ n) (Nat.le_succ _) ..)
def txt (C:Cx) (q:PS):ByteArray:=(ze C q.pos).text
theorem zmT {C:Cx} {q:PS} (n:((ze C q.pos).kind==3)=true) (j:zaX q.rq (txt C q)=true):zH C q= .ok (adv q,txt C q):=by
 unfold txt at j
 rw[zH,if_pos n,if_pos j];rfl
theorem zmU {C:Cx} {q:PS} (n:((ze C q.pos).kind==3)=true) (j:zaX q.rq (txt C q)=false) (o:40≤q.rq.length):zH C q= .error (zr C q.pos):=by
 unfold txt at j
 rw[zH,if_pos n,j,if_pos o];rfl
theorem zmV {C:Cx} {q:PS} (n:((ze C q.pos).kind==3)=true) (j:zaX q.rq (txt C q)=false) (o: ¬40≤q.rq.length):zH C q= .ok ({adv q with rq:=q.rq++[txt C q]},txt C q):=by
 unfold txt at j
 rw[zH,if_pos n,j,if_neg o];rfl
theorem zi3 (C:Cx) (Y o n:Nat) (S:Sv) (q:PS) (d:Nat) (w:World) (J:Mem C Y o n S q w) (Z:((ze C q.pos).kind==3)=true) (g:Nat) (I:q.rq.length=0∨S.rq.a=some ⟨g,0,none⟩):
  Calls Tryz.prog 131 #[pv C Y o S q (-1) d] w (zdo C Y o n (zH C q) d S w):=by
 obtain⟨i0,hi,ag,ad,ai⟩:=info_parts Tryz.infoString
 have A:=zc J
 have H3:=zc Z
 have U:q.pos<C.ts.length:=zfn Z (by decide)
 have aj:=J.few
 have an:=J.inv.rq
 have ak:=(zan J.tok).1
 obtain⟨c0,c1,_,_⟩:=J.tok.cells U (d:=⟨0,sNone,0,C.fin⟩)
 change _=some (Value.int .i64 (ze C q.pos).kind) at c0
 change _=some (Value.string (txt C q)) at c1
 generalize (ze C q.pos).kind=kd at c0 Z
 have ao:(kd !=3)=false:=by rw[bne,Z];rfl
 have ac:=zc I
 obtain⟨R,hR⟩: ∃R:Nat→ByteArray,∀j,R j=q.rq.getD j sNone:=⟨fun j=>q.rq.getD j sNone,fun _=>rfl⟩
 have HR:=zc hR
 have HC:Hid (∀j,j<q.rq.length→w.cell? ⟨g,j,none⟩=some (.string (R j))):=fun j L=>by
  rcases I with e|e
  ·omega
  ·rw[hR];exact A.out.own.rq.str e L
 clear hR
 generalize M:txt C q=tx at c1
 have z:=zc M
 have D:=fun o1 o2 o3=>((A.out.own.rq.alloc o1).alloc o2).alloc o3
 clear M J I
 unfold pv
 go_enter Tryz.func131,Tryz.ntmps131
 go_wp2
 go_loop [5] (fun i=>∃k:Nat,k≤q.rq.length∧i= .int .i64 k∧∀j,j<k→¬(R j).toList=tx.toList) (fun i=>(q.rq.length-intOf i).toNat)
 case atStart=>exact⟨0,Nat.zero_le _,rfl,fun j L=>absurd L (Nat.not_lt_zero j)⟩
 case round=>
  obtain⟨k,hk,rfl,V⟩:=hrel
  have K:=zc V
  clear V
  by_cases O:k<q.rq.length
  ·have ha:S.rq.a=some ⟨g,0,none⟩:=ac.out.elim (fun e=>by omega) id
   have al:=HC.out k O
   have ap:=A.out.own.rq.lt ha
   cases he:((R k).toList==tx.toList) with
   |true=>
    have Q:Hid (zH C q= .ok (adv q,tx)):=by
     show zH C q= .ok (adv q,tx)
     rw[←z.out]
     exact zmT H3.out (zmP O (by rw[←HR.out,z.out];exact he))
    have HA:=zc ha
    go_wp2
    refine bodyPost_ret (zaA rfl _ _ (w.heap.size+1) 53 _ (0,0) _ rfl (zbq w _ _) Tryz.underlying53 rfl (by kernel_rfl)) rfl ?_
    rw[Q.out]
    exact zd5 (q':=adv q) (z':=-1) (by rw[pv,HA.out];rfl) ⟨rfl,rfl,rfl⟩ (A.out.adv U) (zaT w _ _)
   |false=>
    have HX:Hid (∀j,j<k+1→¬(R j).toList=tx.toList):=fun j L=>by
     by_cases e:j=k
     ·rw[e];exact beq_eq_false_iff_ne.1 he
     ·exact K.out j (by omega)
    go_wp2
    go_round
    case rel=>exact⟨k+1,by omega,by go_num,HX.out⟩
    case measure=>simp[intOf];omega
  ·have HN:Hid (zaX q.rq (txt C q)=false):=zmQ fun j L=>by rw[z.out,←HR.out];exact beq_eq_false_iff_ne.2 (K.out j (by omega))
   by_cases hn:40≤q.rq.length
   ·have qn:decide ((40:Int)≤(q.rq.length:Int))=true:=decide_eq_true (by omega)
    have Q:Hid (zH C q= .error (zr C q.pos)):=zmU H3.out HN.out hn
    go_wp2_with fail
    refine (zeG C Y o n S (adv q) (-1) d _ (((A.out.adv U).alloc _).alloc _) (by decide) (by simp[adv])).mono ?_
    rintro e w2 ⟨rfl,E⟩
    have G3:Hid (_=_):=(zcz E).2
    obtain⟨b0,b1,b2,b3,b4,b5,b6,b7,b8,b9,ab,aa,bf⟩:=zaj G3.out
    have HB:Hid (Below w.heap.size w w2):=zaZ E
    clear E
    unfold pv
    go_wp2
    refine bodyPost_ret (zaA rfl _ _ (w.heap.size+1) 53 _ (0,0) _ rfl (zaS G3.out) Tryz.underlying53 rfl (by kernel_rfl)) rfl ?_
    rw[Q.out]
    exact zd5 (q':=adv q) (z':=(zr C q.pos:Int)) rfl rfl (A.out.adv U) (zbD HB.out (Nat.le_succ _) ..)
   ·have qn:decide ((40:Int)≤(q.rq.length:Int))=false:=decide_eq_false (by omega)
    have Q:Hid (zH C q= .ok ({adv q with rq:=q.rq++[tx]},tx)):=by
     show zH C q= .ok ({adv q with rq:=q.rq++[tx]},tx)
     rw[←z.out]
     exact zmV H3.out HN.out hn
    go_wp2_with (at_builtin;refine zcu _ rfl _ _ 22 rfl n 9 i0 _ 1 16 Tryz.underlying22 hi ag ad ai rfl (by decide) (by decide) S.rq q.rq.length _ (by rfl) (D _ _ _) (w.heap.size+1+1) [.string tx] (by rfl) (by exact (zaL w _ _ _).2.2) rfl (by intro u hu;simp at hu;subst hu;rfl) (by omega) (by have:=A.out.base;rw[zaa];omega) ?_)
    intro r' w2 hr X N
    have ah:=zc hr
    have HG:=zc X
    have ae:=zc N
    have H:=fun b hb=>zd6 (W:=w) A.out.own (Nat.le_refl _) (r:=S.rq.blk) (fun k e=>.inl e) b hb
    have g1:=(X.block w.heap.size (by rw[zaa];omega) (H _ (Nat.le_refl _))).trans (zaL w _ _ _).1
    have g2:=(X.block (w.heap.size+1) (by rw[zaa];omega) (H _ (by omega))).trans (zaL w _ _ _).2.1
    obtain⟨a0,a1,a2,a3,a4,a5,a6,a7,a8,a9,aq,am,af⟩:=zaj g1
    obtain⟨b0,b1,b2,b3,b4,b5,b6,b7,b8,b9,ab,aa,bf⟩:=zaj g2
    have G2:=zc g2
    clear g1 g2 X hr N H D
    go_wp2
    refine bodyPost_ret (zaA rfl _ _ (w.heap.size+1) 53 _ (0,0) _ rfl (zaS ((zi (by omega)).trans G2.out)) Tryz.underlying53 rfl (by kernel_rfl)) rfl ?_
    obtain⟨m',s'⟩:=(A.out.adv U).grow_rq (x:=tx) (zcJ w _ _ _) HG.out ah.out (by rw[zaa];exact ae.out) (((Off.refl _ _ _).set (b:=w.heap.size) (Nat.le_refl _) (by rw[zaa];omega) _ _).set12 (b:=w.heap.size+1) (by omega) (by rw[zaa];omega) ..) (by show q.rq.length<40;omega)
    rw[Q.out]
    exact⟨_,{adv q with rq:=q.rq++[tx]},-1,tx,by simp[pv,adv],⟨rfl,rfl,rfl⟩,m',s'⟩
theorem zdA (C:Cx) (o n j:Nat) (x:PR) (S:Sv) (q:PS) (z:Int) (d:Nat) (w:World) (E:Is x q z) (D:Mem C o n j S q w):
  Calls Tryz.prog 131 #[pv C o n S q z d] w (zdo C o n j (bd x (zH C)) d S w):=by
 cases A:(decide (z<0)&&((ze C q.pos).kind==3)) with
 |false=>exact zmS C o n j x S q z d w E D A
 |true=>
  rw[Bool.and_eq_true,decide_eq_true_eq] at A
  obtain⟨rfl,rfl⟩:=zaC E A.1
  rw[zz]
  rcases D.own.rq.addr with e|⟨g,e⟩
  ·exact zi3 C o n j S q d w D A.2 0 (.inl e)
  ·exact zi3 C o n j S q d w D A.2 g (.inr e)
end Go.Proofs.YticdggnnpjachaaGreat
