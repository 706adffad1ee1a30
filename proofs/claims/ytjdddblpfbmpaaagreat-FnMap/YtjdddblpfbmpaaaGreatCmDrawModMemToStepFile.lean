/-
  The specification's draw of a program in memory. No program is spoken of but for the numbers of its types.
  A program that was drawn is small,and so is its text. No program is spoken of.
  A pick of a row just made,behind a draw,or of one that lies there. No program is spoken of but for the numbers of its types.
  Rows of files of the call's own that grow. No program is spoken of.
  'append' of one file onto a row of the call's own,as one step of a region that draws its order. No program is spoken of.
-/
import Derived.Test.YtjdddblpfbmpaaaGreatCmDrawProgCToNamesMath
namespace Go.Proofs.YtjdddblpfbmpaaaGreat
open Go.RowKit Go.PlainAid Go.Sort
structure Drawn (k:Nat) (m:Md):Prop where
 rq:m.rq.length≤300+k∧∀x∈m.rq,x.size≤20000
 im:m.im.length≤300+k∧∀x∈m.im,x.spec.size≤20000∧x.first.size≤20000∧x.loc.size≤20000
 ep:m.ep.length≤300+k∧∀x∈m.ep,zcU 20000 x
 st:m.st.length≤300+k∧∀x∈m.st,x.name.size≤20000
 ex:m.ex.length≤300+k∧∀x∈m.ex,zfC 20000 x
 fair:zd5 m.st
theorem OwnR.asideD {w w':World} {b s n b2 H M:Nat} {e z:TypeId} {r j:Rw} {xs A:List Value} (h:OwnR w b e s r n xs) (J:OwnR w b2 z H j M A) (I:e≠z) (g:w.grownBy w' j.blk):OwnR w' b e s r n xs:=
 h.keep fun k q=>g.block k (h.typed q).2.1 fun L=>h.ne J I q L.symm
structure MM (S:Src) (g:Nat) (w0:World) (b6 b7:Nat) (V:Sv) (m:Md) (q:Nat×Int) (W:World):Prop where
 r6:W.heap[b6]? =some (.cells #[.slice none 0 0,.slice none 0 0,.slice none 0 0,.slice none 0 0,.slice none 0 0] 36 (0,0))
 r7:W.heap[b7]? =some (.cells #[.slice V.rq.a m.rq.length V.rq.cap,.slice V.im.a m.im.length V.im.cap,.slice V.ep.a m.ep.length V.ep.cap,.slice V.st.a m.st.length V.st.cap,.slice V.ex.a m.ex.length V.ex.cap] 36 (0,0))
 own:OwnMd W w0.heap.size V m
 cur:zN 137 S W g q
 gr:w0.grownBy W (some g)
 ge:w0.heap.size≤b6
 lt:b6<b7
 gl:g<w0.heap.size
theorem OwnMd.grown {w w':World} {q g:Nat} {V:Sv} {m:Md} (h:OwnMd w q V m) (J:g<q) (k:w.grownBy w' (some g)):OwnMd w' q V m:=by
 have z: ∀{e:TypeId} {A n:Nat} {r:Rw} {I:List Value},OwnR w q e A r n I→OwnR w' q e A r n I:=fun h=>h.keep fun j H=>k.block j (h.typed H).2.1 (by have:=(h.typed H).1;simp;omega)
 exact⟨z h.rq,z h.im,z h.ep,z h.st,z h.ex⟩
theorem MM.step {S:Src} {g:Nat} {w0 W z:World} {H A:Nat} {V:Sv} {m:Md} {q q':Nat×Int} (h:MM S g w0 H A V m q W) (I:zN 137 S z g q') (j:W.grownBy z (some g)):MM S g w0 H A V m q' z:=
 ⟨(j.block _ (Array.getElem?_eq_some_iff.1 h.r6).1 (by have:=h.ge;have:=h.gl;simp;omega)).trans h.r6,(j.block _ (Array.getElem?_eq_some_iff.1 h.r7).1 (by have:=h.ge;have:=h.gl;have:=h.lt;simp;omega)).trans h.r7,h.own.grown h.gl j,I,zE h.gr j,h.ge,h.lt,h.gl⟩
theorem MM.alloc {S:Src} {g:Nat} {w0 W:World} {j z:Nat} {V:Sv} {m:Md} {q:Nat×Int} (h:MM S g w0 j z V m q W) (o:Obj):MM S g w0 j z V m q (W.alloc o):=h.step (zdN h.cur o) (zdM W o _)
theorem MM.drew {S:Src} {g:Nat} {w0 W:World} {j z:Nat} {V:Sv} {m:Md} {q:Nat×Int} (h:MM S g w0 j z V m q W):MM S g w0 j z V m q W.drew:=h.step (zch h.cur fun _ _=>rfl) ⟨rfl,rfl,rfl,Nat.le_refl _,fun _ _ _=>rfl⟩
theorem MM.far_rq {S:Src} {g:Nat} {w0 W A:World} {I j:Nat} {V:Sv} {m:Md} {q:Nat×Int} (h:MM S g w0 I j V m q W) (J:W.grownBy A V.rq.blk):A.heap[j]? =some (.cells #[.slice V.rq.a m.rq.length V.rq.cap,.slice V.im.a m.im.length V.im.cap,.slice V.ep.a m.ep.length V.ep.cap,.slice V.st.a m.st.length V.st.cap,.slice V.ex.a m.ex.length V.ex.cap] 36 (0,0)):=
 (J.block j (Array.getElem?_eq_some_iff.1 h.r7).1 fun e=>by
  obtain⟨_,_,H,z⟩:=h.own.rq.typed e.symm
  rw[h.r7] at z
  simp only[Option.some.injEq,Obj.cells.injEq] at z
  exact absurd z.2.1 (by decide)).trans h.r7
theorem MM.app_rq {S:Src} {g:Nat} {w0 W M:World} {Z O:Nat} {V:Sv} {m:Md} {q:Nat×Int} {N:Rw} {x:ByteArray} (h:MM S g w0 Z O V m q W) (hr:OwnR M w0.heap.size 9 1 N (m.rq.length+1) (m.rq.map Value.string++[Value.string x])) (z:W.grownBy M V.rq.blk):
  MM S g w0 Z O {V with rq:=N} {m with rq:=m.rq++[x]} q (M.setCell ⟨O,0,none⟩ (.slice N.a (m.rq.length+1) N.cap)):=by
 have hz:=h.gr.size
 have I: ∀(k:Nat) (cs:Array Value) (t:TypeId),W.heap[k]? =some (.cells cs t (0,0))→t≠9→M.heap[k]? =W.heap[k]?:=fun k cs t A ht=>z.block k (Array.getElem?_eq_some_iff.1 A).1 fun e=>by
  obtain⟨_,_,X,L⟩:=h.own.rq.typed e.symm
  rw[A] at L
  simp only[Option.some.injEq,Obj.cells.injEq] at L
  exact ht L.2.1
 have h7:=(I _ _ _ h.r7 (by decide)).trans h.r7
 have j: ∀{e:TypeId} {H n:Nat} {r:Rw} (Y:List Value),OwnR M w0.heap.size e H r n Y→e≠36→OwnR (M.setCell ⟨O,0,none⟩ (.slice N.a (m.rq.length+1) N.cap)) w0.heap.size e H r n Y:=fun Y hx he=>hx.keep fun k A=>zn fun e=>by
  obtain⟨_,_,X,L⟩:=hx.typed A
  rw[e,h7] at L
  simp only[Option.some.injEq,Obj.cells.injEq] at L
  exact he L.2.1.symm
 have aa:=h.ge
 have ab:=h.lt
 have ac:=h.gl
 have J: ∀k,k<w0.heap.size→M.heap[k]? =W.heap[k]?:=fun k A=>by
  refine z.block k (by omega) fun e=>?_
  have:=(h.own.rq.typed e.symm).1
  omega
 refine⟨(zn (by omega)).trans ((I _ _ _ h.r6 (by decide)).trans h.r6),(zaz h7).trans (by simp),⟨(j _ (by exact (by rw[List.map_append,List.length_append];exact hr)) (by decide)),(j _ (h.own.im.asideD h.own.rq (by decide) z) (by decide)),(j _ (h.own.ep.asideD h.own.rq (by decide) z) (by decide)),(j _ (h.own.st.asideD h.own.rq (by decide) z) (by decide)),(j _ (h.own.ex.asideD h.own.rq (by decide) z) (by decide))⟩,?_,?_,h.ge,h.lt,h.gl⟩
 ·exact zch h.cur fun k A=>(zn (by omega)).trans (J k (by omega))
 ·refine⟨z.os.trans h.gr.os,z.tape.trans h.gr.tape,z.output.trans h.gr.output,?_,fun k A U=>(zn (by omega)).trans ((J k A).trans (h.gr.block k A U))⟩
  rw[World.size_setCell]
  exact Nat.le_trans h.gr.size z.size
theorem MM.far_im {S:Src} {g:Nat} {w0 W A:World} {I j:Nat} {V:Sv} {m:Md} {q:Nat×Int} (h:MM S g w0 I j V m q W) (J:W.grownBy A V.im.blk):A.heap[j]? =some (.cells #[.slice V.rq.a m.rq.length V.rq.cap,.slice V.im.a m.im.length V.im.cap,.slice V.ep.a m.ep.length V.ep.cap,.slice V.st.a m.st.length V.st.cap,.slice V.ex.a m.ex.length V.ex.cap] 36 (0,0)):=
 (J.block j (Array.getElem?_eq_some_iff.1 h.r7).1 fun e=>by
  obtain⟨_,_,H,z⟩:=h.own.im.typed e.symm
  rw[h.r7] at z
  simp only[Option.some.injEq,Obj.cells.injEq] at z
  exact absurd z.2.1 (by decide)).trans h.r7
theorem MM.app_im {S:Src} {g:Nat} {w0 W M:World} {Z O:Nat} {V:Sv} {m:Md} {q:Nat×Int} {N:Rw} {x:Im} (h:MM S g w0 Z O V m q W) (hr:OwnR M w0.heap.size 84 3 N (m.im.length+1) (m.im.flatMap imL++imL x)) (z:W.grownBy M V.im.blk):
  MM S g w0 Z O {V with im:=N} {m with im:=m.im++[x]} q (M.setCell ⟨O,1,none⟩ (.slice N.a (m.im.length+1) N.cap)):=by
 have hz:=h.gr.size
 have I: ∀(k:Nat) (cs:Array Value) (t:TypeId),W.heap[k]? =some (.cells cs t (0,0))→t≠84→M.heap[k]? =W.heap[k]?:=fun k cs t A ht=>z.block k (Array.getElem?_eq_some_iff.1 A).1 fun e=>by
  obtain⟨_,_,X,L⟩:=h.own.im.typed e.symm
  rw[A] at L
  simp only[Option.some.injEq,Obj.cells.injEq] at L
  exact ht L.2.1
 have h7:=(I _ _ _ h.r7 (by decide)).trans h.r7
 have j: ∀{e:TypeId} {H n:Nat} {r:Rw} (Y:List Value),OwnR M w0.heap.size e H r n Y→e≠36→OwnR (M.setCell ⟨O,1,none⟩ (.slice N.a (m.im.length+1) N.cap)) w0.heap.size e H r n Y:=fun Y hx he=>hx.keep fun k A=>zn fun e=>by
  obtain⟨_,_,X,L⟩:=hx.typed A
  rw[e,h7] at L
  simp only[Option.some.injEq,Obj.cells.injEq] at L
  exact he L.2.1.symm
 have aa:=h.ge
 have ab:=h.lt
 have ac:=h.gl
 have J: ∀k,k<w0.heap.size→M.heap[k]? =W.heap[k]?:=fun k A=>by
  refine z.block k (by omega) fun e=>?_
  have:=(h.own.im.typed e.symm).1
  omega
 refine⟨(zn (by omega)).trans ((I _ _ _ h.r6 (by decide)).trans h.r6),(zaz h7).trans (by simp),⟨(j _ (h.own.rq.asideD h.own.im (by decide) z) (by decide)),(j _ (by exact (by rw[List.flatMap_append,List.length_append];simpa using hr)) (by decide)),(j _ (h.own.ep.asideD h.own.im (by decide) z) (by decide)),(j _ (h.own.st.asideD h.own.im (by decide) z) (by decide)),(j _ (h.own.ex.asideD h.own.im (by decide) z) (by decide))⟩,?_,?_,h.ge,h.lt,h.gl⟩
 ·exact zch h.cur fun k A=>(zn (by omega)).trans (J k (by omega))
 ·refine⟨z.os.trans h.gr.os,z.tape.trans h.gr.tape,z.output.trans h.gr.output,?_,fun k A U=>(zn (by omega)).trans ((J k A).trans (h.gr.block k A U))⟩
  rw[World.size_setCell]
  exact Nat.le_trans h.gr.size z.size
theorem MM.far_ep {S:Src} {g:Nat} {w0 W A:World} {I j:Nat} {V:Sv} {m:Md} {q:Nat×Int} (h:MM S g w0 I j V m q W) (J:W.grownBy A V.ep.blk):A.heap[j]? =some (.cells #[.slice V.rq.a m.rq.length V.rq.cap,.slice V.im.a m.im.length V.im.cap,.slice V.ep.a m.ep.length V.ep.cap,.slice V.st.a m.st.length V.st.cap,.slice V.ex.a m.ex.length V.ex.cap] 36 (0,0)):=
 (J.block j (Array.getElem?_eq_some_iff.1 h.r7).1 fun e=>by
  obtain⟨_,_,H,z⟩:=h.own.ep.typed e.symm
  rw[h.r7] at z
  simp only[Option.some.injEq,Obj.cells.injEq] at z
  exact absurd z.2.1 (by decide)).trans h.r7
theorem MM.app_ep {S:Src} {g:Nat} {w0 W M:World} {Z O:Nat} {V:Sv} {m:Md} {q:Nat×Int} {N:Rw} {x:Ep} (h:MM S g w0 Z O V m q W) (hr:OwnR M w0.heap.size 86 4 N (m.ep.length+1) (m.ep.flatMap epL++epL x)) (z:W.grownBy M V.ep.blk):
  MM S g w0 Z O {V with ep:=N} {m with ep:=m.ep++[x]} q (M.setCell ⟨O,2,none⟩ (.slice N.a (m.ep.length+1) N.cap)):=by
 have hz:=h.gr.size
 have I: ∀(k:Nat) (cs:Array Value) (t:TypeId),W.heap[k]? =some (.cells cs t (0,0))→t≠86→M.heap[k]? =W.heap[k]?:=fun k cs t A ht=>z.block k (Array.getElem?_eq_some_iff.1 A).1 fun e=>by
  obtain⟨_,_,X,L⟩:=h.own.ep.typed e.symm
  rw[A] at L
  simp only[Option.some.injEq,Obj.cells.injEq] at L
  exact ht L.2.1
 have h7:=(I _ _ _ h.r7 (by decide)).trans h.r7
 have j: ∀{e:TypeId} {H n:Nat} {r:Rw} (Y:List Value),OwnR M w0.heap.size e H r n Y→e≠36→OwnR (M.setCell ⟨O,2,none⟩ (.slice N.a (m.ep.length+1) N.cap)) w0.heap.size e H r n Y:=fun Y hx he=>hx.keep fun k A=>zn fun e=>by
  obtain⟨_,_,X,L⟩:=hx.typed A
  rw[e,h7] at L
  simp only[Option.some.injEq,Obj.cells.injEq] at L
  exact he L.2.1.symm
 have aa:=h.ge
 have ab:=h.lt
 have ac:=h.gl
 have J: ∀k,k<w0.heap.size→M.heap[k]? =W.heap[k]?:=fun k A=>by
  refine z.block k (by omega) fun e=>?_
  have:=(h.own.ep.typed e.symm).1
  omega
 refine⟨(zn (by omega)).trans ((I _ _ _ h.r6 (by decide)).trans h.r6),(zaz h7).trans (by simp),⟨(j _ (h.own.rq.asideD h.own.ep (by decide) z) (by decide)),(j _ (h.own.im.asideD h.own.ep (by decide) z) (by decide)),(j _ (by exact (by rw[List.flatMap_append,List.length_append];simpa using hr)) (by decide)),(j _ (h.own.st.asideD h.own.ep (by decide) z) (by decide)),(j _ (h.own.ex.asideD h.own.ep (by decide) z) (by decide))⟩,?_,?_,h.ge,h.lt,h.gl⟩
 ·exact zch h.cur fun k A=>(zn (by omega)).trans (J k (by omega))
 ·refine⟨z.os.trans h.gr.os,z.tape.trans h.gr.tape,z.output.trans h.gr.output,?_,fun k A U=>(zn (by omega)).trans ((J k A).trans (h.gr.block k A U))⟩
  rw[World.size_setCell]
  exact Nat.le_trans h.gr.size z.size
theorem MM.far_st {S:Src} {g:Nat} {w0 W A:World} {I j:Nat} {V:Sv} {m:Md} {q:Nat×Int} (h:MM S g w0 I j V m q W) (J:W.grownBy A V.st.blk):A.heap[j]? =some (.cells #[.slice V.rq.a m.rq.length V.rq.cap,.slice V.im.a m.im.length V.im.cap,.slice V.ep.a m.ep.length V.ep.cap,.slice V.st.a m.st.length V.st.cap,.slice V.ex.a m.ex.length V.ex.cap] 36 (0,0)):=
 (J.block j (Array.getElem?_eq_some_iff.1 h.r7).1 fun e=>by
  obtain⟨_,_,H,z⟩:=h.own.st.typed e.symm
  rw[h.r7] at z
  simp only[Option.some.injEq,Obj.cells.injEq] at z
  exact absurd z.2.1 (by decide)).trans h.r7
theorem MM.app_st {S:Src} {g:Nat} {w0 W M:World} {Z O:Nat} {V:Sv} {m:Md} {q:Nat×Int} {N:Rw} {x:Sm} (h:MM S g w0 Z O V m q W) (hr:OwnR M w0.heap.size 107 3 N (m.st.length+1) (m.st.flatMap smL++smL x)) (z:W.grownBy M V.st.blk):
  MM S g w0 Z O {V with st:=N} {m with st:=m.st++[x]} q (M.setCell ⟨O,3,none⟩ (.slice N.a (m.st.length+1) N.cap)):=by
 have hz:=h.gr.size
 have I: ∀(k:Nat) (cs:Array Value) (t:TypeId),W.heap[k]? =some (.cells cs t (0,0))→t≠107→M.heap[k]? =W.heap[k]?:=fun k cs t A ht=>z.block k (Array.getElem?_eq_some_iff.1 A).1 fun e=>by
  obtain⟨_,_,X,L⟩:=h.own.st.typed e.symm
  rw[A] at L
  simp only[Option.some.injEq,Obj.cells.injEq] at L
  exact ht L.2.1
 have h7:=(I _ _ _ h.r7 (by decide)).trans h.r7
 have j: ∀{e:TypeId} {H n:Nat} {r:Rw} (Y:List Value),OwnR M w0.heap.size e H r n Y→e≠36→OwnR (M.setCell ⟨O,3,none⟩ (.slice N.a (m.st.length+1) N.cap)) w0.heap.size e H r n Y:=fun Y hx he=>hx.keep fun k A=>zn fun e=>by
  obtain⟨_,_,X,L⟩:=hx.typed A
  rw[e,h7] at L
  simp only[Option.some.injEq,Obj.cells.injEq] at L
  exact he L.2.1.symm
 have aa:=h.ge
 have ab:=h.lt
 have ac:=h.gl
 have J: ∀k,k<w0.heap.size→M.heap[k]? =W.heap[k]?:=fun k A=>by
  refine z.block k (by omega) fun e=>?_
  have:=(h.own.st.typed e.symm).1
  omega
 refine⟨(zn (by omega)).trans ((I _ _ _ h.r6 (by decide)).trans h.r6),(zaz h7).trans (by simp),⟨(j _ (h.own.rq.asideD h.own.st (by decide) z) (by decide)),(j _ (h.own.im.asideD h.own.st (by decide) z) (by decide)),(j _ (h.own.ep.asideD h.own.st (by decide) z) (by decide)),(j _ (by exact (by rw[List.flatMap_append,List.length_append];simpa using hr)) (by decide)),(j _ (h.own.ex.asideD h.own.st (by decide) z) (by decide))⟩,?_,?_,h.ge,h.lt,h.gl⟩
 ·exact zch h.cur fun k A=>(zn (by omega)).trans (J k (by omega))
 ·refine⟨z.os.trans h.gr.os,z.tape.trans h.gr.tape,z.output.trans h.gr.output,?_,fun k A U=>(zn (by omega)).trans ((J k A).trans (h.gr.block k A U))⟩
  rw[World.size_setCell]
  exact Nat.le_trans h.gr.size z.size
theorem MM.far_ex {S:Src} {g:Nat} {w0 W A:World} {I j:Nat} {V:Sv} {m:Md} {q:Nat×Int} (h:MM S g w0 I j V m q W) (J:W.grownBy A V.ex.blk):A.heap[j]? =some (.cells #[.slice V.rq.a m.rq.length V.rq.cap,.slice V.im.a m.im.length V.im.cap,.slice V.ep.a m.ep.length V.ep.cap,.slice V.st.a m.st.length V.st.cap,.slice V.ex.a m.ex.length V.ex.cap] 36 (0,0)):=
 (J.block j (Array.getElem?_eq_some_iff.1 h.r7).1 fun e=>by
  obtain⟨_,_,H,z⟩:=h.own.ex.typed e.symm
  rw[h.r7] at z
  simp only[Option.some.injEq,Obj.cells.injEq] at z
  exact absurd z.2.1 (by decide)).trans h.r7
theorem MM.app_ex {S:Src} {g:Nat} {w0 W M:World} {Z O:Nat} {V:Sv} {m:Md} {q:Nat×Int} {N:Rw} {x:Ex} (h:MM S g w0 Z O V m q W) (hr:OwnR M w0.heap.size 109 6 N (m.ex.length+1) (m.ex.flatMap exL++exL x)) (z:W.grownBy M V.ex.blk):
  MM S g w0 Z O {V with ex:=N} {m with ex:=m.ex++[x]} q (M.setCell ⟨O,4,none⟩ (.slice N.a (m.ex.length+1) N.cap)):=by
 have hz:=h.gr.size
 have I: ∀(k:Nat) (cs:Array Value) (t:TypeId),W.heap[k]? =some (.cells cs t (0,0))→t≠109→M.heap[k]? =W.heap[k]?:=fun k cs t A ht=>z.block k (Array.getElem?_eq_some_iff.1 A).1 fun e=>by
  obtain⟨_,_,X,L⟩:=h.own.ex.typed e.symm
  rw[A] at L
  simp only[Option.some.injEq,Obj.cells.injEq] at L
  exact ht L.2.1
 have h7:=(I _ _ _ h.r7 (by decide)).trans h.r7
 have j: ∀{e:TypeId} {H n:Nat} {r:Rw} (Y:List Value),OwnR M w0.heap.size e H r n Y→e≠36→OwnR (M.setCell ⟨O,4,none⟩ (.slice N.a (m.ex.length+1) N.cap)) w0.heap.size e H r n Y:=fun Y hx he=>hx.keep fun k A=>zn fun e=>by
  obtain⟨_,_,X,L⟩:=hx.typed A
  rw[e,h7] at L
  simp only[Option.some.injEq,Obj.cells.injEq] at L
  exact he L.2.1.symm
 have aa:=h.ge
 have ab:=h.lt
 have ac:=h.gl
 have J: ∀k,k<w0.heap.size→M.heap[k]? =W.heap[k]?:=fun k A=>by
  refine z.block k (by omega) fun e=>?_
  have:=(h.own.ex.typed e.symm).1
  omega
 refine⟨(zn (by omega)).trans ((I _ _ _ h.r6 (by decide)).trans h.r6),(zaz h7).trans (by simp),⟨(j _ (h.own.rq.asideD h.own.ex (by decide) z) (by decide)),(j _ (h.own.im.asideD h.own.ex (by decide) z) (by decide)),(j _ (h.own.ep.asideD h.own.ex (by decide) z) (by decide)),(j _ (h.own.st.asideD h.own.ex (by decide) z) (by decide)),(j _ (by exact (by rw[List.flatMap_append,List.length_append];simpa using hr)) (by decide))⟩,?_,?_,h.ge,h.lt,h.gl⟩
 ·exact zch h.cur fun k A=>(zn (by omega)).trans (J k (by omega))
 ·refine⟨z.os.trans h.gr.os,z.tape.trans h.gr.tape,z.output.trans h.gr.output,?_,fun k A U=>(zn (by omega)).trans ((J k A).trans (h.gr.block k A U))⟩
  rw[World.size_setCell]
  exact Nat.le_trans h.gr.size z.size
theorem zpF {l:List Sm} {x:Sm} (h:zd5 l) (q:x.name.toList≠dN):zd5 (l++[x]):=fun s j=>by
 rcases List.mem_append.1 j with j|j
 ·exact h s j
 ·rw[List.mem_singleton] at j
  rw[j]
  exact fun k=>absurd k q
theorem zpG {α:Type} {P:α→Prop} {l:List α} {k:Nat} {y:α} (h: ∀x∈l,P x) (q:P y): ∀x∈l.set k y,P x:=fun x j=>by
 rcases List.mem_or_eq_of_mem_set j with j|j
 ·exact h x j
 ·rw[j]
  exact q
theorem zpH:(({data:=#[113]}:ByteArray)).toList≠dN:=fun h=>by
 rw[Lib.toList_data] at h
 cases h
theorem zpI (v:Int) (l:List Ex): ∀(k:Nat) (x:Ex),l[k]? =some x→(l.flatMap exL).set (k*6+1) (.int .i64 v)=(l.set k {x with num:=v}).flatMap exL:=by
 induction l with
 |nil=>intro k x h;cases h
 |cons y l j=>
  intro k x h
  cases k with
  |zero=>
   cases h
   rfl
  |succ k=>
   rw[List.set_cons_succ,List.flatMap_cons,List.flatMap_cons,←j k x h,List.set_append_right _ _ (by show 6≤_;omega)]
   congr 2
   show (k+1)*6+1-6=_
   omega
theorem MM.num {S:Src} {g:Nat} {w0 W:World} {Y b7 I:Nat} {V:Sv} {m:Md} {q:Nat×Int} {k:Nat} {x:Ex} (h:MM S g w0 Y b7 V m q W) (hk:m.ex[k]? =some x) (ha:V.ex.a=some ⟨I,0,none⟩) (v:Int):
  MM S g w0 Y b7 V {m with ex:=m.ex.set k {x with num:=v}} q (W.setCell ⟨I,k*6+1,none⟩ (.int .i64 v)):=by
 have hb:V.ex.blk=some I:=by unfold Rw.blk;rw[ha];rfl
 obtain⟨O,ab,ac,J⟩:=h.own.ex.typed hb
 have aa:=h.ge
 have ad:=h.gl
 have U: ∀(j:Nat) (Z:Array Value) (t:TypeId),W.heap[j]? =some (.cells Z t (0,0))→t≠109→j≠I:=fun j Z t H ht e=>by
  rw[e,J] at H
  simp only[Option.some.injEq,Obj.cells.injEq] at H
  exact ht H.2.1.symm
 have z: ∀{e:TypeId} {A n:Nat} {r:Rw} {xs:List Value},OwnR W w0.heap.size e A r n xs→e≠109→OwnR (W.setCell ⟨I,k*6+1,none⟩ (.int .i64 v)) w0.heap.size e A r n xs:=fun hx he=>hx.keep fun j H=>zn (by
  obtain⟨_,_,c,hc⟩:=hx.typed H
  exact U j _ _ hc he)
 have L:OwnR (W.setCell ⟨I,k*6+1,none⟩ (.int .i64 v)) w0.heap.size 109 6 V.ex m.ex.length ((m.ex.set k {x with num:=v}).flatMap exL):=by
  have X:=h.own.ex
  unfold OwnR at X ⊢
  rw[ha] at X ⊢
  rw[←zpI v m.ex k x hk]
  exact (X.stored (k*6+1) (.int .i64 v)).1
 refine⟨(zn (U _ _ _ h.r6 (by decide))).trans h.r6,?_,⟨z h.own.rq (by decide),z h.own.im (by decide),z h.own.ep (by decide),z h.own.st (by decide),?_⟩,?_,?_,h.ge,h.lt,h.gl⟩
 ·rw[zn (U _ _ _ h.r7 (by decide)),h.r7]
  simp
 ·show OwnR _ _ _ _ _ (m.ex.set k _).length _
  rw[List.length_set]
  exact L
 ·exact zch h.cur fun j H=>zn (by omega)
 ·have N:Below 0 W (W.setCell ⟨I,k*6+1,none⟩ (.int .i64 v)):=(Below.refl 0 W).setCell (Nat.zero_le _) _
  refine⟨N.os.trans h.gr.os,N.tape.trans h.gr.tape,N.output.trans h.gr.output,?_,fun j H M=>(zn (by omega)).trans (h.gr.block j H M)⟩
  rw[World.size_setCell]
  exact h.gr.size
theorem MM.spot {S:Src} {g:Nat} {w0 W:World} {L I z:Nat} {V:Sv} {m:Md} {q:Nat×Int} {k:Nat} (h:MM S g w0 L I V m q W) (J:k<m.ex.length) (A:V.ex.a=some ⟨z,0,none⟩):W.cell? ⟨z,k*6+1,none⟩=some (.int .i64 (m.ex.getD k zi).num)∧W.frozen? ⟨z,k*6+1,none⟩=false:=by
 obtain⟨N,H,_,_,M,_⟩:=h.own.expr J
 rw[A] at H
 cases H
 refine⟨M,?_⟩
 have j:=h.own.ex
 unfold OwnR at j
 rw[A] at j
 exact j.frozenAt _
theorem zfF {α:Type} {c:α→Nat} {B:Nat} (l:List α) (h: ∀x∈l,c x≤B):zB c l≤l.length*B:=by
 induction l with
 |nil=>exact Nat.zero_le _
 |cons x l j=>
  have z:=h x (List.mem_cons_self ..)
  have A:=j fun y q=>h y (List.mem_cons_of_mem _ q)
  unfold zB at*
  rw[List.map_cons,List.sum_cons,List.length_cons,Nat.succ_mul]
  omega
theorem Drawn.nums {k:Nat} {m:Md} (h:Drawn k m):zaW m.ex:=fun x j=>by
 have:=(h.ex.2 x j).2.2
 omega
theorem Drawn.cost {m:Md} (h:Drawn 1 m):zbW m≤61000000:=by
 have J:=zfF (c:=zaL) (B:=20000) m.rq fun x j=>h.rq.2 x j
 have z:=zfF (c:=zcf) (B:=60000) m.im fun x j=>by have:=h.im.2 x j;unfold zcf;omega
 have M:=zfF (c:=zcg) (B:=60000) m.ep fun x j=>by have:=h.ep.2 x j;unfold zcU at this;unfold zcg;omega
 have H:=zfF (c:=zcR) (B:=20000) m.st fun x j=>h.st.2 x j
 have L:=zfF (c:=zdp) (B:=40000) m.ex fun x j=>by have:=h.ex.2 x j;unfold zfC at this;unfold zdp;omega
 have I:=h.rq.1
 have A:=h.im.1
 have O:=h.ep.1
 have q:=h.st.1
 have N:=h.ex.1
 have e:zbW m=(m.rq.length+zB zaL m.rq)+(m.im.length+zB zcf m.im)+(m.ep.length+zB zcg m.ep)+(m.st.length+zB zcR m.st)+(m.ex.length+zB zdp m.ex):=rfl
 omega
theorem Drawn.small {m:Md} (h:Drawn 1 m):Small m:=by
 have z:=h.rq.1
 have A:=h.im.1
 have I:=h.ep.1
 have q:=h.st.1
 have H:=h.ex.1
 refine⟨fun x j=>?_,fun x j=>?_,fun x j=>?_,fun x j=>?_,h.nums,?_,?_,?_,?_,?_⟩
 ·have:=h.rq.2 x j
  omega
 ·have:=h.im.2 x j
  omega
 ·have:=h.ep.2 x j
  unfold zcU at this
  omega
 ·have:=h.st.2 x j
  omega
 all_goals omega
theorem Drawn.text {m:Md} (h:Drawn 1 m) (t:Tree m):(zbO m).size≤4294967296∧(zbj m).size≤4294967296:=by
 have:=zf0 t h.nums
 have:=h.cost
 omega
theorem zhR (S:Src) (O:S.ok) (g:Nat) (q:Nat×Int) (N:Nat) (l:List ByteArray) (w:World) (J:zN 137 S w g q) (U:1≤l.length) (M:l.length≤1000) (L: ∀x∈l,x.size≤N):
  Calls Tryz.prog 64 #[.pointer (some ⟨g,0,none⟩),.slice (some ⟨w.heap.size,0,none⟩) l.length l.length] (w.alloc (.cells (l.map Value.string).toArray 9)).drew (zdt S g N w):=by
 have Z:=zcJ J
 have A:w.heap.size<(w.alloc (.cells (l.map Value.string).toArray 9)).heap.size:=by rw[zl];omega
 refine (zhL S O g q w.heap.size l.length N (w.alloc (.cells (l.map Value.string).toArray 9)).drew (zch (zdN J _) fun _ _=>rfl) U M A (by omega) ?_).mono ?_
 ·intro j I
  show ∃x,(w.alloc _).cell? _=_∧_
  rw[World.cell?_alloc_new]
  refine⟨l[j],?_,L _ (List.getElem_mem I)⟩
  simp[List.getElem?_eq_getElem I]
 ·rintro e Y ⟨x,V,rfl,X,H,z⟩
  exact⟨x,V,rfl,X,H,zE (zdM w (.cells (l.map Value.string).toArray 9) _) ⟨z.os,z.tape,z.output,z.size,z.block⟩⟩
theorem zpJ (S:Src) (O:S.ok) (g b:Nat) (q:Nat×Int) (N:Nat) (l:List ByteArray) (w:World) (X:zN 137 S w g q) (J:w.heap[b]? =some (.cells (l.map Value.string).toArray 9 (0,0))) (z:b≠g) (U:1≤l.length) (M:l.length≤1000) (L: ∀x∈l,x.size≤N):
  Calls Tryz.prog 64 #[.pointer (some ⟨g,0,none⟩),.slice (some ⟨b,0,none⟩) l.length l.length] w (zdt S g N w):=by
 refine (zhL S O g q b l.length N w X U M (Array.getElem?_eq_some_iff.1 J).1 z ?_).mono ?_
 ·intro j I
  refine⟨l[j],?_,L _ (List.getElem_mem I)⟩
  simp[World.cell?,J,List.getElem?_eq_getElem I]
 ·rintro e Z ⟨x,V,rfl,Y,H,A⟩
  exact⟨x,V,rfl,Y,H,A⟩
abbrev Fl:=ByteArray×ByteArray
def flL (x:Fl):List Value:=[.string x.1,.string x.2]
def zgA:Fl:=({data:=#[]},{data:=#[]})
def zkh (fs:List Fl) (j:Nat):ByteArray:=(fs.getD j zgA).1
def zki (fs:List Fl) (j:Nat):ByteArray:=(fs.getD j zgA).2
def zuS (len:Nat) (Pt Tx:Nat→ByteArray):List Fl:=(List.range len).map fun j=>(Pt j,Tx j)
theorem zkj (q:List Fl): ∀(j i:Nat) (x:Fl),i<2→q[j]? =some x→(q.flatMap flL)[j*2+i]? =(flL x)[i]?:=by
 induction q with
 |nil=>intro j i x _ h;cases h
 |cons u q A=>
  intro j i x z h
  rw[List.flatMap_cons]
  cases j with
  |zero=>
   cases h
   rw[Nat.zero_mul,Nat.zero_add,List.getElem?_append_left (by show i<2;exact z)]
  |succ j=>
   rw[List.getElem?_append_right (by show 2≤_;omega),show (j+1)*2+i-(flL u).length=j*2+i from by show (j+1)*2+i-2=_;omega]
   exact A j i x z h
def zbA (w:World) (base:Nat) (e:TypeId) (g n cap:Nat) (fs:List Fl):Prop:=w.ownsRow base e 2 (.slice (some ⟨g,0,none⟩) n cap) n (fs.flatMap flL)∧n=fs.length
theorem zdP {w:World} {j g n z:Nat} {e:TypeId} {I:List Fl} (h:zbA w j e g n z I):j≤g∧g<w.heap.size:=by
 rcases h.1.2 with ⟨q,_⟩|⟨M,A,H,q,J,L,_⟩
 ·simp at q
 ·simp only[Value.slice.injEq,Option.some.injEq,Addr.mk.injEq,and_true,true_and] at q
  obtain⟨rfl,rfl⟩:=q
  exact⟨J,(Array.getElem?_eq_some_iff.1 L).1⟩
theorem zgB {w W:World} {j g n q:Nat} {e:TypeId} {J:List Fl} (h:zbA w j e g n q J) (L:W.heap[g]? =w.heap[g]?):zbA W j e g n q J:=by
 refine⟨⟨h.1.1,?_⟩,h.2⟩
 rcases h.1.2 with ⟨z,_⟩|⟨O,I,A,z,H,N,M⟩
 ·simp at z
 ·simp only[Value.slice.injEq,Option.some.injEq,Addr.mk.injEq,and_true,true_and] at z
  obtain⟨rfl,rfl⟩:=z
  exact .inr ⟨g,q,A,rfl,H,L.trans N,M⟩
theorem zpK {w W:World} {j g n q:Nat} {e:TypeId} {z:List Fl} (h:zbA w j e g n q z) (A:Below w.heap.size w W):zbA W j e g n q z:=zgB h (A.block g (zdP h).2)
theorem zkk {w:World} {j b g n q:Nat} {e:TypeId} {J:List Fl} (h:zbA w j e g n q J) (M:b≤j):zbA w b e g n q J:=by
 refine⟨⟨h.1.1,?_⟩,h.2⟩
 rcases h.1.2 with ⟨H,_⟩|⟨O,z,A,H,I,N,L⟩
 ·simp at H
 ·exact .inr ⟨O,z,A,H,Nat.le_trans M I,N,L⟩
theorem zpL (w:World) (e:TypeId):zbA (w.alloc (.cells #[] e)) w.heap.size e w.heap.size 0 0 []:=⟨World.ownsRow_lit w #[] 0 (Nat.le_refl _) (by unfold maxLen;omega) rfl,rfl⟩
theorem zpM {w:World} {z g n I:Nat} {e:TypeId} {q:List Fl} (h:zbA w z e g n I q):FilesAt w (some ⟨g,0,none⟩) g 0 n (zkh q) (zki q):=by
 have J:=h.2
 have A: ∀j,j<n→q[j]? =some (q.getD j zgA):=fun j H=>by simp[List.getD,List.getElem?_eq_getElem (show j<q.length by omega)]
 refine⟨fun _=>rfl,fun _=>(zdP h).2,fun j H=>?_,fun j H=>?_⟩
 ·rw[Nat.zero_add,h.1.cellAt _ (by omega)]
  exact zkj q j 0 _ (by omega) (A j H)
 ·rw[Nat.zero_add,h.1.cellAt _ (by omega)]
  exact zkj q j 1 _ (by omega) (A j H)
theorem zpN {P:Program} (w:World) {ops:Array Oper} {rest:List Oper} {o:Oper} {a:Act} {Q:Exit→Act→World→Prop} (O:o.guard=none) (s x:Operand) (t:TypeId)
  (ho:o.op= .call {callee:=.builtin .append,args:=#[s,x],argTypes:=#[t,t]})
  (I:Nat) (e:TypeId) (i:TypeInfo) (z:Value) (ht:P.underlying t=some (.slice e)) (hi:P.info? e=some i) (hz:i.zero=some z) (L:i.size=2) (V:i.bytes=32) (Y:z.cells.size=2)
  (g n M:Nat) (fs:List Fl) (hs:a.eval s= .slice (some ⟨g,0,none⟩) n M) (A:zbA w I e g n M fs)
  (b:Fl) (hx:a.eval x= .slice (some ⟨w.heap.size,0,none⟩) 1 1) (hn:n+1≤1000000)
  (h: ∀J q w',zbA w' I e J (n+1) q (fs++[b])→w.grownBy w' (some g)→(J=g∨w.heap.size<J)→wpList P ops Q rest (a.put o.dst (.slice (some ⟨J,0,none⟩) (n+1) q)) w'):
  wpList P ops Q (o::rest) a (w.alloc (.cells #[.string b.1,.string b.2] e)):=by
 obtain⟨ac,ae⟩:=zdP A
 refine wpList_append_own_at _ O s x t ho I e i z 2 32 ht hi hz L V Y (by decide) _ n _ hs (A.1.alloc _) ⟨w.heap.size,0,none⟩ 1 1 (flL b) hx rfl ?_ ?_ ?_ ?_ ?_ ?_
 ·intro j u N
  match j,N with
  |0,N=>cases N;simp[Addr.add]
  |1,N=>cases N;simp[Addr.add]
 ·intro u hu
  simp[flL] at hu
  rcases hu with rfl|rfl<;>rfl
 ·unfold maxLen;omega
 ·omega
 ·simp;omega
 ·intro v' w' k1 k2 k3 k4
  rcases k1.2 with ⟨hv,ad⟩|⟨J,q,aa,rfl,Z⟩
  ·omega
  ·refine h J q w' ⟨by rw[List.flatMap_append];simpa using k1,by rw[List.length_append];have:=A.2;simp;omega⟩ ?_ ?_
   ·have H:(w.alloc (.cells #[.string b.1,.string b.2] e)).grownBy w' (some g):=k2
    have ab:(w.alloc (.cells #[.string b.1,.string b.2] e)).heap.size=w.heap.size+1:=by show (w.heap.push _).size=_;simp
    exact⟨H.os,H.tape,H.output,by have:=H.size;omega,fun k hk U=>(H.block k (by omega) U).trans (heap_alloc_old w _ hk)⟩
   ·have X:some J=some g∨some J=some (w.alloc (.cells #[.string b.1,.string b.2] e)).heap.size:=k4
    rcases X with k|k
    ·exact .inl (Option.some.inj k)
    ·right
     have:=Option.some.inj k
     rw[this]
     show w.heap.size<(w.heap.push _).size
     simp
theorem zpO {P:Program} {ops:Array Oper} {o:Oper} {a:Act} {W:World} {K:Act→World→Prop} {Q:Exit→Act→World→Prop} {E:Prop} (O:o.guard=none) (s x:Operand) (t:TypeId)
  (ho:o.op= .call {callee:=.builtin .append,args:=#[s,x],argTypes:=#[t,t]})
  (H:Nat) (e:TypeId) (i:TypeInfo) (z:Value) (ht:P.underlying t=some (.slice e)) (hi:P.info? e=some i) (hz:i.zero=some z) (J:i.size=2) (U:i.bytes=32) (V:z.cells.size=2)
  (g n L:Nat) (fs:List Fl) (hs:a.eval s= .slice (some ⟨g,0,none⟩) n L) (A:zbA W H e g n L fs)
  (M:Nat) (b:Fl) (hx:a.eval x= .slice (some ⟨M,0,none⟩) 1 1) (Z:W.heap[M]? =some (.cells #[.string b.1,.string b.2] e (0,0))) (hn:n+1≤1000000)
  (h: ∀I q w',zbA w' H e I (n+1) q (fs++[b])→W.grownBy w' (some g)→(I=g∨W.heap.size≤I)→K (a.put o.dst (.slice (some ⟨I,0,none⟩) (n+1) q)) w'):
  if Region.wanted o (yielded ops a.tmps)=true then Oper.wp P o a W K Q else E:=by
 have hw:Region.wanted o (yielded ops a.tmps)=true:=by simp[Region.wanted,O]
 rw[if_pos hw]
 obtain⟨ab,ad⟩:=zdP A
 obtain⟨v',w',hr,Y,h3,_,h5⟩:=run_append_own_at (P:=P) W H t o.type e i z 2 32 ht hi hz J U V (by decide) _ n _ A.1 ⟨M,0,none⟩ 1 1 (flL b) rfl (by
  intro j u N
  have e1:(⟨M,0,none⟩:Addr).add j=⟨M,j,none⟩:=by simp[Addr.add];exact fun h=>h.symm
  rw[e1]
  match j,N with
  |0,N=>cases N;simp[World.cell?,Z]
  |1,N=>cases N;simp[World.cell?,Z]) (by
  intro u hu
  simp[flL] at hu
  rcases hu with rfl|rfl<;>rfl) (by unfold maxLen;omega) (by omega) (by omega)
 unfold Oper.wp execOp
 simp only[ho,resolve,invoke,builtin,Sem.run_bind,Sem.run_pure,Result.andThen_ok,List.map_toArray,List.map_cons,List.map_nil,hs,hx,hr]
 rcases Y.2 with ⟨hv,ac⟩|⟨I,q,aa,rfl,X⟩
 ·omega
 ·refine h I q w' ⟨by rw[List.flatMap_append];simpa using Y,by rw[List.length_append];have:=A.2;simp;omega⟩ h3 ?_
  have k4:some I=some g∨some I=some W.heap.size:=h5
  rcases k4 with k|k
  ·exact .inl (Option.some.inj k)
  ·exact .inr (Nat.le_of_eq (Option.some.inj k).symm)
end Go.Proofs.YtjdddblpfbmpaaaGreat
