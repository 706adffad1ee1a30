/-
 What spec.l14Copy answers,in whatever order it copies the five rows: the walk.
-/
import Derived.Test.YtjdddblpfbmpaaaGreatClOrderInv
import Derived.Test.YtjdddblpfbmpaaaGreatClMapLawToStepRows
namespace Go.Proofs.YtjdddblpfbmpaaaGreat
open Go.RowKit Go.PlainAid Go.Sort
structure Chn (e:TypeId) (size B gx f:Nat) (src:Rw) (n:Nat) (xs:List Value) (i:Nat) (D:Nat→Bool) (T:Nat→Option Value) (w:World):Prop where
 b0:D i=true→D (i+3)=false→∃g,T (i+3)=some (.slice (some ⟨g,0,none⟩) 0 0)∧OwnR w B e size ⟨some ⟨g,0,none⟩,0⟩ 0 []
 b1:D (i+1)=true→T (i+4)=some (.pointer (some ⟨gx,f,none⟩))
 b2:D (i+2)=true→T (i+5)=some (.slice src.a n src.cap)
 b3:D (i+3)=true→∃r,T (i+6)=some (.slice r.a n r.cap)∧OwnR w B e size r n xs
 q2:D (i+2)=true→D (i+1)=true
 q3:D (i+3)=true→D i=true∧D (i+2)=true
section
variable {e:TypeId} {size B gx f n i io:Nat} {src:Rw} {xs:List Value} {D D':Nat→Bool} {T T':Nat→Option Value} {w w':World}
theorem Chn.other (h:Chn e size B gx f src n xs i D T w) (J: ∀j,j≠io→D' j=D j) (I: ∀k,k≠io+3→T' k=T k) (aa:io<i∨i+3<io) (hk: ∀k z,B≤k→k<w.heap.size→w.heap[k]? =some (.cells z e (0,0))→w'.heap[k]? =w.heap[k]?):Chn e size B gx f src n xs i D' T' w':=by
 have O: ∀{r:Rw} {n:Nat} {xs:List Value},OwnR w B e size r n xs→OwnR w' B e size r n xs:=fun U=>U.keep fun k g=>by
  obtain⟨H,A,z,h3⟩:=U.typed g
  exact hk k z H A h3
 have N:=J i (by omega)
 have V:=J (i+1) (by omega)
 have L:=J (i+2) (by omega)
 have M:=J (i+3) (by omega)
 have t0:=I (i+3) (by omega)
 have X:=I (i+4) (by omega)
 have Y:=I (i+5) (by omega)
 have Z:=I (i+6) (by omega)
 refine⟨fun a b=>?_,fun a=>?_,fun a=>?_,fun a=>?_,fun a=>?_,fun a=>?_⟩
 ·obtain⟨g,H,A⟩:=h.b0 (N▸a) (M▸b)
  exact⟨g,t0.trans H,O A⟩
 ·exact X.trans (h.b1 (V▸a))
 ·exact Y.trans (h.b2 (L▸a))
 ·obtain⟨r,H,A⟩:=h.b3 (M▸a)
  exact⟨r,Z.trans H,O A⟩
 ·rw[V];exact h.q2 (L▸a)
 ·rw[N,L];exact h.q3 (M▸a)
theorem Chn.s0 (h:Chn e size B gx f src n xs i D T w) (H: ∀j,j≠i→D' j=D j) (U:D' i=true) (A: ∀k,k≠i+3→T' k=T k) (M:T' (i+3)=some (.slice (some ⟨w.heap.size,0,none⟩) 0 0)) (L:OwnR (w.alloc (.cells #[] e)) B e size ⟨some ⟨w.heap.size,0,none⟩,0⟩ 0 []):Chn e size B gx f src n xs i D' T' (w.alloc (.cells #[] e)):=by
 have J:=H (i+1) (by omega)
 have z:=H (i+2) (by omega)
 have I:=H (i+3) (by omega)
 refine⟨fun _ _=>⟨_,M,L⟩,fun a=>(A (i+4) (by omega)).trans (h.b1 (J▸a)),fun a=>(A (i+5) (by omega)).trans (h.b2 (z▸a)),fun a=>?_,fun a=>by rw[J];exact h.q2 (z▸a),fun a=>⟨U,by rw[z];exact (h.q3 (I▸a)).2⟩⟩
 obtain⟨r,O,N⟩:=h.b3 (I▸a)
 exact⟨r,(A (i+6) (by omega)).trans O,N.alloc _⟩
theorem Chn.s1 (h:Chn e size B gx f src n xs i D T w) (J: ∀j,j≠i+1→D' j=D j) (O:D' (i+1)=true) (H: ∀k,k≠i+4→T' k=T k) (N:T' (i+4)=some (.pointer (some ⟨gx,f,none⟩))):Chn e size B gx f src n xs i D' T' w:=by
 have M:=J i (by omega)
 have L:=J (i+2) (by omega)
 have z:=J (i+3) (by omega)
 refine⟨fun a b=>?_,fun _=>N,fun a=>(H (i+5) (by omega)).trans (h.b2 (L▸a)),fun a=>?_,fun _=>O,fun a=>by rw[M,L];exact h.q3 (z▸a)⟩
 ·obtain⟨g,I,A⟩:=h.b0 (M▸a) (z▸b)
  exact⟨g,(H (i+3) (by omega)).trans I,A⟩
 ·obtain⟨r,I,A⟩:=h.b3 (z▸a)
  exact⟨r,(H (i+6) (by omega)).trans I,A⟩
theorem Chn.s2 (h:Chn e size B gx f src n xs i D T w) (J: ∀j,j≠i+2→D' j=D j) (U:D' (i+2)=true) (H: ∀k,k≠i+5→T' k=T k) (O:T' (i+5)=some (.slice src.a n src.cap)) (N:D (i+1)=true):Chn e size B gx f src n xs i D' T' w:=by
 have L:=J i (by omega)
 have M:=J (i+1) (by omega)
 have z:=J (i+3) (by omega)
 refine⟨fun a b=>?_,fun a=>(H (i+4) (by omega)).trans (h.b1 (M▸a)),fun _=>O,fun a=>?_,fun _=>M.trans N,fun a=>⟨by rw[L];exact (h.q3 (z▸a)).1,U⟩⟩
 ·obtain⟨g,I,A⟩:=h.b0 (L▸a) (z▸b)
  exact⟨g,(H (i+3) (by omega)).trans I,A⟩
 ·obtain⟨r,I,A⟩:=h.b3 (z▸a)
  exact⟨r,(H (i+6) (by omega)).trans I,A⟩
theorem Chn.s3 (h:Chn e size B gx f src n xs i D T w) (A: ∀j,j≠i+3→D' j=D j) (U:D' (i+3)=true) (H: ∀k,k≠i+6→T' k=T k) {r:Rw} (M:T' (i+6)=some (.slice r.a n r.cap)) (L:OwnR w' B e size r n xs) (O:D i=true) (N:D (i+2)=true):Chn e size B gx f src n xs i D' T' w':=by
 have J:=A i (by omega)
 have I:=A (i+1) (by omega)
 have z:=A (i+2) (by omega)
 exact⟨fun _ b=>(by rw[U] at b;cases b),fun a=>(H (i+4) (by omega)).trans (h.b1 (I▸a)),fun a=>(H (i+5) (by omega)).trans (h.b2 (z▸a)),fun _=>⟨r,M,L⟩,fun a=>by rw[I];exact h.q2 (z▸a),fun _=>⟨by rw[J];exact O,by rw[z];exact N⟩⟩
end
theorem zpg:(Tryz.prog.info? 9).map (fun i=>(i.zero.map fun z=>z.cells.size,i.size,i.bytes))=some (some 1,1,16):=by kernel_rfl
theorem zph:(Tryz.prog.info? 84).map (fun i=>(i.zero.map fun z=>z.cells.size,i.size,i.bytes))=some (some 3,3,48):=by kernel_rfl
theorem zpi:(Tryz.prog.info? 86).map (fun i=>(i.zero.map fun z=>z.cells.size,i.size,i.bytes))=some (some 4,4,56):=by kernel_rfl
theorem zpj:(Tryz.prog.info? 107).map (fun i=>(i.zero.map fun z=>z.cells.size,i.size,i.bytes))=some (some 3,3,32):=by kernel_rfl
theorem zpk:(Tryz.prog.info? 109).map (fun i=>(i.zero.map fun z=>z.cells.size,i.size,i.bytes))=some (some 6,6,64):=by kernel_rfl
structure CpI (w0:World) (gx gz:Nat) (S:Sv) (m:Md) (ds:List Deferred) (D:Nat→Bool) (a:Act) (w:World):Prop where
 sz:a.tmps.size=24
 df:a.defers=ds
 t1:a.tmps[1]? =some (.pointer (some ⟨gx,0,none⟩))
 t2:a.tmps[2]? =some (.pointer (some ⟨gz,0,none⟩))
 nb:D 21=false→Below w0.heap.size w0 w
 c0:D 21=false→Chn 9 1 w0.heap.size gx 0 S.rq m.rq.length (m.rq.map .string) 0 D (fun k=>a.tmps[k]?) w
 c1:D 21=false→Chn 84 3 w0.heap.size gx 1 S.im m.im.length (m.im.flatMap imL) 4 D (fun k=>a.tmps[k]?) w
 c2:D 21=false→Chn 86 4 w0.heap.size gx 2 S.ep m.ep.length (m.ep.flatMap epL) 8 D (fun k=>a.tmps[k]?) w
 c3:D 21=false→Chn 107 3 w0.heap.size gx 3 S.st m.st.length (m.st.flatMap smL) 12 D (fun k=>a.tmps[k]?) w
 c4:D 21=false→Chn 109 6 w0.heap.size gx 4 S.ex m.ex.length (m.ex.flatMap exL) 16 D (fun k=>a.tmps[k]?) w
 b20:D 20=true→D 21=false→∃S',a.tmps[23]? =some (zh S' m)∧OwnMd w w0.heap.size S' m
 lt20:D 20=true→∀i,i<20→D i=true
 lt21:D 21=true→D 20=true
 fin:D 21=true→∃S' w1,w=((((w1.setCell ⟨gz,0,none⟩ (.slice S'.rq.a m.rq.length S'.rq.cap)).setCell ⟨gz,1,none⟩ (.slice S'.im.a m.im.length S'.im.cap)).setCell ⟨gz,2,none⟩ (.slice S'.ep.a m.ep.length S'.ep.cap)).setCell ⟨gz,3,none⟩ (.slice S'.st.a m.st.length S'.st.cap)).setCell ⟨gz,4,none⟩ (.slice S'.ex.a m.ex.length S'.ex.cap)∧OwnMd w1 w0.heap.size S' m∧Below w0.heap.size w0 w1
section
variable {w0 w w':World} {gx gz:Nat} {S:Sv} {m:Md} {ds:List Deferred} {D:Nat→Bool} {a:Act}
theorem CpI.go (h:CpI w0 gx gz S m ds D a w) {i:Nat} (X:i<20) (L:D i=false) (v:Value) (V:Below w0.heap.size w0 w')
  (O:Chn 9 1 w0.heap.size gx 0 S.rq m.rq.length (m.rq.map .string) 0 (fun j=>D j||decide (j=i)) (fun k=>(a.put (some (i+3)) v).tmps[k]?) w')
  (N:Chn 84 3 w0.heap.size gx 1 S.im m.im.length (m.im.flatMap imL) 4 (fun j=>D j||decide (j=i)) (fun k=>(a.put (some (i+3)) v).tmps[k]?) w')
  (A:Chn 86 4 w0.heap.size gx 2 S.ep m.ep.length (m.ep.flatMap epL) 8 (fun j=>D j||decide (j=i)) (fun k=>(a.put (some (i+3)) v).tmps[k]?) w')
  (U:Chn 107 3 w0.heap.size gx 3 S.st m.st.length (m.st.flatMap smL) 12 (fun j=>D j||decide (j=i)) (fun k=>(a.put (some (i+3)) v).tmps[k]?) w')
  (M:Chn 109 6 w0.heap.size gx 4 S.ex m.ex.length (m.ex.flatMap exL) 16 (fun j=>D j||decide (j=i)) (fun k=>(a.put (some (i+3)) v).tmps[k]?) w')
  :CpI w0 gx gz S m ds (fun j=>D j||decide (j=i)) (a.put (some (i+3)) v) w':=by
 have z:D 20=false:=by
  cases A:D 20 with
  |false=>rfl
  |true=>exact absurd (h.lt20 A i X) (by rw[L];decide)
 have J:D 21=false:=by
  cases A:D 21 with
  |false=>rfl
  |true=>exact absurd (h.lt21 A) (by rw[z];decide)
 have H:(D 20||decide (20=i))=false:=by rw[z,decide_eq_false (by omega)];rfl
 have I:(D 21||decide (21=i))=false:=by rw[J,decide_eq_false (by omega)];rfl
 refine⟨?_,h.df,?_,?_,fun _=>V,fun _=>O,fun _=>N,fun _=>A,fun _=>U,fun _=>M,fun k=>?_,fun k=>?_,fun k=>?_,fun k=>?_⟩
 ·show (a.tmps.setIfInBounds _ _).size=24
  rw[Array.size_setIfInBounds];exact h.sz
 ·show (a.tmps.setIfInBounds _ _)[1]? =_
  rw[Array.getElem?_setIfInBounds_ne (by omega)];exact h.t1
 ·show (a.tmps.setIfInBounds _ _)[2]? =_
  rw[Array.getElem?_setIfInBounds_ne (by omega)];exact h.t2
 ·exact absurd (H.symm.trans k) (by decide)
 ·exact absurd (H.symm.trans k) (by decide)
 ·exact absurd (I.symm.trans k) (by decide)
 ·exact absurd (I.symm.trans k) (by decide)
theorem CpI.no21 (h:CpI w0 gx gz S m ds D a w) {i:Nat} (z:i<20) (j:D i=false):D 21=false:=by
 cases A:D 21 with
 |false=>rfl
 |true=>exact absurd (h.lt20 (h.lt21 A) i z) (by rw[j];decide)
theorem zi (a:Act) (v:Value) {i k:Nat} (h:k≠i):(a.put (some i) v).tmps[k]? =a.tmps[k]?:=by
 show (a.tmps.setIfInBounds _ _)[k]? =_
 exact Array.getElem?_setIfInBounds_ne (fun e=>h e.symm)
theorem zaj {a:Act} (v:Value) {i:Nat} (h:i<a.tmps.size):(a.put (some i) v).tmps[i]? =some v:=by
 show (a.tmps.setIfInBounds _ _)[i]? =_
 exact Array.getElem?_setIfInBounds_self_of_lt h
theorem zm {D:Nat→Bool} {i:Nat}: ∀j,j≠i→(D j||decide (j=i))=D j:=fun j h=>by rw[decide_eq_false h,Bool.or_false]
theorem or_self {D:Nat→Bool} {i:Nat}:(D i||decide (i=i))=true:=by simp
theorem zaC {P:Program} {o:Oper} {a:Act} {w w':World} {v:Value} {K:Act→World→Prop} {Q:Exit→Act→World→Prop} (j:(execOp a.eval o).run P w= .ok (.value v) w') (h:K (a.put o.dst v) w'):o.wp P a w K Q:=by
 unfold Oper.wp
 rw[j]
 exact h
theorem zbu (w:World) (o:Obj) {k:Nat} (h:k<w.heap.size):(w.alloc o).heap[k]? =w.heap[k]?:=heap_alloc_old w o h
theorem CpI.s0 (h:CpI w0 gx gz S m ds D a w) (J:D 0=false):CpI w0 gx gz S m ds (fun j=>D j||decide (j=0)) (a.put (some 3) (.slice (some ⟨w.heap.size,0,none⟩) 0 0)) (w.alloc (.cells #[] 9)):=by
 have H:=h.no21 (by decide) J
 have I:=h.nb H
 exact h.go (i:=0) (by decide) J _ (I.alloc I.size _) ((h.c0 H).s0 zm or_self (fun k z=>zi a _ z) (zaj _ (by rw[h.sz];decide)) (World.ownsRow_lit w #[] 0 I.size (by unfold maxLen;omega) rfl)) ((h.c1 H).other zm (fun k z=>zi a _ z) (by decide) (fun k _ _ A _=>zbu w _ A)) ((h.c2 H).other zm (fun k z=>zi a _ z) (by decide) (fun k _ _ A _=>zbu w _ A)) ((h.c3 H).other zm (fun k z=>zi a _ z) (by decide) (fun k _ _ A _=>zbu w _ A)) ((h.c4 H).other zm (fun k z=>zi a _ z) (by decide) (fun k _ _ A _=>zbu w _ A))
theorem CpI.s1 (h:CpI w0 gx gz S m ds D a w) (H:D 1=false):CpI w0 gx gz S m ds (fun j=>D j||decide (j=1)) (a.put (some 4) (.pointer (some ⟨gx,0,none⟩))) w:=by
 have A:=h.no21 (by decide) H
 exact h.go (i:=1) (by decide) H _ (h.nb A) ((h.c0 A).s1 zm or_self (fun k z=>zi a _ z) (zaj _ (by rw[h.sz];decide))) ((h.c1 A).other zm (fun k z=>zi a _ z) (by decide) (fun _ _ _ _ _=>rfl)) ((h.c2 A).other zm (fun k z=>zi a _ z) (by decide) (fun _ _ _ _ _=>rfl)) ((h.c3 A).other zm (fun k z=>zi a _ z) (by decide) (fun _ _ _ _ _=>rfl)) ((h.c4 A).other zm (fun k z=>zi a _ z) (by decide) (fun _ _ _ _ _=>rfl))
theorem CpI.s2 (h:CpI w0 gx gz S m ds D a w) (H:D 2=false) (I:D 1=true):CpI w0 gx gz S m ds (fun j=>D j||decide (j=2)) (a.put (some 5) (.slice S.rq.a m.rq.length S.rq.cap)) w:=by
 have A:=h.no21 (by decide) H
 exact h.go (i:=2) (by decide) H _ (h.nb A) ((h.c0 A).s2 zm or_self (fun k z=>zi a _ z) (zaj _ (by rw[h.sz];decide)) I) ((h.c1 A).other zm (fun k z=>zi a _ z) (by decide) (fun _ _ _ _ _=>rfl)) ((h.c2 A).other zm (fun k z=>zi a _ z) (by decide) (fun _ _ _ _ _=>rfl)) ((h.c3 A).other zm (fun k z=>zi a _ z) (by decide) (fun _ _ _ _ _=>rfl)) ((h.c4 A).other zm (fun k z=>zi a _ z) (by decide) (fun _ _ _ _ _=>rfl))
theorem CpI.s3 (h:CpI w0 gx gz S m ds D a w) (N:D 3=false) (Z:D 0=true) (L:D 2=true) {g:Nat} {r:Rw} (I:OwnR w w0.heap.size 9 1 ⟨some ⟨g,0,none⟩,0⟩ 0 []) (V:OwnR w' w0.heap.size 9 1 r m.rq.length (m.rq.map .string)) (O:w.grownBy w' (some g)):CpI w0 gx gz S m ds (fun j=>D j||decide (j=3)) (a.put (some 6) (.slice r.a m.rq.length r.cap)) w':=by
 have A:=h.no21 (by decide) N
 obtain⟨_,_,cu,J⟩:=I.typed (k:=g) rfl
 have z: ∀(e:TypeId),e≠9→∀(k:Nat) (H:Array Value),w0.heap.size≤k→k<w.heap.size→w.heap[k]? =some (.cells H e (0,0))→w'.heap[k]? =w.heap[k]?:=fun e X k H _ L M=>O.block k L fun Y=>by
  have:k=g:=Option.some.inj Y
  rw[this,J] at M
  simp only[Option.some.injEq,Obj.cells.injEq] at M
  exact X M.2.1.symm
 have hb:Below w0.heap.size w0 w':=(h.nb A).grown O (h.nb A).size fun j U=>by
  have:j=g:=(Option.some.inj U).symm
  rw[this]
  exact (I.typed (k:=g) rfl).1
 exact h.go (i:=3) (by decide) N _ hb ((h.c0 A).s3 zm or_self (fun k z=>zi a _ z) (zaj _ (by rw[h.sz];decide)) V Z L) ((h.c1 A).other zm (fun k z=>zi a _ z) (by decide) (z _ (by decide))) ((h.c2 A).other zm (fun k z=>zi a _ z) (by decide) (z _ (by decide))) ((h.c3 A).other zm (fun k z=>zi a _ z) (by decide) (z _ (by decide))) ((h.c4 A).other zm (fun k z=>zi a _ z) (by decide) (z _ (by decide)))
theorem CpI.s4 (h:CpI w0 gx gz S m ds D a w) (J:D 4=false):CpI w0 gx gz S m ds (fun j=>D j||decide (j=4)) (a.put (some 7) (.slice (some ⟨w.heap.size,0,none⟩) 0 0)) (w.alloc (.cells #[] 84)):=by
 have H:=h.no21 (by decide) J
 have I:=h.nb H
 exact h.go (i:=4) (by decide) J _ (I.alloc I.size _) ((h.c0 H).other zm (fun k z=>zi a _ z) (by decide) (fun k _ _ A _=>zbu w _ A)) ((h.c1 H).s0 zm or_self (fun k z=>zi a _ z) (zaj _ (by rw[h.sz];decide)) (World.ownsRow_lit w #[] 0 I.size (by unfold maxLen;omega) rfl)) ((h.c2 H).other zm (fun k z=>zi a _ z) (by decide) (fun k _ _ A _=>zbu w _ A)) ((h.c3 H).other zm (fun k z=>zi a _ z) (by decide) (fun k _ _ A _=>zbu w _ A)) ((h.c4 H).other zm (fun k z=>zi a _ z) (by decide) (fun k _ _ A _=>zbu w _ A))
theorem CpI.s5 (h:CpI w0 gx gz S m ds D a w) (H:D 5=false):CpI w0 gx gz S m ds (fun j=>D j||decide (j=5)) (a.put (some 8) (.pointer (some ⟨gx,1,none⟩))) w:=by
 have A:=h.no21 (by decide) H
 exact h.go (i:=5) (by decide) H _ (h.nb A) ((h.c0 A).other zm (fun k z=>zi a _ z) (by decide) (fun _ _ _ _ _=>rfl)) ((h.c1 A).s1 zm or_self (fun k z=>zi a _ z) (zaj _ (by rw[h.sz];decide))) ((h.c2 A).other zm (fun k z=>zi a _ z) (by decide) (fun _ _ _ _ _=>rfl)) ((h.c3 A).other zm (fun k z=>zi a _ z) (by decide) (fun _ _ _ _ _=>rfl)) ((h.c4 A).other zm (fun k z=>zi a _ z) (by decide) (fun _ _ _ _ _=>rfl))
theorem CpI.s6 (h:CpI w0 gx gz S m ds D a w) (H:D 6=false) (I:D 5=true):CpI w0 gx gz S m ds (fun j=>D j||decide (j=6)) (a.put (some 9) (.slice S.im.a m.im.length S.im.cap)) w:=by
 have A:=h.no21 (by decide) H
 exact h.go (i:=6) (by decide) H _ (h.nb A) ((h.c0 A).other zm (fun k z=>zi a _ z) (by decide) (fun _ _ _ _ _=>rfl)) ((h.c1 A).s2 zm or_self (fun k z=>zi a _ z) (zaj _ (by rw[h.sz];decide)) I) ((h.c2 A).other zm (fun k z=>zi a _ z) (by decide) (fun _ _ _ _ _=>rfl)) ((h.c3 A).other zm (fun k z=>zi a _ z) (by decide) (fun _ _ _ _ _=>rfl)) ((h.c4 A).other zm (fun k z=>zi a _ z) (by decide) (fun _ _ _ _ _=>rfl))
theorem CpI.s7 (h:CpI w0 gx gz S m ds D a w) (N:D 7=false) (Z:D 4=true) (L:D 6=true) {g:Nat} {r:Rw} (I:OwnR w w0.heap.size 84 3 ⟨some ⟨g,0,none⟩,0⟩ 0 []) (V:OwnR w' w0.heap.size 84 3 r m.im.length (m.im.flatMap imL)) (O:w.grownBy w' (some g)):CpI w0 gx gz S m ds (fun j=>D j||decide (j=7)) (a.put (some 10) (.slice r.a m.im.length r.cap)) w':=by
 have A:=h.no21 (by decide) N
 obtain⟨_,_,cu,J⟩:=I.typed (k:=g) rfl
 have z: ∀(e:TypeId),e≠84→∀(k:Nat) (H:Array Value),w0.heap.size≤k→k<w.heap.size→w.heap[k]? =some (.cells H e (0,0))→w'.heap[k]? =w.heap[k]?:=fun e X k H _ L M=>O.block k L fun Y=>by
  have:k=g:=Option.some.inj Y
  rw[this,J] at M
  simp only[Option.some.injEq,Obj.cells.injEq] at M
  exact X M.2.1.symm
 have hb:Below w0.heap.size w0 w':=(h.nb A).grown O (h.nb A).size fun j U=>by
  have:j=g:=(Option.some.inj U).symm
  rw[this]
  exact (I.typed (k:=g) rfl).1
 exact h.go (i:=7) (by decide) N _ hb ((h.c0 A).other zm (fun k z=>zi a _ z) (by decide) (z _ (by decide))) ((h.c1 A).s3 zm or_self (fun k z=>zi a _ z) (zaj _ (by rw[h.sz];decide)) V Z L) ((h.c2 A).other zm (fun k z=>zi a _ z) (by decide) (z _ (by decide))) ((h.c3 A).other zm (fun k z=>zi a _ z) (by decide) (z _ (by decide))) ((h.c4 A).other zm (fun k z=>zi a _ z) (by decide) (z _ (by decide)))
theorem CpI.s8 (h:CpI w0 gx gz S m ds D a w) (J:D 8=false):CpI w0 gx gz S m ds (fun j=>D j||decide (j=8)) (a.put (some 11) (.slice (some ⟨w.heap.size,0,none⟩) 0 0)) (w.alloc (.cells #[] 86)):=by
 have H:=h.no21 (by decide) J
 have I:=h.nb H
 exact h.go (i:=8) (by decide) J _ (I.alloc I.size _) ((h.c0 H).other zm (fun k z=>zi a _ z) (by decide) (fun k _ _ A _=>zbu w _ A)) ((h.c1 H).other zm (fun k z=>zi a _ z) (by decide) (fun k _ _ A _=>zbu w _ A)) ((h.c2 H).s0 zm or_self (fun k z=>zi a _ z) (zaj _ (by rw[h.sz];decide)) (World.ownsRow_lit w #[] 0 I.size (by unfold maxLen;omega) rfl)) ((h.c3 H).other zm (fun k z=>zi a _ z) (by decide) (fun k _ _ A _=>zbu w _ A)) ((h.c4 H).other zm (fun k z=>zi a _ z) (by decide) (fun k _ _ A _=>zbu w _ A))
theorem CpI.s9 (h:CpI w0 gx gz S m ds D a w) (H:D 9=false):CpI w0 gx gz S m ds (fun j=>D j||decide (j=9)) (a.put (some 12) (.pointer (some ⟨gx,2,none⟩))) w:=by
 have A:=h.no21 (by decide) H
 exact h.go (i:=9) (by decide) H _ (h.nb A) ((h.c0 A).other zm (fun k z=>zi a _ z) (by decide) (fun _ _ _ _ _=>rfl)) ((h.c1 A).other zm (fun k z=>zi a _ z) (by decide) (fun _ _ _ _ _=>rfl)) ((h.c2 A).s1 zm or_self (fun k z=>zi a _ z) (zaj _ (by rw[h.sz];decide))) ((h.c3 A).other zm (fun k z=>zi a _ z) (by decide) (fun _ _ _ _ _=>rfl)) ((h.c4 A).other zm (fun k z=>zi a _ z) (by decide) (fun _ _ _ _ _=>rfl))
theorem CpI.s10 (h:CpI w0 gx gz S m ds D a w) (H:D 10=false) (I:D 9=true):CpI w0 gx gz S m ds (fun j=>D j||decide (j=10)) (a.put (some 13) (.slice S.ep.a m.ep.length S.ep.cap)) w:=by
 have A:=h.no21 (by decide) H
 exact h.go (i:=10) (by decide) H _ (h.nb A) ((h.c0 A).other zm (fun k z=>zi a _ z) (by decide) (fun _ _ _ _ _=>rfl)) ((h.c1 A).other zm (fun k z=>zi a _ z) (by decide) (fun _ _ _ _ _=>rfl)) ((h.c2 A).s2 zm or_self (fun k z=>zi a _ z) (zaj _ (by rw[h.sz];decide)) I) ((h.c3 A).other zm (fun k z=>zi a _ z) (by decide) (fun _ _ _ _ _=>rfl)) ((h.c4 A).other zm (fun k z=>zi a _ z) (by decide) (fun _ _ _ _ _=>rfl))
theorem CpI.s11 (h:CpI w0 gx gz S m ds D a w) (N:D 11=false) (Z:D 8=true) (L:D 10=true) {g:Nat} {r:Rw} (I:OwnR w w0.heap.size 86 4 ⟨some ⟨g,0,none⟩,0⟩ 0 []) (V:OwnR w' w0.heap.size 86 4 r m.ep.length (m.ep.flatMap epL)) (O:w.grownBy w' (some g)):CpI w0 gx gz S m ds (fun j=>D j||decide (j=11)) (a.put (some 14) (.slice r.a m.ep.length r.cap)) w':=by
 have A:=h.no21 (by decide) N
 obtain⟨_,_,cu,J⟩:=I.typed (k:=g) rfl
 have z: ∀(e:TypeId),e≠86→∀(k:Nat) (H:Array Value),w0.heap.size≤k→k<w.heap.size→w.heap[k]? =some (.cells H e (0,0))→w'.heap[k]? =w.heap[k]?:=fun e X k H _ L M=>O.block k L fun Y=>by
  have:k=g:=Option.some.inj Y
  rw[this,J] at M
  simp only[Option.some.injEq,Obj.cells.injEq] at M
  exact X M.2.1.symm
 have hb:Below w0.heap.size w0 w':=(h.nb A).grown O (h.nb A).size fun j U=>by
  have:j=g:=(Option.some.inj U).symm
  rw[this]
  exact (I.typed (k:=g) rfl).1
 exact h.go (i:=11) (by decide) N _ hb ((h.c0 A).other zm (fun k z=>zi a _ z) (by decide) (z _ (by decide))) ((h.c1 A).other zm (fun k z=>zi a _ z) (by decide) (z _ (by decide))) ((h.c2 A).s3 zm or_self (fun k z=>zi a _ z) (zaj _ (by rw[h.sz];decide)) V Z L) ((h.c3 A).other zm (fun k z=>zi a _ z) (by decide) (z _ (by decide))) ((h.c4 A).other zm (fun k z=>zi a _ z) (by decide) (z _ (by decide)))
theorem CpI.s12 (h:CpI w0 gx gz S m ds D a w) (J:D 12=false):CpI w0 gx gz S m ds (fun j=>D j||decide (j=12)) (a.put (some 15) (.slice (some ⟨w.heap.size,0,none⟩) 0 0)) (w.alloc (.cells #[] 107)):=by
 have H:=h.no21 (by decide) J
 have I:=h.nb H
 exact h.go (i:=12) (by decide) J _ (I.alloc I.size _) ((h.c0 H).other zm (fun k z=>zi a _ z) (by decide) (fun k _ _ A _=>zbu w _ A)) ((h.c1 H).other zm (fun k z=>zi a _ z) (by decide) (fun k _ _ A _=>zbu w _ A)) ((h.c2 H).other zm (fun k z=>zi a _ z) (by decide) (fun k _ _ A _=>zbu w _ A)) ((h.c3 H).s0 zm or_self (fun k z=>zi a _ z) (zaj _ (by rw[h.sz];decide)) (World.ownsRow_lit w #[] 0 I.size (by unfold maxLen;omega) rfl)) ((h.c4 H).other zm (fun k z=>zi a _ z) (by decide) (fun k _ _ A _=>zbu w _ A))
theorem CpI.s13 (h:CpI w0 gx gz S m ds D a w) (H:D 13=false):CpI w0 gx gz S m ds (fun j=>D j||decide (j=13)) (a.put (some 16) (.pointer (some ⟨gx,3,none⟩))) w:=by
 have A:=h.no21 (by decide) H
 exact h.go (i:=13) (by decide) H _ (h.nb A) ((h.c0 A).other zm (fun k z=>zi a _ z) (by decide) (fun _ _ _ _ _=>rfl)) ((h.c1 A).other zm (fun k z=>zi a _ z) (by decide) (fun _ _ _ _ _=>rfl)) ((h.c2 A).other zm (fun k z=>zi a _ z) (by decide) (fun _ _ _ _ _=>rfl)) ((h.c3 A).s1 zm or_self (fun k z=>zi a _ z) (zaj _ (by rw[h.sz];decide))) ((h.c4 A).other zm (fun k z=>zi a _ z) (by decide) (fun _ _ _ _ _=>rfl))
theorem CpI.s14 (h:CpI w0 gx gz S m ds D a w) (H:D 14=false) (I:D 13=true):CpI w0 gx gz S m ds (fun j=>D j||decide (j=14)) (a.put (some 17) (.slice S.st.a m.st.length S.st.cap)) w:=by
 have A:=h.no21 (by decide) H
 exact h.go (i:=14) (by decide) H _ (h.nb A) ((h.c0 A).other zm (fun k z=>zi a _ z) (by decide) (fun _ _ _ _ _=>rfl)) ((h.c1 A).other zm (fun k z=>zi a _ z) (by decide) (fun _ _ _ _ _=>rfl)) ((h.c2 A).other zm (fun k z=>zi a _ z) (by decide) (fun _ _ _ _ _=>rfl)) ((h.c3 A).s2 zm or_self (fun k z=>zi a _ z) (zaj _ (by rw[h.sz];decide)) I) ((h.c4 A).other zm (fun k z=>zi a _ z) (by decide) (fun _ _ _ _ _=>rfl))
theorem CpI.s15 (h:CpI w0 gx gz S m ds D a w) (N:D 15=false) (Z:D 12=true) (L:D 14=true) {g:Nat} {r:Rw} (I:OwnR w w0.heap.size 107 3 ⟨some ⟨g,0,none⟩,0⟩ 0 []) (V:OwnR w' w0.heap.size 107 3 r m.st.length (m.st.flatMap smL)) (O:w.grownBy w' (some g)):CpI w0 gx gz S m ds (fun j=>D j||decide (j=15)) (a.put (some 18) (.slice r.a m.st.length r.cap)) w':=by
 have A:=h.no21 (by decide) N
 obtain⟨_,_,cu,J⟩:=I.typed (k:=g) rfl
 have z: ∀(e:TypeId),e≠107→∀(k:Nat) (H:Array Value),w0.heap.size≤k→k<w.heap.size→w.heap[k]? =some (.cells H e (0,0))→w'.heap[k]? =w.heap[k]?:=fun e X k H _ L M=>O.block k L fun Y=>by
  have:k=g:=Option.some.inj Y
  rw[this,J] at M
  simp only[Option.some.injEq,Obj.cells.injEq] at M
  exact X M.2.1.symm
 have hb:Below w0.heap.size w0 w':=(h.nb A).grown O (h.nb A).size fun j U=>by
  have:j=g:=(Option.some.inj U).symm
  rw[this]
  exact (I.typed (k:=g) rfl).1
 exact h.go (i:=15) (by decide) N _ hb ((h.c0 A).other zm (fun k z=>zi a _ z) (by decide) (z _ (by decide))) ((h.c1 A).other zm (fun k z=>zi a _ z) (by decide) (z _ (by decide))) ((h.c2 A).other zm (fun k z=>zi a _ z) (by decide) (z _ (by decide))) ((h.c3 A).s3 zm or_self (fun k z=>zi a _ z) (zaj _ (by rw[h.sz];decide)) V Z L) ((h.c4 A).other zm (fun k z=>zi a _ z) (by decide) (z _ (by decide)))
theorem CpI.s16 (h:CpI w0 gx gz S m ds D a w) (J:D 16=false):CpI w0 gx gz S m ds (fun j=>D j||decide (j=16)) (a.put (some 19) (.slice (some ⟨w.heap.size,0,none⟩) 0 0)) (w.alloc (.cells #[] 109)):=by
 have H:=h.no21 (by decide) J
 have I:=h.nb H
 exact h.go (i:=16) (by decide) J _ (I.alloc I.size _) ((h.c0 H).other zm (fun k z=>zi a _ z) (by decide) (fun k _ _ A _=>zbu w _ A)) ((h.c1 H).other zm (fun k z=>zi a _ z) (by decide) (fun k _ _ A _=>zbu w _ A)) ((h.c2 H).other zm (fun k z=>zi a _ z) (by decide) (fun k _ _ A _=>zbu w _ A)) ((h.c3 H).other zm (fun k z=>zi a _ z) (by decide) (fun k _ _ A _=>zbu w _ A)) ((h.c4 H).s0 zm or_self (fun k z=>zi a _ z) (zaj _ (by rw[h.sz];decide)) (World.ownsRow_lit w #[] 0 I.size (by unfold maxLen;omega) rfl))
theorem CpI.s17 (h:CpI w0 gx gz S m ds D a w) (H:D 17=false):CpI w0 gx gz S m ds (fun j=>D j||decide (j=17)) (a.put (some 20) (.pointer (some ⟨gx,4,none⟩))) w:=by
 have A:=h.no21 (by decide) H
 exact h.go (i:=17) (by decide) H _ (h.nb A) ((h.c0 A).other zm (fun k z=>zi a _ z) (by decide) (fun _ _ _ _ _=>rfl)) ((h.c1 A).other zm (fun k z=>zi a _ z) (by decide) (fun _ _ _ _ _=>rfl)) ((h.c2 A).other zm (fun k z=>zi a _ z) (by decide) (fun _ _ _ _ _=>rfl)) ((h.c3 A).other zm (fun k z=>zi a _ z) (by decide) (fun _ _ _ _ _=>rfl)) ((h.c4 A).s1 zm or_self (fun k z=>zi a _ z) (zaj _ (by rw[h.sz];decide)))
theorem CpI.s18 (h:CpI w0 gx gz S m ds D a w) (H:D 18=false) (I:D 17=true):CpI w0 gx gz S m ds (fun j=>D j||decide (j=18)) (a.put (some 21) (.slice S.ex.a m.ex.length S.ex.cap)) w:=by
 have A:=h.no21 (by decide) H
 exact h.go (i:=18) (by decide) H _ (h.nb A) ((h.c0 A).other zm (fun k z=>zi a _ z) (by decide) (fun _ _ _ _ _=>rfl)) ((h.c1 A).other zm (fun k z=>zi a _ z) (by decide) (fun _ _ _ _ _=>rfl)) ((h.c2 A).other zm (fun k z=>zi a _ z) (by decide) (fun _ _ _ _ _=>rfl)) ((h.c3 A).other zm (fun k z=>zi a _ z) (by decide) (fun _ _ _ _ _=>rfl)) ((h.c4 A).s2 zm or_self (fun k z=>zi a _ z) (zaj _ (by rw[h.sz];decide)) I)
theorem CpI.s19 (h:CpI w0 gx gz S m ds D a w) (N:D 19=false) (Z:D 16=true) (L:D 18=true) {g:Nat} {r:Rw} (I:OwnR w w0.heap.size 109 6 ⟨some ⟨g,0,none⟩,0⟩ 0 []) (V:OwnR w' w0.heap.size 109 6 r m.ex.length (m.ex.flatMap exL)) (O:w.grownBy w' (some g)):CpI w0 gx gz S m ds (fun j=>D j||decide (j=19)) (a.put (some 22) (.slice r.a m.ex.length r.cap)) w':=by
 have A:=h.no21 (by decide) N
 obtain⟨_,_,cu,J⟩:=I.typed (k:=g) rfl
 have z: ∀(e:TypeId),e≠109→∀(k:Nat) (H:Array Value),w0.heap.size≤k→k<w.heap.size→w.heap[k]? =some (.cells H e (0,0))→w'.heap[k]? =w.heap[k]?:=fun e X k H _ L M=>O.block k L fun Y=>by
  have:k=g:=Option.some.inj Y
  rw[this,J] at M
  simp only[Option.some.injEq,Obj.cells.injEq] at M
  exact X M.2.1.symm
 have hb:Below w0.heap.size w0 w':=(h.nb A).grown O (h.nb A).size fun j U=>by
  have:j=g:=(Option.some.inj U).symm
  rw[this]
  exact (I.typed (k:=g) rfl).1
 exact h.go (i:=19) (by decide) N _ hb ((h.c0 A).other zm (fun k z=>zi a _ z) (by decide) (z _ (by decide))) ((h.c1 A).other zm (fun k z=>zi a _ z) (by decide) (z _ (by decide))) ((h.c2 A).other zm (fun k z=>zi a _ z) (by decide) (z _ (by decide))) ((h.c3 A).other zm (fun k z=>zi a _ z) (by decide) (z _ (by decide))) ((h.c4 A).s3 zm or_self (fun k z=>zi a _ z) (zaj _ (by rw[h.sz];decide)) V Z L)
theorem CpI.s20 (h:CpI w0 gx gz S m ds D a w) (Z:D 20=false) (Y:D 3=true) (X:D 7=true) (J:D 11=true) (I:D 15=true) (H:D 19=true) {S':Sv} (ho:OwnMd w w0.heap.size S' m):CpI w0 gx gz S m ds (fun j=>D j||decide (j=20)) (a.put (some 23) (zh S' m)) w:=by
 have z:D 21=false:=by
  cases h2:D 21 with
  |false=>rfl
  |true=>exact absurd (h.lt21 h2) (by rw[Z];decide)
 have L:(D 21||decide (21=20))=false:=by rw[z];rfl
 refine⟨?_,h.df,?_,?_,fun _=>h.nb z,?_,?_,?_,?_,?_,fun _ _=>⟨S',zaj _ (by rw[h.sz];decide),ho⟩,fun _ i hi=>?_,fun k=>?_,fun k=>?_⟩
 ·show (a.tmps.setIfInBounds _ _).size=24
  rw[Array.size_setIfInBounds];exact h.sz
 ·exact (zi a _ (by decide)).trans h.t1
 ·exact (zi a _ (by decide)).trans h.t2
 ·exact fun _=>(h.c0 z).other (io:=20) zm (fun k A=>zi a _ A) (by decide) (fun _ _ _ _ _=>rfl)
 ·exact fun _=>(h.c1 z).other (io:=20) zm (fun k A=>zi a _ A) (by decide) (fun _ _ _ _ _=>rfl)
 ·exact fun _=>(h.c2 z).other (io:=20) zm (fun k A=>zi a _ A) (by decide) (fun _ _ _ _ _=>rfl)
 ·exact fun _=>(h.c3 z).other (io:=20) zm (fun k A=>zi a _ A) (by decide) (fun _ _ _ _ _=>rfl)
 ·exact fun _=>(h.c4 z).other (io:=20) zm (fun k A=>zi a _ A) (by decide) (fun _ _ _ _ _=>rfl)
 ·rw[zm i (by omega)]
  have M:=(h.c0 z).q3 Y
  have N:=(h.c1 z).q3 X
  have V:=(h.c2 z).q3 J
  have O:=(h.c3 z).q3 I
  have U:=(h.c4 z).q3 H
  have p0:=(h.c0 z).q2 M.2
  have p1:=(h.c1 z).q2 N.2
  have p2:=(h.c2 z).q2 V.2
  have p3:=(h.c3 z).q2 O.2
  have p4:=(h.c4 z).q2 U.2
  obtain rfl|rfl|rfl|rfl|rfl|rfl|rfl|rfl|rfl|rfl|rfl|rfl|rfl|rfl|rfl|rfl|rfl|rfl|rfl|rfl:i=0∨i=1∨i=2∨i=3∨i=4∨i=5∨i=6∨i=7∨i=8∨i=9∨i=10∨i=11∨i=12∨i=13∨i=14∨i=15∨i=16∨i=17∨i=18∨i=19:=by omega
  ·exact M.1
  ·exact p0
  ·exact M.2
  ·exact Y
  ·exact N.1
  ·exact p1
  ·exact N.2
  ·exact X
  ·exact V.1
  ·exact p2
  ·exact V.2
  ·exact J
  ·exact O.1
  ·exact p3
  ·exact O.2
  ·exact I
  ·exact U.1
  ·exact p4
  ·exact U.2
  ·exact H
 ·exact absurd (L.symm.trans k) (by decide)
 ·exact absurd (L.symm.trans k) (by decide)
theorem CpI.s21 (h:CpI w0 gx gz S m ds D a w) (A:D 20=true) {S':Sv} (H:OwnMd w w0.heap.size S' m) (I:Below w0.heap.size w0 w):CpI w0 gx gz S m ds (fun j=>D j||decide (j=21)) a (((((w.setCell ⟨gz,0,none⟩ (.slice S'.rq.a m.rq.length S'.rq.cap)).setCell ⟨gz,1,none⟩ (.slice S'.im.a m.im.length S'.im.cap)).setCell ⟨gz,2,none⟩ (.slice S'.ep.a m.ep.length S'.ep.cap)).setCell ⟨gz,3,none⟩ (.slice S'.st.a m.st.length S'.st.cap)).setCell ⟨gz,4,none⟩ (.slice S'.ex.a m.ex.length S'.ex.cap)):=by
 have z: ∀{p:Prop},(D 21||decide (21=21))=false→p:=fun k=>by simp at k
 exact⟨h.sz,h.df,h.t1,h.t2,fun k=>z k,fun k=>z k,fun k=>z k,fun k=>z k,fun k=>z k,fun k=>z k,fun _ k=>z k,fun _ i J=>by rw[zm i (by omega)];exact h.lt20 A i J,fun _=>by rw[zm 20 (by decide)];exact A,fun _=>⟨S',w,rfl,H,I⟩⟩
end
end Go.Proofs.YtjdddblpfbmpaaaGreat