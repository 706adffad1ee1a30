/-
 What spec.l14Copy answers,in whatever order it copies the five rows: the walk.
-/
import Derived.Test.YtjdddblpfbmpaaaGreatCmOrderInv
import Derived.Test.YtjdddblpfbmpaaaGreatCmStepRows
import Derived.Test.YtjdddblpfbmpaaaGreatCmMdAside
namespace Go.Proofs.YtjdddblpfbmpaaaGreat
open Go.RowKit Go.PlainAid Go.Sort
structure Chn (e:TypeId) (size B gx f:Nat) (src:Rw) (n:Nat) (xs:List Value) (i:Nat) (D:Nat→Bool) (T:Nat→Option Value) (w:World):Prop where
 b0:D i=true→D (i+3)=false→∃g,T (i+3)=some (.slice (some ⟨g,0,none⟩) 0 0)∧OwnR w B e size ⟨some ⟨g,0,none⟩,0⟩ 0 []
 b1:D (i+1)=true→T (i+4)=some (.pointer (some ⟨gx,f,none⟩))
 b2:D (i+2)=true→T (i+5)=some (.slice src.a n src.cap)
 b3:D (i+3)=true→∃r,T (i+6)=some (.slice r.a n r.cap)∧OwnR w B e size r n xs
 q2:D (i+2)=true→D (i+1)=true
 q3:D (i+3)=true→D i=true∧D (i+2)=true
section
variable {e:TypeId} {size B gx f n i io:Nat} {src:Rw} {xs:List Value} {D D':Nat→Bool} {T T':Nat→Option Value} {w w':World}
theorem Chn.other (h:Chn e size B gx f src n xs i D T w) (I: ∀j,j≠io→D' j=D j) (H: ∀k,k≠io+3→T' k=T k) (aa:io<i∨i+3<io) (Z: ∀k q,B≤k→k<w.heap.size→w.heap[k]? =some (.cells q e (0,0))→w'.heap[k]? =w.heap[k]?):Chn e size B gx f src n xs i D' T' w':=by
 have N: ∀{r:Rw} {n:Nat} {xs:List Value},OwnR w B e size r n xs→OwnR w' B e size r n xs:=fun O=>O.keep fun k g=>by
  obtain⟨A,z,q,h3⟩:=O.typed g
  exact Z k q A z h3
 have M:=I i (by omega)
 have U:=I (i+1) (by omega)
 have J:=I (i+2) (by omega)
 have L:=I (i+3) (by omega)
 have t0:=H (i+3) (by omega)
 have V:=H (i+4) (by omega)
 have X:=H (i+5) (by omega)
 have Y:=H (i+6) (by omega)
 refine⟨fun a b=>?_,fun a=>?_,fun a=>?_,fun a=>?_,fun a=>?_,fun a=>?_⟩
 ·obtain⟨g,A,z⟩:=h.b0 (M▸a) (L▸b)
  exact⟨g,t0.trans A,N z⟩
 ·exact V.trans (h.b1 (U▸a))
 ·exact X.trans (h.b2 (J▸a))
 ·obtain⟨r,A,z⟩:=h.b3 (L▸a)
  exact⟨r,Y.trans A,N z⟩
 ·rw[U];exact h.q2 (J▸a)
 ·rw[M,J];exact h.q3 (L▸a)
theorem Chn.s0 (h:Chn e size B gx f src n xs i D T w) (A: ∀j,j≠i→D' j=D j) (O:D' i=true) (z: ∀k,k≠i+3→T' k=T k) (L:T' (i+3)=some (.slice (some ⟨w.heap.size,0,none⟩) 0 0)) (J:OwnR (w.alloc (.cells #[] e)) B e size ⟨some ⟨w.heap.size,0,none⟩,0⟩ 0 []):Chn e size B gx f src n xs i D' T' (w.alloc (.cells #[] e)):=by
 have I:=A (i+1) (by omega)
 have q:=A (i+2) (by omega)
 have H:=A (i+3) (by omega)
 refine⟨fun _ _=>⟨_,L,J⟩,fun a=>(z (i+4) (by omega)).trans (h.b1 (I▸a)),fun a=>(z (i+5) (by omega)).trans (h.b2 (q▸a)),fun a=>?_,fun a=>by rw[I];exact h.q2 (q▸a),fun a=>⟨O,by rw[q];exact (h.q3 (H▸a)).2⟩⟩
 obtain⟨r,N,M⟩:=h.b3 (H▸a)
 exact⟨r,(z (i+6) (by omega)).trans N,M.alloc _⟩
theorem Chn.s1 (h:Chn e size B gx f src n xs i D T w) (I: ∀j,j≠i+1→D' j=D j) (N:D' (i+1)=true) (A: ∀k,k≠i+4→T' k=T k) (M:T' (i+4)=some (.pointer (some ⟨gx,f,none⟩))):Chn e size B gx f src n xs i D' T' w:=by
 have L:=I i (by omega)
 have J:=I (i+2) (by omega)
 have q:=I (i+3) (by omega)
 refine⟨fun a b=>?_,fun _=>M,fun a=>(A (i+5) (by omega)).trans (h.b2 (J▸a)),fun a=>?_,fun _=>N,fun a=>by rw[L,J];exact h.q3 (q▸a)⟩
 ·obtain⟨g,H,z⟩:=h.b0 (L▸a) (q▸b)
  exact⟨g,(A (i+3) (by omega)).trans H,z⟩
 ·obtain⟨r,H,z⟩:=h.b3 (q▸a)
  exact⟨r,(A (i+6) (by omega)).trans H,z⟩
theorem Chn.s2 (h:Chn e size B gx f src n xs i D T w) (I: ∀j,j≠i+2→D' j=D j) (O:D' (i+2)=true) (A: ∀k,k≠i+5→T' k=T k) (N:T' (i+5)=some (.slice src.a n src.cap)) (M:D (i+1)=true):Chn e size B gx f src n xs i D' T' w:=by
 have J:=I i (by omega)
 have L:=I (i+1) (by omega)
 have q:=I (i+3) (by omega)
 refine⟨fun a b=>?_,fun a=>(A (i+4) (by omega)).trans (h.b1 (L▸a)),fun _=>N,fun a=>?_,fun _=>L.trans M,fun a=>⟨by rw[J];exact (h.q3 (q▸a)).1,O⟩⟩
 ·obtain⟨g,H,z⟩:=h.b0 (J▸a) (q▸b)
  exact⟨g,(A (i+3) (by omega)).trans H,z⟩
 ·obtain⟨r,H,z⟩:=h.b3 (q▸a)
  exact⟨r,(A (i+6) (by omega)).trans H,z⟩
theorem Chn.s3 (h:Chn e size B gx f src n xs i D T w) (z: ∀j,j≠i+3→D' j=D j) (O:D' (i+3)=true) (A: ∀k,k≠i+6→T' k=T k) {r:Rw} (L:T' (i+6)=some (.slice r.a n r.cap)) (J:OwnR w' B e size r n xs) (N:D i=true) (M:D (i+2)=true):Chn e size B gx f src n xs i D' T' w':=by
 have I:=z i (by omega)
 have H:=z (i+1) (by omega)
 have q:=z (i+2) (by omega)
 exact⟨fun _ b=>(by rw[O] at b;cases b),fun a=>(A (i+4) (by omega)).trans (h.b1 (H▸a)),fun a=>(A (i+5) (by omega)).trans (h.b2 (q▸a)),fun _=>⟨r,L,J⟩,fun a=>by rw[H];exact h.q2 (q▸a),fun _=>⟨by rw[I];exact N,by rw[q];exact M⟩⟩
end
theorem zru:(Tryz.prog.info? 9).map (fun i=>(i.zero.map fun z=>z.cells.size,i.size,i.bytes))=some (some 1,1,16):=by kernel_rfl
theorem zrv:(Tryz.prog.info? 84).map (fun i=>(i.zero.map fun z=>z.cells.size,i.size,i.bytes))=some (some 3,3,48):=by kernel_rfl
theorem zrw:(Tryz.prog.info? 86).map (fun i=>(i.zero.map fun z=>z.cells.size,i.size,i.bytes))=some (some 4,4,56):=by kernel_rfl
theorem zrx:(Tryz.prog.info? 107).map (fun i=>(i.zero.map fun z=>z.cells.size,i.size,i.bytes))=some (some 3,3,32):=by kernel_rfl
theorem zry:(Tryz.prog.info? 109).map (fun i=>(i.zero.map fun z=>z.cells.size,i.size,i.bytes))=some (some 6,6,64):=by kernel_rfl
structure CpI (w0:World) (gx gz:Nat) (S:Sv) (m:Md) (ds:List Deferred) (D:Nat→Bool) (a:Act) (w:World):Prop where
 sz:a.tmps.size=24
 df:a.defers=ds
 t1:a.tmps[1]? =some (.pointer (some ⟨gx,0,none⟩))
 t2:a.tmps[2]? =some (.pointer (some ⟨gz,0,none⟩))
 nb:D 21=false→Below w0.heap.size w0 w
 c0:D 21=false→Chn 9 1 w0.heap.size gx 0 S.rq m.rq.length (m.rq.map .string) 0 D (fun k=>a.tmps[k]?) w
 c1:D 21=false→Chn 84 3 w0.heap.size gx 1 S.im m.im.length (m.im.flatMap imL) 4 D (fun k=>a.tmps[k]?) w
 c2:D 21=false→Chn 86 4 w0.heap.size gx 2 S.ep m.ep.length (m.ep.flatMap epL) 8 D (fun k=>a.tmps[k]?) w
 c3:D 21=false→Chn 107 3 w0.heap.size gx 3 S.st m.st.length (m.st.flatMap smL) 12 D (fun k=>a.tmps[k]?) w
 c4:D 21=false→Chn 109 6 w0.heap.size gx 4 S.ex m.ex.length (m.ex.flatMap exL) 16 D (fun k=>a.tmps[k]?) w
 b20:D 20=true→D 21=false→∃S',a.tmps[23]? =some (zp S' m)∧OwnMd w w0.heap.size S' m
 lt20:D 20=true→∀i,i<20→D i=true
 lt21:D 21=true→D 20=true
 fin:D 21=true→∃S' w1,w=((((w1.setCell ⟨gz,0,none⟩ (.slice S'.rq.a m.rq.length S'.rq.cap)).setCell ⟨gz,1,none⟩ (.slice S'.im.a m.im.length S'.im.cap)).setCell ⟨gz,2,none⟩ (.slice S'.ep.a m.ep.length S'.ep.cap)).setCell ⟨gz,3,none⟩ (.slice S'.st.a m.st.length S'.st.cap)).setCell ⟨gz,4,none⟩ (.slice S'.ex.a m.ex.length S'.ex.cap)∧OwnMd w1 w0.heap.size S' m∧Below w0.heap.size w0 w1
section
variable {w0 w w':World} {gx gz:Nat} {S:Sv} {m:Md} {ds:List Deferred} {D:Nat→Bool} {a:Act}
theorem CpI.go (h:CpI w0 gx gz S m ds D a w) {i:Nat} (V:i<20) (J:D i=false) (v:Value) (U:Below w0.heap.size w0 w')
  (N:Chn 9 1 w0.heap.size gx 0 S.rq m.rq.length (m.rq.map .string) 0 (fun j=>D j||decide (j=i)) (fun k=>(a.put (some (i+3)) v).tmps[k]?) w')
  (M:Chn 84 3 w0.heap.size gx 1 S.im m.im.length (m.im.flatMap imL) 4 (fun j=>D j||decide (j=i)) (fun k=>(a.put (some (i+3)) v).tmps[k]?) w')
  (z:Chn 86 4 w0.heap.size gx 2 S.ep m.ep.length (m.ep.flatMap epL) 8 (fun j=>D j||decide (j=i)) (fun k=>(a.put (some (i+3)) v).tmps[k]?) w')
  (O:Chn 107 3 w0.heap.size gx 3 S.st m.st.length (m.st.flatMap smL) 12 (fun j=>D j||decide (j=i)) (fun k=>(a.put (some (i+3)) v).tmps[k]?) w')
  (L:Chn 109 6 w0.heap.size gx 4 S.ex m.ex.length (m.ex.flatMap exL) 16 (fun j=>D j||decide (j=i)) (fun k=>(a.put (some (i+3)) v).tmps[k]?) w')
  :CpI w0 gx gz S m ds (fun j=>D j||decide (j=i)) (a.put (some (i+3)) v) w':=by
 have q:D 20=false:=by
  cases z:D 20 with
  |false=>rfl
  |true=>exact absurd (h.lt20 z i V) (by rw[J];decide)
 have I:D 21=false:=by
  cases z:D 21 with
  |false=>rfl
  |true=>exact absurd (h.lt21 z) (by rw[q];decide)
 have A:(D 20||decide (20=i))=false:=by rw[q,decide_eq_false (by omega)];rfl
 have H:(D 21||decide (21=i))=false:=by rw[I,decide_eq_false (by omega)];rfl
 refine⟨?_,h.df,?_,?_,fun _=>U,fun _=>N,fun _=>M,fun _=>z,fun _=>O,fun _=>L,fun k=>?_,fun k=>?_,fun k=>?_,fun k=>?_⟩
 ·show (a.tmps.setIfInBounds _ _).size=24
  rw[Array.size_setIfInBounds];exact h.sz
 ·show (a.tmps.setIfInBounds _ _)[1]? =_
  rw[Array.getElem?_setIfInBounds_ne (by omega)];exact h.t1
 ·show (a.tmps.setIfInBounds _ _)[2]? =_
  rw[Array.getElem?_setIfInBounds_ne (by omega)];exact h.t2
 ·exact absurd (A.symm.trans k) (by decide)
 ·exact absurd (A.symm.trans k) (by decide)
 ·exact absurd (H.symm.trans k) (by decide)
 ·exact absurd (H.symm.trans k) (by decide)
theorem CpI.no21 (h:CpI w0 gx gz S m ds D a w) {i:Nat} (q:i<20) (j:D i=false):D 21=false:=by
 cases z:D 21 with
 |false=>rfl
 |true=>exact absurd (h.lt20 (h.lt21 z) i q) (by rw[j];decide)
theorem zm (a:Act) (v:Value) {i k:Nat} (h:k≠i):(a.put (some i) v).tmps[k]? =a.tmps[k]?:=by
 show (a.tmps.setIfInBounds _ _)[k]? =_
 exact Array.getElem?_setIfInBounds_ne (fun e=>h e.symm)
theorem zbm {a:Act} (v:Value) {i:Nat} (h:i<a.tmps.size):(a.put (some i) v).tmps[i]? =some v:=by
 show (a.tmps.setIfInBounds _ _)[i]? =_
 exact Array.getElem?_setIfInBounds_self_of_lt h
theorem zk {D:Nat→Bool} {i:Nat}: ∀j,j≠i→(D j||decide (j=i))=D j:=fun j h=>by rw[decide_eq_false h,Bool.or_false]
theorem or_self {D:Nat→Bool} {i:Nat}:(D i||decide (i=i))=true:=by simp
theorem zbY {P:Program} {o:Oper} {a:Act} {w w':World} {v:Value} {K:Act→World→Prop} {Q:Exit→Act→World→Prop} (j:(execOp a.eval o).run P w= .ok (.value v) w') (h:K (a.put o.dst v) w'):o.wp P a w K Q:=by
 unfold Oper.wp
 rw[j]
 exact h
theorem zby (w:World) (o:Obj) {k:Nat} (h:k<w.heap.size):(w.alloc o).heap[k]? =w.heap[k]?:=heap_alloc_old w o h
theorem CpI.s0 (h:CpI w0 gx gz S m ds D a w) (I:D 0=false):CpI w0 gx gz S m ds (fun j=>D j||decide (j=0)) (a.put (some 3) (.slice (some ⟨w.heap.size,0,none⟩) 0 0)) (w.alloc (.cells #[] 9)):=by
 have A:=h.no21 (by decide) I
 have H:=h.nb A
 exact h.go (i:=0) (by decide) I _ (H.alloc H.size _) ((h.c0 A).s0 zk or_self (fun k q=>zm a _ q) (zbm _ (by rw[h.sz];decide)) (World.ownsRow_lit w #[] 0 H.size (by unfold maxLen;omega) rfl)) ((h.c1 A).other zk (fun k q=>zm a _ q) (by decide) (fun k _ _ z _=>zby w _ z)) ((h.c2 A).other zk (fun k q=>zm a _ q) (by decide) (fun k _ _ z _=>zby w _ z)) ((h.c3 A).other zk (fun k q=>zm a _ q) (by decide) (fun k _ _ z _=>zby w _ z)) ((h.c4 A).other zk (fun k q=>zm a _ q) (by decide) (fun k _ _ z _=>zby w _ z))
theorem CpI.s1 (h:CpI w0 gx gz S m ds D a w) (A:D 1=false):CpI w0 gx gz S m ds (fun j=>D j||decide (j=1)) (a.put (some 4) (.pointer (some ⟨gx,0,none⟩))) w:=by
 have z:=h.no21 (by decide) A
 exact h.go (i:=1) (by decide) A _ (h.nb z) ((h.c0 z).s1 zk or_self (fun k q=>zm a _ q) (zbm _ (by rw[h.sz];decide))) ((h.c1 z).other zk (fun k q=>zm a _ q) (by decide) (fun _ _ _ _ _=>rfl)) ((h.c2 z).other zk (fun k q=>zm a _ q) (by decide) (fun _ _ _ _ _=>rfl)) ((h.c3 z).other zk (fun k q=>zm a _ q) (by decide) (fun _ _ _ _ _=>rfl)) ((h.c4 z).other zk (fun k q=>zm a _ q) (by decide) (fun _ _ _ _ _=>rfl))
theorem CpI.s2 (h:CpI w0 gx gz S m ds D a w) (A:D 2=false) (H:D 1=true):CpI w0 gx gz S m ds (fun j=>D j||decide (j=2)) (a.put (some 5) (.slice S.rq.a m.rq.length S.rq.cap)) w:=by
 have z:=h.no21 (by decide) A
 exact h.go (i:=2) (by decide) A _ (h.nb z) ((h.c0 z).s2 zk or_self (fun k q=>zm a _ q) (zbm _ (by rw[h.sz];decide)) H) ((h.c1 z).other zk (fun k q=>zm a _ q) (by decide) (fun _ _ _ _ _=>rfl)) ((h.c2 z).other zk (fun k q=>zm a _ q) (by decide) (fun _ _ _ _ _=>rfl)) ((h.c3 z).other zk (fun k q=>zm a _ q) (by decide) (fun _ _ _ _ _=>rfl)) ((h.c4 z).other zk (fun k q=>zm a _ q) (by decide) (fun _ _ _ _ _=>rfl))
theorem CpI.s3 (h:CpI w0 gx gz S m ds D a w) (M:D 3=false) (Y:D 0=true) (J:D 2=true) {g:Nat} {r:Rw} (H:OwnR w w0.heap.size 9 1 ⟨some ⟨g,0,none⟩,0⟩ 0 []) (U:OwnR w' w0.heap.size 9 1 r m.rq.length (m.rq.map .string)) (N:w.grownBy w' (some g)):CpI w0 gx gz S m ds (fun j=>D j||decide (j=3)) (a.put (some 6) (.slice r.a m.rq.length r.cap)) w':=by
 have z:=h.no21 (by decide) M
 obtain⟨_,_,cu,I⟩:=H.typed (k:=g) rfl
 have q: ∀(e:TypeId),e≠9→∀(k:Nat) (A:Array Value),w0.heap.size≤k→k<w.heap.size→w.heap[k]? =some (.cells A e (0,0))→w'.heap[k]? =w.heap[k]?:=fun e V k A _ J L=>N.block k J fun X=>by
  have:k=g:=Option.some.inj X
  rw[this,I] at L
  simp only[Option.some.injEq,Obj.cells.injEq] at L
  exact V L.2.1.symm
 have Z:Below w0.heap.size w0 w':=(h.nb z).grown N (h.nb z).size fun j O=>by
  have:j=g:=(Option.some.inj O).symm
  rw[this]
  exact (H.typed (k:=g) rfl).1
 exact h.go (i:=3) (by decide) M _ Z ((h.c0 z).s3 zk or_self (fun k q=>zm a _ q) (zbm _ (by rw[h.sz];decide)) U Y J) ((h.c1 z).other zk (fun k q=>zm a _ q) (by decide) (q _ (by decide))) ((h.c2 z).other zk (fun k q=>zm a _ q) (by decide) (q _ (by decide))) ((h.c3 z).other zk (fun k q=>zm a _ q) (by decide) (q _ (by decide))) ((h.c4 z).other zk (fun k q=>zm a _ q) (by decide) (q _ (by decide)))
theorem CpI.s4 (h:CpI w0 gx gz S m ds D a w) (I:D 4=false):CpI w0 gx gz S m ds (fun j=>D j||decide (j=4)) (a.put (some 7) (.slice (some ⟨w.heap.size,0,none⟩) 0 0)) (w.alloc (.cells #[] 84)):=by
 have A:=h.no21 (by decide) I
 have H:=h.nb A
 exact h.go (i:=4) (by decide) I _ (H.alloc H.size _) ((h.c0 A).other zk (fun k q=>zm a _ q) (by decide) (fun k _ _ z _=>zby w _ z)) ((h.c1 A).s0 zk or_self (fun k q=>zm a _ q) (zbm _ (by rw[h.sz];decide)) (World.ownsRow_lit w #[] 0 H.size (by unfold maxLen;omega) rfl)) ((h.c2 A).other zk (fun k q=>zm a _ q) (by decide) (fun k _ _ z _=>zby w _ z)) ((h.c3 A).other zk (fun k q=>zm a _ q) (by decide) (fun k _ _ z _=>zby w _ z)) ((h.c4 A).other zk (fun k q=>zm a _ q) (by decide) (fun k _ _ z _=>zby w _ z))
theorem CpI.s5 (h:CpI w0 gx gz S m ds D a w) (A:D 5=false):CpI w0 gx gz S m ds (fun j=>D j||decide (j=5)) (a.put (some 8) (.pointer (some ⟨gx,1,none⟩))) w:=by
 have z:=h.no21 (by decide) A
 exact h.go (i:=5) (by decide) A _ (h.nb z) ((h.c0 z).other zk (fun k q=>zm a _ q) (by decide) (fun _ _ _ _ _=>rfl)) ((h.c1 z).s1 zk or_self (fun k q=>zm a _ q) (zbm _ (by rw[h.sz];decide))) ((h.c2 z).other zk (fun k q=>zm a _ q) (by decide) (fun _ _ _ _ _=>rfl)) ((h.c3 z).other zk (fun k q=>zm a _ q) (by decide) (fun _ _ _ _ _=>rfl)) ((h.c4 z).other zk (fun k q=>zm a _ q) (by decide) (fun _ _ _ _ _=>rfl))
theorem CpI.s6 (h:CpI w0 gx gz S m ds D a w) (A:D 6=false) (H:D 5=true):CpI w0 gx gz S m ds (fun j=>D j||decide (j=6)) (a.put (some 9) (.slice S.im.a m.im.length S.im.cap)) w:=by
 have z:=h.no21 (by decide) A
 exact h.go (i:=6) (by decide) A _ (h.nb z) ((h.c0 z).other zk (fun k q=>zm a _ q) (by decide) (fun _ _ _ _ _=>rfl)) ((h.c1 z).s2 zk or_self (fun k q=>zm a _ q) (zbm _ (by rw[h.sz];decide)) H) ((h.c2 z).other zk (fun k q=>zm a _ q) (by decide) (fun _ _ _ _ _=>rfl)) ((h.c3 z).other zk (fun k q=>zm a _ q) (by decide) (fun _ _ _ _ _=>rfl)) ((h.c4 z).other zk (fun k q=>zm a _ q) (by decide) (fun _ _ _ _ _=>rfl))
theorem CpI.s7 (h:CpI w0 gx gz S m ds D a w) (M:D 7=false) (Y:D 4=true) (J:D 6=true) {g:Nat} {r:Rw} (H:OwnR w w0.heap.size 84 3 ⟨some ⟨g,0,none⟩,0⟩ 0 []) (U:OwnR w' w0.heap.size 84 3 r m.im.length (m.im.flatMap imL)) (N:w.grownBy w' (some g)):CpI w0 gx gz S m ds (fun j=>D j||decide (j=7)) (a.put (some 10) (.slice r.a m.im.length r.cap)) w':=by
 have z:=h.no21 (by decide) M
 obtain⟨_,_,cu,I⟩:=H.typed (k:=g) rfl
 have q: ∀(e:TypeId),e≠84→∀(k:Nat) (A:Array Value),w0.heap.size≤k→k<w.heap.size→w.heap[k]? =some (.cells A e (0,0))→w'.heap[k]? =w.heap[k]?:=fun e V k A _ J L=>N.block k J fun X=>by
  have:k=g:=Option.some.inj X
  rw[this,I] at L
  simp only[Option.some.injEq,Obj.cells.injEq] at L
  exact V L.2.1.symm
 have Z:Below w0.heap.size w0 w':=(h.nb z).grown N (h.nb z).size fun j O=>by
  have:j=g:=(Option.some.inj O).symm
  rw[this]
  exact (H.typed (k:=g) rfl).1
 exact h.go (i:=7) (by decide) M _ Z ((h.c0 z).other zk (fun k q=>zm a _ q) (by decide) (q _ (by decide))) ((h.c1 z).s3 zk or_self (fun k q=>zm a _ q) (zbm _ (by rw[h.sz];decide)) U Y J) ((h.c2 z).other zk (fun k q=>zm a _ q) (by decide) (q _ (by decide))) ((h.c3 z).other zk (fun k q=>zm a _ q) (by decide) (q _ (by decide))) ((h.c4 z).other zk (fun k q=>zm a _ q) (by decide) (q _ (by decide)))
theorem CpI.s8 (h:CpI w0 gx gz S m ds D a w) (I:D 8=false):CpI w0 gx gz S m ds (fun j=>D j||decide (j=8)) (a.put (some 11) (.slice (some ⟨w.heap.size,0,none⟩) 0 0)) (w.alloc (.cells #[] 86)):=by
 have A:=h.no21 (by decide) I
 have H:=h.nb A
 exact h.go (i:=8) (by decide) I _ (H.alloc H.size _) ((h.c0 A).other zk (fun k q=>zm a _ q) (by decide) (fun k _ _ z _=>zby w _ z)) ((h.c1 A).other zk (fun k q=>zm a _ q) (by decide) (fun k _ _ z _=>zby w _ z)) ((h.c2 A).s0 zk or_self (fun k q=>zm a _ q) (zbm _ (by rw[h.sz];decide)) (World.ownsRow_lit w #[] 0 H.size (by unfold maxLen;omega) rfl)) ((h.c3 A).other zk (fun k q=>zm a _ q) (by decide) (fun k _ _ z _=>zby w _ z)) ((h.c4 A).other zk (fun k q=>zm a _ q) (by decide) (fun k _ _ z _=>zby w _ z))
theorem CpI.s9 (h:CpI w0 gx gz S m ds D a w) (A:D 9=false):CpI w0 gx gz S m ds (fun j=>D j||decide (j=9)) (a.put (some 12) (.pointer (some ⟨gx,2,none⟩))) w:=by
 have z:=h.no21 (by decide) A
 exact h.go (i:=9) (by decide) A _ (h.nb z) ((h.c0 z).other zk (fun k q=>zm a _ q) (by decide) (fun _ _ _ _ _=>rfl)) ((h.c1 z).other zk (fun k q=>zm a _ q) (by decide) (fun _ _ _ _ _=>rfl)) ((h.c2 z).s1 zk or_self (fun k q=>zm a _ q) (zbm _ (by rw[h.sz];decide))) ((h.c3 z).other zk (fun k q=>zm a _ q) (by decide) (fun _ _ _ _ _=>rfl)) ((h.c4 z).other zk (fun k q=>zm a _ q) (by decide) (fun _ _ _ _ _=>rfl))
theorem CpI.s10 (h:CpI w0 gx gz S m ds D a w) (A:D 10=false) (H:D 9=true):CpI w0 gx gz S m ds (fun j=>D j||decide (j=10)) (a.put (some 13) (.slice S.ep.a m.ep.length S.ep.cap)) w:=by
 have z:=h.no21 (by decide) A
 exact h.go (i:=10) (by decide) A _ (h.nb z) ((h.c0 z).other zk (fun k q=>zm a _ q) (by decide) (fun _ _ _ _ _=>rfl)) ((h.c1 z).other zk (fun k q=>zm a _ q) (by decide) (fun _ _ _ _ _=>rfl)) ((h.c2 z).s2 zk or_self (fun k q=>zm a _ q) (zbm _ (by rw[h.sz];decide)) H) ((h.c3 z).other zk (fun k q=>zm a _ q) (by decide) (fun _ _ _ _ _=>rfl)) ((h.c4 z).other zk (fun k q=>zm a _ q) (by decide) (fun _ _ _ _ _=>rfl))
theorem CpI.s11 (h:CpI w0 gx gz S m ds D a w) (M:D 11=false) (Y:D 8=true) (J:D 10=true) {g:Nat} {r:Rw} (H:OwnR w w0.heap.size 86 4 ⟨some ⟨g,0,none⟩,0⟩ 0 []) (U:OwnR w' w0.heap.size 86 4 r m.ep.length (m.ep.flatMap epL)) (N:w.grownBy w' (some g)):CpI w0 gx gz S m ds (fun j=>D j||decide (j=11)) (a.put (some 14) (.slice r.a m.ep.length r.cap)) w':=by
 have z:=h.no21 (by decide) M
 obtain⟨_,_,cu,I⟩:=H.typed (k:=g) rfl
 have q: ∀(e:TypeId),e≠86→∀(k:Nat) (A:Array Value),w0.heap.size≤k→k<w.heap.size→w.heap[k]? =some (.cells A e (0,0))→w'.heap[k]? =w.heap[k]?:=fun e V k A _ J L=>N.block k J fun X=>by
  have:k=g:=Option.some.inj X
  rw[this,I] at L
  simp only[Option.some.injEq,Obj.cells.injEq] at L
  exact V L.2.1.symm
 have Z:Below w0.heap.size w0 w':=(h.nb z).grown N (h.nb z).size fun j O=>by
  have:j=g:=(Option.some.inj O).symm
  rw[this]
  exact (H.typed (k:=g) rfl).1
 exact h.go (i:=11) (by decide) M _ Z ((h.c0 z).other zk (fun k q=>zm a _ q) (by decide) (q _ (by decide))) ((h.c1 z).other zk (fun k q=>zm a _ q) (by decide) (q _ (by decide))) ((h.c2 z).s3 zk or_self (fun k q=>zm a _ q) (zbm _ (by rw[h.sz];decide)) U Y J) ((h.c3 z).other zk (fun k q=>zm a _ q) (by decide) (q _ (by decide))) ((h.c4 z).other zk (fun k q=>zm a _ q) (by decide) (q _ (by decide)))
theorem CpI.s12 (h:CpI w0 gx gz S m ds D a w) (I:D 12=false):CpI w0 gx gz S m ds (fun j=>D j||decide (j=12)) (a.put (some 15) (.slice (some ⟨w.heap.size,0,none⟩) 0 0)) (w.alloc (.cells #[] 107)):=by
 have A:=h.no21 (by decide) I
 have H:=h.nb A
 exact h.go (i:=12) (by decide) I _ (H.alloc H.size _) ((h.c0 A).other zk (fun k q=>zm a _ q) (by decide) (fun k _ _ z _=>zby w _ z)) ((h.c1 A).other zk (fun k q=>zm a _ q) (by decide) (fun k _ _ z _=>zby w _ z)) ((h.c2 A).other zk (fun k q=>zm a _ q) (by decide) (fun k _ _ z _=>zby w _ z)) ((h.c3 A).s0 zk or_self (fun k q=>zm a _ q) (zbm _ (by rw[h.sz];decide)) (World.ownsRow_lit w #[] 0 H.size (by unfold maxLen;omega) rfl)) ((h.c4 A).other zk (fun k q=>zm a _ q) (by decide) (fun k _ _ z _=>zby w _ z))
theorem CpI.s13 (h:CpI w0 gx gz S m ds D a w) (A:D 13=false):CpI w0 gx gz S m ds (fun j=>D j||decide (j=13)) (a.put (some 16) (.pointer (some ⟨gx,3,none⟩))) w:=by
 have z:=h.no21 (by decide) A
 exact h.go (i:=13) (by decide) A _ (h.nb z) ((h.c0 z).other zk (fun k q=>zm a _ q) (by decide) (fun _ _ _ _ _=>rfl)) ((h.c1 z).other zk (fun k q=>zm a _ q) (by decide) (fun _ _ _ _ _=>rfl)) ((h.c2 z).other zk (fun k q=>zm a _ q) (by decide) (fun _ _ _ _ _=>rfl)) ((h.c3 z).s1 zk or_self (fun k q=>zm a _ q) (zbm _ (by rw[h.sz];decide))) ((h.c4 z).other zk (fun k q=>zm a _ q) (by decide) (fun _ _ _ _ _=>rfl))
theorem CpI.s14 (h:CpI w0 gx gz S m ds D a w) (A:D 14=false) (H:D 13=true):CpI w0 gx gz S m ds (fun j=>D j||decide (j=14)) (a.put (some 17) (.slice S.st.a m.st.length S.st.cap)) w:=by
 have z:=h.no21 (by decide) A
 exact h.go (i:=14) (by decide) A _ (h.nb z) ((h.c0 z).other zk (fun k q=>zm a _ q) (by decide) (fun _ _ _ _ _=>rfl)) ((h.c1 z).other zk (fun k q=>zm a _ q) (by decide) (fun _ _ _ _ _=>rfl)) ((h.c2 z).other zk (fun k q=>zm a _ q) (by decide) (fun _ _ _ _ _=>rfl)) ((h.c3 z).s2 zk or_self (fun k q=>zm a _ q) (zbm _ (by rw[h.sz];decide)) H) ((h.c4 z).other zk (fun k q=>zm a _ q) (by decide) (fun _ _ _ _ _=>rfl))
theorem CpI.s15 (h:CpI w0 gx gz S m ds D a w) (M:D 15=false) (Y:D 12=true) (J:D 14=true) {g:Nat} {r:Rw} (H:OwnR w w0.heap.size 107 3 ⟨some ⟨g,0,none⟩,0⟩ 0 []) (U:OwnR w' w0.heap.size 107 3 r m.st.length (m.st.flatMap smL)) (N:w.grownBy w' (some g)):CpI w0 gx gz S m ds (fun j=>D j||decide (j=15)) (a.put (some 18) (.slice r.a m.st.length r.cap)) w':=by
 have z:=h.no21 (by decide) M
 obtain⟨_,_,cu,I⟩:=H.typed (k:=g) rfl
 have q: ∀(e:TypeId),e≠107→∀(k:Nat) (A:Array Value),w0.heap.size≤k→k<w.heap.size→w.heap[k]? =some (.cells A e (0,0))→w'.heap[k]? =w.heap[k]?:=fun e V k A _ J L=>N.block k J fun X=>by
  have:k=g:=Option.some.inj X
  rw[this,I] at L
  simp only[Option.some.injEq,Obj.cells.injEq] at L
  exact V L.2.1.symm
 have Z:Below w0.heap.size w0 w':=(h.nb z).grown N (h.nb z).size fun j O=>by
  have:j=g:=(Option.some.inj O).symm
  rw[this]
  exact (H.typed (k:=g) rfl).1
 exact h.go (i:=15) (by decide) M _ Z ((h.c0 z).other zk (fun k q=>zm a _ q) (by decide) (q _ (by decide))) ((h.c1 z).other zk (fun k q=>zm a _ q) (by decide) (q _ (by decide))) ((h.c2 z).other zk (fun k q=>zm a _ q) (by decide) (q _ (by decide))) ((h.c3 z).s3 zk or_self (fun k q=>zm a _ q) (zbm _ (by rw[h.sz];decide)) U Y J) ((h.c4 z).other zk (fun k q=>zm a _ q) (by decide) (q _ (by decide)))
theorem CpI.s16 (h:CpI w0 gx gz S m ds D a w) (I:D 16=false):CpI w0 gx gz S m ds (fun j=>D j||decide (j=16)) (a.put (some 19) (.slice (some ⟨w.heap.size,0,none⟩) 0 0)) (w.alloc (.cells #[] 109)):=by
 have A:=h.no21 (by decide) I
 have H:=h.nb A
 exact h.go (i:=16) (by decide) I _ (H.alloc H.size _) ((h.c0 A).other zk (fun k q=>zm a _ q) (by decide) (fun k _ _ z _=>zby w _ z)) ((h.c1 A).other zk (fun k q=>zm a _ q) (by decide) (fun k _ _ z _=>zby w _ z)) ((h.c2 A).other zk (fun k q=>zm a _ q) (by decide) (fun k _ _ z _=>zby w _ z)) ((h.c3 A).other zk (fun k q=>zm a _ q) (by decide) (fun k _ _ z _=>zby w _ z)) ((h.c4 A).s0 zk or_self (fun k q=>zm a _ q) (zbm _ (by rw[h.sz];decide)) (World.ownsRow_lit w #[] 0 H.size (by unfold maxLen;omega) rfl))
theorem CpI.s17 (h:CpI w0 gx gz S m ds D a w) (A:D 17=false):CpI w0 gx gz S m ds (fun j=>D j||decide (j=17)) (a.put (some 20) (.pointer (some ⟨gx,4,none⟩))) w:=by
 have z:=h.no21 (by decide) A
 exact h.go (i:=17) (by decide) A _ (h.nb z) ((h.c0 z).other zk (fun k q=>zm a _ q) (by decide) (fun _ _ _ _ _=>rfl)) ((h.c1 z).other zk (fun k q=>zm a _ q) (by decide) (fun _ _ _ _ _=>rfl)) ((h.c2 z).other zk (fun k q=>zm a _ q) (by decide) (fun _ _ _ _ _=>rfl)) ((h.c3 z).other zk (fun k q=>zm a _ q) (by decide) (fun _ _ _ _ _=>rfl)) ((h.c4 z).s1 zk or_self (fun k q=>zm a _ q) (zbm _ (by rw[h.sz];decide)))
theorem CpI.s18 (h:CpI w0 gx gz S m ds D a w) (A:D 18=false) (H:D 17=true):CpI w0 gx gz S m ds (fun j=>D j||decide (j=18)) (a.put (some 21) (.slice S.ex.a m.ex.length S.ex.cap)) w:=by
 have z:=h.no21 (by decide) A
 exact h.go (i:=18) (by decide) A _ (h.nb z) ((h.c0 z).other zk (fun k q=>zm a _ q) (by decide) (fun _ _ _ _ _=>rfl)) ((h.c1 z).other zk (fun k q=>zm a _ q) (by decide) (fun _ _ _ _ _=>rfl)) ((h.c2 z).other zk (fun k q=>zm a _ q) (by decide) (fun _ _ _ _ _=>rfl)) ((h.c3 z).other zk (fun k q=>zm a _ q) (by decide) (fun _ _ _ _ _=>rfl)) ((h.c4 z).s2 zk or_self (fun k q=>zm a _ q) (zbm _ (by rw[h.sz];decide)) H)
theorem CpI.s19 (h:CpI w0 gx gz S m ds D a w) (M:D 19=false) (Y:D 16=true) (J:D 18=true) {g:Nat} {r:Rw} (H:OwnR w w0.heap.size 109 6 ⟨some ⟨g,0,none⟩,0⟩ 0 []) (U:OwnR w' w0.heap.size 109 6 r m.ex.length (m.ex.flatMap exL)) (N:w.grownBy w' (some g)):CpI w0 gx gz S m ds (fun j=>D j||decide (j=19)) (a.put (some 22) (.slice r.a m.ex.length r.cap)) w':=by
 have z:=h.no21 (by decide) M
 obtain⟨_,_,cu,I⟩:=H.typed (k:=g) rfl
 have q: ∀(e:TypeId),e≠109→∀(k:Nat) (A:Array Value),w0.heap.size≤k→k<w.heap.size→w.heap[k]? =some (.cells A e (0,0))→w'.heap[k]? =w.heap[k]?:=fun e V k A _ J L=>N.block k J fun X=>by
  have:k=g:=Option.some.inj X
  rw[this,I] at L
  simp only[Option.some.injEq,Obj.cells.injEq] at L
  exact V L.2.1.symm
 have Z:Below w0.heap.size w0 w':=(h.nb z).grown N (h.nb z).size fun j O=>by
  have:j=g:=(Option.some.inj O).symm
  rw[this]
  exact (H.typed (k:=g) rfl).1
 exact h.go (i:=19) (by decide) M _ Z ((h.c0 z).other zk (fun k q=>zm a _ q) (by decide) (q _ (by decide))) ((h.c1 z).other zk (fun k q=>zm a _ q) (by decide) (q _ (by decide))) ((h.c2 z).other zk (fun k q=>zm a _ q) (by decide) (q _ (by decide))) ((h.c3 z).other zk (fun k q=>zm a _ q) (by decide) (q _ (by decide))) ((h.c4 z).s3 zk or_self (fun k q=>zm a _ q) (zbm _ (by rw[h.sz];decide)) U Y J)
theorem CpI.s20 (h:CpI w0 gx gz S m ds D a w) (Y:D 20=false) (X:D 3=true) (V:D 7=true) (I:D 11=true) (H:D 15=true) (A:D 19=true) {S':Sv} (ho:OwnMd w w0.heap.size S' m):CpI w0 gx gz S m ds (fun j=>D j||decide (j=20)) (a.put (some 23) (zp S' m)) w:=by
 have q:D 21=false:=by
  cases h2:D 21 with
  |false=>rfl
  |true=>exact absurd (h.lt21 h2) (by rw[Y];decide)
 have J:(D 21||decide (21=20))=false:=by rw[q];rfl
 refine⟨?_,h.df,?_,?_,fun _=>h.nb q,?_,?_,?_,?_,?_,fun _ _=>⟨S',zbm _ (by rw[h.sz];decide),ho⟩,fun _ i hi=>?_,fun k=>?_,fun k=>?_⟩
 ·show (a.tmps.setIfInBounds _ _).size=24
  rw[Array.size_setIfInBounds];exact h.sz
 ·exact (zm a _ (by decide)).trans h.t1
 ·exact (zm a _ (by decide)).trans h.t2
 ·exact fun _=>(h.c0 q).other (io:=20) zk (fun k z=>zm a _ z) (by decide) (fun _ _ _ _ _=>rfl)
 ·exact fun _=>(h.c1 q).other (io:=20) zk (fun k z=>zm a _ z) (by decide) (fun _ _ _ _ _=>rfl)
 ·exact fun _=>(h.c2 q).other (io:=20) zk (fun k z=>zm a _ z) (by decide) (fun _ _ _ _ _=>rfl)
 ·exact fun _=>(h.c3 q).other (io:=20) zk (fun k z=>zm a _ z) (by decide) (fun _ _ _ _ _=>rfl)
 ·exact fun _=>(h.c4 q).other (io:=20) zk (fun k z=>zm a _ z) (by decide) (fun _ _ _ _ _=>rfl)
 ·rw[zk i (by omega)]
  have L:=(h.c0 q).q3 X
  have M:=(h.c1 q).q3 V
  have U:=(h.c2 q).q3 I
  have N:=(h.c3 q).q3 H
  have O:=(h.c4 q).q3 A
  have p0:=(h.c0 q).q2 L.2
  have p1:=(h.c1 q).q2 M.2
  have p2:=(h.c2 q).q2 U.2
  have Z:=(h.c3 q).q2 N.2
  have p4:=(h.c4 q).q2 O.2
  obtain rfl|rfl|rfl|rfl|rfl|rfl|rfl|rfl|rfl|rfl|rfl|rfl|rfl|rfl|rfl|rfl|rfl|rfl|rfl|rfl:i=0∨i=1∨i=2∨i=3∨i=4∨i=5∨i=6∨i=7∨i=8∨i=9∨i=10∨i=11∨i=12∨i=13∨i=14∨i=15∨i=16∨i=17∨i=18∨i=19:=by omega
  ·exact L.1
  ·exact p0
  ·exact L.2
  ·exact X
  ·exact M.1
  ·exact p1
  ·exact M.2
  ·exact V
  ·exact U.1
  ·exact p2
  ·exact U.2
  ·exact I
  ·exact N.1
  ·exact Z
  ·exact N.2
  ·exact H
  ·exact O.1
  ·exact p4
  ·exact O.2
  ·exact A
 ·exact absurd (J.symm.trans k) (by decide)
 ·exact absurd (J.symm.trans k) (by decide)
theorem CpI.s21 (h:CpI w0 gx gz S m ds D a w) (z:D 20=true) {S':Sv} (A:OwnMd w w0.heap.size S' m) (H:Below w0.heap.size w0 w):CpI w0 gx gz S m ds (fun j=>D j||decide (j=21)) a (((((w.setCell ⟨gz,0,none⟩ (.slice S'.rq.a m.rq.length S'.rq.cap)).setCell ⟨gz,1,none⟩ (.slice S'.im.a m.im.length S'.im.cap)).setCell ⟨gz,2,none⟩ (.slice S'.ep.a m.ep.length S'.ep.cap)).setCell ⟨gz,3,none⟩ (.slice S'.st.a m.st.length S'.st.cap)).setCell ⟨gz,4,none⟩ (.slice S'.ex.a m.ex.length S'.ex.cap)):=by
 have q: ∀{p:Prop},(D 21||decide (21=21))=false→p:=fun k=>by simp at k
 exact⟨h.sz,h.df,h.t1,h.t2,fun k=>q k,fun k=>q k,fun k=>q k,fun k=>q k,fun k=>q k,fun k=>q k,fun _ k=>q k,fun _ i I=>by rw[zk i (by omega)];exact h.lt20 z i I,fun _=>by rw[zk 20 (by decide)];exact z,fun _=>⟨S',w,rfl,A,H⟩⟩
end
end Go.Proofs.YtjdddblpfbmpaaaGreat