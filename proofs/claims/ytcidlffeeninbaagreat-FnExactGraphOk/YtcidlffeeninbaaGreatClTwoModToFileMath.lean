/-
  Two programs in memory side by side. No program is spoken of but for the numbers of its types.
  Lines of a program's text,as plain functions. No program is spoken of.
  A program's text: its lines,one behind the other. No program is spoken of.
  What each step of reading keeps,the whole reading keeps; so a program that was read has no request twice. No program is spoken of.
  A program that was read has no statement of DefaultName that is no let. No program is spoken of.
  What a Print and a Parse tell,as a ModOk takes it. No program is spoken of but for the numbers of its types.
  Links of a graph: when they are right,by two ways to ask. No program is spoken of.
  Which modules are come to from the first one: by rounds over all Links,and by running each module behind what it asks for. No program is spoken of.
  Where Links are right,both ways to ask what is come to tell the same. No program is spoken of.
  Texts that stand twice in a list,as plain functions. No program is spoken of.
  Early errors as plain functions: what is declared,what is exported,what stands twice. No program is spoken of.
  Paths,and what Clean makes of them,as plain functions; a row of texts in memory. No program is spoken of.
  A row of files in memory,each a path and a text,and when files are right: plain facts. No program is spoken of.
-/
import Derived.Deep.Cut
import Derived.Test.YtcidlffeeninbaaGreatClImplParseJToEqRow
namespace Go.Proofs.YtcidlffeeninbaaGreat
open Go.RowKit Go.PlainAid Go.Sort
theorem zeH (l:List ByteArray):l.map Value.string=l.flatMap (fun x=>[Value.string x]):=by
 induction l with
 |nil=>rfl
 |cons x l h=>rw[List.map_cons,List.flatMap_cons,h];rfl
def TwoM (w0:World) (b1 b2:Nat) (S1 S2:Sv) (m1 m2:Md) (w:World):Prop:=
 w.heap[w0.heap.size]? =some (.cells #[.slice S1.rq.a m1.rq.length S1.rq.cap,.slice S1.im.a m1.im.length S1.im.cap,.slice S1.ep.a m1.ep.length S1.ep.cap,.slice S1.st.a m1.st.length S1.st.cap,.slice S1.ex.a m1.ex.length S1.ex.cap] 48 (0,0))∧w.heap[w0.heap.size+1]? =some (.cells #[.slice S2.rq.a m2.rq.length S2.rq.cap,.slice S2.im.a m2.im.length S2.im.cap,.slice S2.ep.a m2.ep.length S2.ep.cap,.slice S2.st.a m2.st.length S2.st.cap,.slice S2.ex.a m2.ex.length S2.ex.cap] 48 (0,0))∧OwnMd w b1 S1 m1∧OwnMd w b2 S2 m2∧Below w0.heap.size w0 w
theorem TwoM.later {w0 w z:World} {H b2:Nat} {E A:Sv} {D I:Md} (h:TwoM w0 H b2 E A D I w) (q:Below w.heap.size w z):TwoM w0 H b2 E A D I z:=
 ⟨(q.block _ (Array.getElem?_eq_some_iff.1 h.1).1).trans h.1,(q.block _ (Array.getElem?_eq_some_iff.1 h.2.1).1).trans h.2.1,h.2.2.1.later q,h.2.2.2.1.later q,h.2.2.2.2.trans (q.mono h.2.2.2.2.size)⟩
theorem zhu (w:World) (H b2:Nat) (h q:Sv) (z A:Md) (I:OwnMd w H h z) (J:OwnMd w b2 q A):TwoM w H b2 h q z A ((w.alloc (.cells #[.slice h.rq.a z.rq.length h.rq.cap,.slice h.im.a z.im.length h.im.cap,.slice h.ep.a z.ep.length h.ep.cap,.slice h.st.a z.st.length h.st.cap,.slice h.ex.a z.ex.length h.ex.cap] 48)).alloc (.cells #[.slice q.rq.a A.rq.length q.rq.cap,.slice q.im.a A.im.length q.im.cap,.slice q.ep.a A.ep.length q.ep.cap,.slice q.st.a A.st.length q.st.cap,.slice q.ex.a A.ex.length q.ex.cap] 48)):=by
 have E:Below w.heap.size w (w.alloc (.cells #[.slice h.rq.a z.rq.length h.rq.cap,.slice h.im.a z.im.length h.im.cap,.slice h.ep.a z.ep.length h.ep.cap,.slice h.st.a z.st.length h.st.cap,.slice h.ex.a z.ex.length h.ex.cap] 48)):=(Below.refl _ _).alloc (Nat.le_refl _) _
 have D:Below (w.alloc (.cells #[.slice h.rq.a z.rq.length h.rq.cap,.slice h.im.a z.im.length h.im.cap,.slice h.ep.a z.ep.length h.ep.cap,.slice h.st.a z.st.length h.st.cap,.slice h.ex.a z.ex.length h.ex.cap] 48)).heap.size (w.alloc (.cells #[.slice h.rq.a z.rq.length h.rq.cap,.slice h.im.a z.im.length h.im.cap,.slice h.ep.a z.ep.length h.ep.cap,.slice h.st.a z.st.length h.st.cap,.slice h.ex.a z.ex.length h.ex.cap] 48)) ((w.alloc (.cells #[.slice h.rq.a z.rq.length h.rq.cap,.slice h.im.a z.im.length h.im.cap,.slice h.ep.a z.ep.length h.ep.cap,.slice h.st.a z.st.length h.st.cap,.slice h.ex.a z.ex.length h.ex.cap] 48)).alloc (.cells #[.slice q.rq.a A.rq.length q.rq.cap,.slice q.im.a A.im.length q.im.cap,.slice q.ep.a A.ep.length q.ep.cap,.slice q.st.a A.st.length q.st.cap,.slice q.ex.a A.ex.length q.ex.cap] 48)):=(Below.refl _ _).alloc (Nat.le_refl _) _
 refine⟨(D.block _ (by rw[zg];omega)).trans (heap_alloc_new w _),?_,(I.later E).later D,(J.later E).later D,E.trans (D.mono (by rw[zg];omega))⟩
 have:=heap_alloc_new (w.alloc (.cells #[.slice h.rq.a z.rq.length h.rq.cap,.slice h.im.a z.im.length h.im.cap,.slice h.ep.a z.ep.length h.ep.cap,.slice h.st.a z.st.length h.st.cap,.slice h.ex.a z.ex.length h.ex.cap] 48)) (.cells #[.slice q.rq.a A.rq.length q.rq.cap,.slice q.im.a A.im.length q.im.cap,.slice q.ep.a A.ep.length q.ep.cap,.slice q.st.a A.st.length q.st.cap,.slice q.ex.a A.ex.length q.ex.cap] 48)
 rw[zg] at this
 exact this
def zdB (m:Md):Prop:=m.rq.length≤4294967296∧m.im.length≤4294967296∧m.ep.length≤4294967296∧m.st.length≤4294967296∧m.ex.length≤4294967296
theorem zjs {a b:Md} (q:a.rq=b.rq) (w:a.im=b.im) (h:a.ep=b.ep) (z:a.st=b.st) (A:a.ex=b.ex):a=b:=by
 cases a
 cases b
 simp only at q w h z A
 rw[q,w,h,z,A]
def za0 (s:ByteArray):ByteArray:=({data:=#[34]}:ByteArray)++s++({data:=#[34]}:ByteArray)
def asT (a b:ByteArray):ByteArray:=if a.toList==b.toList then a else a++({data:=#[32,97,115,32]}:ByteArray)++b
def zab (x:Im):ByteArray:=
 if x.first.toList==[42] then ({data:=#[105,109,112,111,114,116,32,42,32,97,115,32]}:ByteArray)++x.loc++({data:=#[32,102,114,111,109,32]}:ByteArray)++za0 x.spec++({data:=#[59,10]}:ByteArray)
 else if x.first.toList==[100,101,102,97,117,108,116] then ({data:=#[105,109,112,111,114,116,32]}:ByteArray)++x.loc++({data:=#[32,102,114,111,109,32]}:ByteArray)++za0 x.spec++({data:=#[59,10]}:ByteArray)
 else ({data:=#[105,109,112,111,114,116,32,123,32]}:ByteArray)++asT x.first x.loc++({data:=#[32,125,32,102,114,111,109,32]}:ByteArray)++za0 x.spec++({data:=#[59,10]}:ByteArray)
def zbp (x:Ep):ByteArray:=
 if x.kind==3 then ({data:=#[101,120,112,111,114,116,32,42,32,102,114,111,109,32]}:ByteArray)++za0 x.spec++({data:=#[59,10]}:ByteArray)
 else if x.kind==2 then ({data:=#[101,120,112,111,114,116,32,123,32]}:ByteArray)++asT x.loc x.name++({data:=#[32,125,32,102,114,111,109,32]}:ByteArray)++za0 x.spec++({data:=#[59,10]}:ByteArray)
 else ({data:=#[101,120,112,111,114,116,32,123,32]}:ByteArray)++asT x.loc x.name++({data:=#[32,125,59,10]}:ByteArray)
def za5 (k:Int) (n e:ByteArray):ByteArray:=
 if k==1 then (if n.toList==[42,100,101,102,97,117,108,116] then ({data:=#[101,120,112,111,114,116,32,100,101,102,97,117,108,116,32]}:ByteArray)++e++({data:=#[59,10]}:ByteArray) else ({data:=#[108,101,116,32]}:ByteArray)++n++({data:=#[32,61,32]}:ByteArray)++e++({data:=#[59,10]}:ByteArray))
 else if k==2 then ({data:=#[102,117,110,99,116,105,111,110,32]}:ByteArray)++n++({data:=#[40,41,32,123,32,114,101,116,117,114,110,32]}:ByteArray)++e++({data:=#[59,32,125,10]}:ByteArray)
 else if k==3 then n++({data:=#[32,61,32]}:ByteArray)++e++({data:=#[59,10]}:ByteArray)
 else if k==4 then ({data:=#[112,114,105,110,116,40]}:ByteArray)++e++({data:=#[41,59,10]}:ByteArray)
 else if k==5 then ({data:=#[116,104,114,111,119,32]}:ByteArray)++e++({data:=#[59,10]}:ByteArray)
 else ({data:=#[102,97,105,108,32]}:ByteArray)++e++({data:=#[59,10]}:ByteArray)
def zdl (k:Int) (n e:ByteArray):ByteArray:=if n.toList==[42,100,101,102,97,117,108,116] then ({data:=#[101,120,112,111,114,116,32,100,101,102,97,117,108,116,32]}:ByteArray)++e++({data:=#[59,10]}:ByteArray) else za5 k n e
def rqT (s:ByteArray):ByteArray:=({data:=#[105,109,112,111,114,116,32]}:ByteArray)++za0 s++({data:=#[59,10]}:ByteArray)
def acc {α:Type} (f:α→ByteArray) (l:List α) (t:ByteArray):ByteArray:=l.foldl (fun t x=>t++f x) t
theorem zc0 {α:Type} (f:α→ByteArray) {l:List α} {j:Nat} {x:α} (h:l[j]? =some x) (t:ByteArray):acc f (l.take (j+1)) t=acc f (l.take j) t++f x:=by
 obtain⟨q,rfl⟩:=List.getElem?_eq_some_iff.1 h
 rw[List.take_succ_eq_append_getElem q,acc,List.foldl_append]
 rfl
theorem zed {α:Type} (f:α→ByteArray) (l:List α): ∀t:ByteArray,t.size≤(acc f l t).size:=by
 induction l with
 |nil=>intro t;exact Nat.le_refl _
 |cons x l h=>
  intro t
  refine Nat.le_trans ?_ (h (t++f x))
  rw[ByteArray.size_append]
  omega
theorem zot {α:Type} (f:α→ByteArray) (a b:List α) (t:ByteArray):acc f (a++b) t=acc f b (acc f a t):=by rw[acc,List.foldl_append];rfl
theorem zdC {α:Type} (f:α→ByteArray) (l:List α) (j:Nat) (t:ByteArray):(acc f (l.take j) t).size≤(acc f l t).size:=by
 have:acc f l t=acc f (l.drop j) (acc f (l.take j) t):=by rw[←zot,List.take_append_drop]
 rw[this]
 exact zed f _ _
def epF (x:Ep):ByteArray:=if x.loc.toList==[42,100,101,102,97,117,108,116] then sNone else zbp x
def stF (ex:List Ex) (s:Sm):ByteArray:=za5 s.kind s.name (prX ex s.expr.toNat)
def zcD (ex:List Ex) (s:Sm):ByteArray:=zdl s.kind s.name (prX ex s.expr.toNat)
def zcc (m:Md):ByteArray:=acc epF m.ep (acc zab m.im (acc rqT m.rq sNone))
def zcd (m:Md):ByteArray:=acc (stF m.ex) m.st (zcc m)
def zbS (m:Md):ByteArray:=acc (zcD m.ex) m.st (zcc m)
def PrintOut (T:ByteArray) (m:Md) (e:Ending):Prop:=(Tree m∧e= .returned (.string T))∨(¬Tree m∧e= .returned (.string sNone))
structure Small (m:Md):Prop where
 rq: ∀x∈m.rq,x.size≤4294967296
 im: ∀x∈m.im,x.spec.size≤4294967296∧x.first.size≤4294967296∧x.loc.size≤4294967296
 ep: ∀x∈m.ep,x.spec.size≤4294967296∧x.name.size≤4294967296∧x.loc.size≤4294967296
 st: ∀x∈m.st,x.name.size≤4294967296
 nums:zaY m.ex
 few:m.rq.length≤4294967296∧m.im.length≤4294967296∧m.ep.length≤4294967296∧m.st.length≤4294967296∧m.ex.length≤4294967296
def KG {α:Type} (R:PS→PS→Prop) (p:α→PS) (x:Except Nat α) (q:PS):Prop:=∀a,x= .ok a→R q (p a)
def zjt (C:Cx) (k:Int) (n:ByteArray):Prop:=n=sNone∨k=1∨∃i o,zG C i o=true∧n=(ze C i).text
structure Kept (C:Cx) (R:PS→PS→Prop):Prop where
 rfl': ∀q,R q q
 tr: ∀{a b c},R a b→R b c→R a c
 adv: ∀q,R q (adv q)
 ex: ∀x q,KG R id (zQ C x q) q
 im: ∀x q,KG R id (zap C x q) q
 ep: ∀x q,KG R id (zp C x q) q
 sp: ∀q,KG R Prod.fst (zL C q) q
 st: ∀k n q,zjt C k n→KG R id (zY C k n q) q
theorem KG.bd {C:Cx} {R:PS→PS→Prop} {α β:Type} (H:Kept C R) {p:α→PS} {r:β→PS} {x:Except Nat α} {f:α→Except Nat β} {q:PS} (h:KG R p x q) (k: ∀a,x= .ok a→KG R r (f a) (p a)):KG R r (bd x f) q:=by
 intro b A
 obtain⟨a,w,z⟩:=zm A
 exact H.tr (h a w) (k a w b z)
theorem KG.after {C:Cx} {R:PS→PS→Prop} (H:Kept C R) {α:Type} {r:α→PS} {y:Except Nat α} {q q':PS} (h:R q q') (k:KG R r y q'):KG R r y q:=fun b w=>H.tr h (k b w)
theorem KG.ok {C:Cx} {R:PS→PS→Prop} (H:Kept C R) {α:Type} {p:α→PS} {a:α}:KG R p (.ok a) (p a):=fun b h=>by cases h;exact H.rfl' _
theorem KG.err {R:PS→PS→Prop} {α:Type} {p:α→PS} {e:Nat} {q:PS}:KG R p (.error e) q:=fun b h=>by cases h
theorem zaw {C:Cx} {R:PS→PS→Prop} (H:Kept C R) (k:Int) (x:ByteArray) (q:PS):KG R id (zd C k x q) q:=fun a h=>by obtain⟨rfl,_⟩:=zbO h;exact H.adv q
theorem zd2 {C:Cx} {R:PS→PS→Prop} (H:Kept C R) (o:Bool) (q:PS):KG R Prod.fst (zl C o q) q:=fun a h=>by obtain⟨rfl,_⟩:=zby h;exact H.adv q
theorem zju {C:Cx} {R:PS→PS→Prop} (H:Kept C R) (n:ByteArray) (q:PS):KG R id (zbB C n q) q:=by
 unfold zbB
 split
 ·exact .bd H (.bd H (zaw H _ _ _) fun _ _=>zaw H _ _ _) fun _ _=>H.ex _ _
 ·exact H.ex _ _
theorem zou {C:Cx} {R:PS→PS→Prop} (H:Kept C R) (n f:ByteArray) (q:PS):KG R id (zbN C n f q) q:=by
 unfold zbN
 split
 ·exact .bd H (.bd H (zaw H _ _ _) fun _ _=>zaw H _ _ _) fun _ _=>H.ex _ _
 ·exact H.ex _ _
theorem zov {C:Cx} {R:PS→PS→Prop} (H:Kept C R) (f:Nat): ∀(w:NT) (d:Nat) (q:PS),KG R id (ev C f w d q) q:=by
 induction f with
 |zero=>intro w d q;cases w using NT.elim<;>exact .err
 |succ f h=>
  intro w d q
  cases w using NT.elim<;>rw[ev]
  ·exact .bd H (h _ _ _) fun _ _=>h _ _ _
  ·split
   ·exact .bd H (.bd H (.after H (H.adv q) (h _ _ _)) fun _ _=>H.ex _ _) fun _ _=>h _ _ _
   ·exact .ok (p:=id) H
  ·exact .bd H (h _ _ _) fun _ _=>h _ _ _
  ·split
   ·exact .bd H (.bd H (.after H (H.adv q) (h _ _ _)) fun _ _=>H.ex _ _) fun _ _=>h _ _ _
   ·exact .ok (p:=id) H
  ·split
   ·exact .after H (H.adv q) (H.ex _ _)
   ·split
    ·split
     ·exact .err
     ·exact .bd H (.after H (H.adv q) (h _ _ _)) fun _ _=>zaw H _ _ _
    ·split
     ·exact .after H (H.adv q) (zju H _ _)
     ·refine .bd H (zd2 H _ _) fun a _=>?_
      split
      ·exact .bd H (.after H (H.adv _) (zd2 H _ _)) fun _ _=>zou H _ _ _
      ·exact zju H _ _
theorem zeI {C:Cx} {R:PS→PS→Prop} (H:Kept C R) (h:NT) (d:Nat) (q:PS):KG R id (pE C h d q) q:=zov H _ _ _ _
theorem zjv {C:Cx} {R:PS→PS→Prop} (H:Kept C R) {y:PRN} {F:PR→ByteArray→PR} {q:PS} (h:KG R Prod.fst y q) (k: ∀a,y= .ok a→KG R id (F (.ok a.1) a.2) a.1):KG R Prod.fst (withN y F) q:=
 .bd H h fun a w=>.bd (r:=Prod.fst) H (k a w) fun b _=>.ok (p:=Prod.fst) (a:=(b,a.2)) H
theorem zjw {C:Cx} {R:PS→PS→Prop} (H:Kept C R) (q:PS):KG R Prod.fst (zcK C q) q:=
 zjv H (.bd H (zaw H _ _ _) fun _ _=>zd2 H _ _) fun _ _=>.bd H (.bd H (.bd H (.bd (p:=id) H (.ok (p:=id) H) fun _ _=>zaw H _ _ _) fun _ _=>zeI H _ _ _) fun _ _=>zaw H _ _ _) fun _ _=>H.st _ _ _ (.inr (.inl rfl))
theorem zjx {C:Cx} {k:Int} {o:Bool} {q:PS} {a:PS×ByteArray} (h:zl C o q= .ok a):zjt C k a.2:=by
 obtain⟨rfl,w⟩:=zby h
 exact .inr (.inr ⟨_,_,w,rfl⟩)
theorem zjy {C:Cx} {R:PS→PS→Prop} (H:Kept C R) (q:PS):KG R Prod.fst (fnP C q) q:=
 zjv H (.bd H (zaw H _ _ _) fun _ _=>zd2 H _ _) fun a h=>.bd H (.bd H (.bd H (.bd H (.bd H (.bd H (.bd H (.bd (p:=id) H (.ok (p:=id) H) fun _ _=>zaw H _ _ _) fun _ _=>zaw H _ _ _) fun _ _=>zaw H _ _ _) fun _ _=>zaw H _ _ _) fun _ _=>zeI H _ _ _) fun _ _=>zaw H _ _ _) fun _ _=>zaw H _ _ _) fun _ _=>H.st _ _ _ (by
  obtain⟨b,_,w⟩:=zm h
  exact zjx w)
theorem zow {C:Cx} {R:PS→PS→Prop} (H:Kept C R) (e:Bool) (a:PS×ByteArray):KG R Prod.fst (asP C e a) a.1:=by
 unfold asP
 split
 ·exact .after H (H.adv _) (zd2 H _ _)
 ·split
  ·exact .err
  ·exact .ok (p:=Prod.fst) H
theorem zox {C:Cx} {R:PS→PS→Prop} (H:Kept C R) (e:Bool) (f:Nat): ∀(q:PS) (acc:List Ep),KG R Prod.fst (zdx C e f q acc) q:=by
 induction f with
 |zero=>intro q acc;exact .err
 |succ f h=>
  intro q acc
  rw[zdx]
  refine .bd H (zd2 H _ _) fun a _=>.bd H (zow H _ _) fun b _=>?_
  split
  ·exact .after H (H.adv _) (h _ _)
  ·exact .bd (r:=Prod.fst) H (zaw H _ _ _) fun c _=>.ok (p:=Prod.fst) (a:=(c,_)) H
theorem zjz {C:Cx} {R:PS→PS→Prop} (H:Kept C R) (e:Bool) (q:PS):KG R Prod.fst (zcZ C e q) q:=.bd H (zaw H _ _ _) fun _ _=>zox H _ _ _ _
theorem zfw {C:Cx} {R:PS→PS→Prop} (H:Kept C R) {x:PR} {q:PS} (h:KG R id x q):KG R Prod.fst (zbf C (zaK C x)) q:=
 .bd H (.bd H (.bd H h fun _ _=>zaw H _ _ _) fun _ _=>H.sp _) fun a _=>.bd (r:=Prod.fst) H (zaw H _ _ _) fun c _=>.ok (p:=Prod.fst) (a:=(c,a.2)) H
theorem zhv {C:Cx} {R:PS→PS→Prop} (H:Kept C R) {α:Type} {f:α→PS→PR} (z: ∀a q,KG R id (f a q) q) (l:List α): ∀(x:PR) (q:PS),KG R id x q→KG R id (zX f l x) q:=by
 induction l with
 |nil=>intro x q h;exact h
 |cons a l w=>intro x q h;exact w _ _ (.bd H h fun _ _=>z _ _)
theorem zoy {C:Cx} {R:PS→PS→Prop} (H:Kept C R) (q:PS):KG R id (zba C q) q:=by
 refine .bd H (zaw H _ _ _) fun h _=>?_
 split
 ·exact .bd H (zjz H _ _) fun a _=>.bd H (zfw H (.ok (p:=id) H)) fun b _=>zhv H (fun _ _=>H.im _ _) _ _ _ (.ok (p:=id) H)
 ·split
  ·exact .bd H (.bd H (.bd H (zaw H _ _ _) fun _ _=>zaw H _ _ _) fun _ _=>zd2 H _ _) fun a _=>.bd H (zfw H (.ok (p:=id) H)) fun _ _=>H.im _ _
  ·split
   ·exact .bd H (zd2 H _ _) fun a _=>.bd H (zfw H (.ok (p:=id) H)) fun _ _=>H.im _ _
   ·exact .bd H (H.sp _) fun _ _=>zaw H _ _ _
theorem zoz {C:Cx} {R:PS→PS→Prop} (H:Kept C R) (q:PS):KG R id (zam C q) q:=by
 refine .bd H (zaw H _ _ _) fun h _=>?_
 split
 ·refine .bd H (zjz H _ _) fun a _=>?_
  split
  ·exact .bd H (zaw H _ _ _) fun _ _=>zhv H (fun _ _=>H.ep _ _) _ _ _ (.ok (p:=id) H)
  ·exact .bd H (zfw H (.ok (p:=id) H)) fun _ _=>zhv H (fun _ _=>H.ep _ _) _ _ _ (.ok (p:=id) H)
 ·split
  ·exact .bd H (zfw H (zaw H _ _ _)) fun _ _=>H.ep _ _
  ·split
   ·exact .bd H (.bd H (.bd H (.bd H (zaw H _ _ _) fun _ _=>zeI H _ _ _) fun _ _=>zaw H _ _ _) fun _ _=>H.st _ _ _ (.inr (.inl rfl))) fun _ _=>H.ep _ _
   ·split
    ·exact .bd H (zjw H _) fun _ _=>H.ep _ _
    ·split
     ·exact .bd H (zjy H _) fun _ _=>H.ep _ _
     ·exact .err
theorem zj0 {C:Cx} {R:PS→PS→Prop} (H:Kept C R) (s:ByteArray) (k:Int) (q:PS):KG R id (bd (bd (bd (zd C 1 s q) (pE C .sum 0)) (zd C 4 cSemi)) (zY C k sNone)) q:=
 .bd H (.bd H (.bd H (zaw H _ _ _) fun _ _=>zeI H _ _ _) fun _ _=>zaw H _ _ _) fun _ _=>H.st _ _ _ (.inl rfl)
theorem zo0 {C:Cx} {R:PS→PS→Prop} (H:Kept C R) (q:PS):KG R id (zB C q) q:=by
 unfold zB
 split
 ·exact zoy H q
 ·split
  ·exact zoz H q
  ·split
   ·exact .bd H (zjw H q) fun a _=>.ok (p:=id) H
   ·split
    ·exact .bd H (zjy H q) fun a _=>.ok (p:=id) H
    ·split
     ·exact .bd H (.bd H (.bd H (.bd H (.bd H (zaw H _ _ _) fun _ _=>zaw H _ _ _) fun _ _=>zeI H _ _ _) fun _ _=>zaw H _ _ _) fun _ _=>zaw H _ _ _) fun _ _=>H.st _ _ _ (.inl rfl)
     ·split
      ·exact zj0 H _ _ _
      ·split
       ·exact zj0 H _ _ _
       ·exact .bd H (zd2 H _ _) fun a h=>.bd H (.bd H (.bd H (zaw H _ _ _) fun _ _=>zeI H _ _ _) fun _ _=>zaw H _ _ _) fun _ _=>H.st _ _ _ (zjx h)
theorem zo1 {C:Cx} {R:PS→PS→Prop} (H:Kept C R) (f:Nat): ∀q,KG R id (zdy C f q) q:=by
 induction f with
 |zero=>intro q;exact .err
 |succ f h=>
  intro q
  rw[zdy]
  split
  ·exact .bd H (zo0 H q) fun _ _=>h _
  ·exact .ok (p:=id) H
theorem zhw {R:PS→PS→Prop} {s:ByteArray} {w:Bool} {q:PS} (h:zbF s w (.ok q)) (H: ∀z,zaj s w (.ok z)→Kept ⟨z,s.size,w⟩ R):R zbQ q:=by
 obtain⟨r,A,e⟩:=h
 cases r with
 |error p=>cases e
 |ok z=>exact zo1 (H z A) _ zbQ q e.symm
theorem zo2 {l:List ByteArray} {x:ByteArray} (h: ¬zaQ l x=true):x∉l:=fun q=>h (List.any_eq_true.2 ⟨x,q,beq_self_eq_true _⟩)
theorem zo3 {s:ByteArray} {z:Bool} {q:PS} (h:zbF s z (.ok q)):q.rq.Nodup:=by
 refine zhw (R:=fun a b=>a.rq.Nodup→b.rq.Nodup) h (fun H _=>?_) List.nodup_nil
 refine⟨fun _ h=>h,fun h k x=>k (h x),fun _ h=>h,?_,?_,?_,?_,?_⟩
 ·intro x q a h w
  obtain⟨rfl,_⟩:=zbC h
  exact w
 ·intro x q a h w
  unfold zap at h
  split at h<;>cases h
  exact w
 ·intro x q a h w
  unfold zp at h
  split at h
  ·cases h
  ·split at h<;>cases h<;>exact w
 ·intro q a h w
  unfold zL at h
  split at h
  ·split at h
   ·cases h;exact w
   ·next E=>
    split at h<;>cases h
    show (q.rq++[_]).Nodup
    rw[List.nodup_append]
    refine⟨w,by simp,fun a D b A e=>zo2 E ?_⟩
    rw[List.mem_singleton.1 A] at e
    exact e▸D
  ·cases h
 ·intro k n q _ a h w
  unfold zY at h
  split at h<;>cases h
  exact w
abbrev dN:List UInt8:=[42,100,101,102,97,117,108,116]
def zcE (st:List Sm):Prop:=∀s∈st,s.name.toList=dN→s.kind=1
def zj1 (ts:List Tk):Prop:=∀t∈ts,t.kind=1→t.text.toList≠dN
theorem zo4 {s:ByteArray} {q:Bool} {a e:Nat} {t:Tk} (z:a<s.size) (h:Tok s q a t e):t.kind=1→t.text.toList≠dN:=by
 have H:=(ze1 z h).1
 have E:=(ze1 z h).2.1
 cases h using Tok.elim with
 |name w _=>
  intro _ k
  have D:bt (s.extract a e) 0=42:=by
   rw[zdu,←Lib.toList_data,k]
   rfl
  have A:bt (s.extract a e) 0=bt s a:=by
   rw[zdu,zdu,ByteArray.data_extract]
   simp only[List.getD,List.getElem?_map,Array.getElem?_toList,Array.getElem?_extract]
   rw[if_pos (by have:s.data.size=s.size:=rfl;omega),Nat.add_zero]
  rw[←A,D] at w
  cases q<;>revert w<;>decide
 |num _ _=>intro k;cases k
 |str _ _=>intro k;cases k
 |sign _=>intro k;cases k
theorem zo5 {s:ByteArray} {A:Bool} {a n:Nat} {r:Except Nat (List Tk)} (h:Lx s A a n r): ∀q,r= .ok q→zj1 q:=by
 induction h using Lx.ind with
 |done=>intro q k;cases k;intro t w;cases w
 |bad _ _=>intro q k;cases k
 | @tok a n e b t r h E w H I D=>
  intro q k
  cases r with
  |error p=>cases k
  |ok l=>
   cases k
   intro u z
   rcases List.mem_cons.1 z with rfl|z
   ·exact zo4 h w
   ·exact D l rfl u z
theorem zo6 {C:Cx} (w:zj1 C.ts) {i:Nat} {o:Bool} (h:zG C i o=true):(ze C i).text.toList≠dN:=by
 have q:=zfc h
 have e:ze C i=C.ts[i]:=by simp[ze,List.getD,List.getElem?_eq_getElem q]
 simp only[zG,Bool.and_eq_true,beq_iff_eq] at h
 rw[e] at h ⊢
 exact w _ (List.getElem_mem q) h.1
theorem zo7 {k:Int} (h:sNone.toList=dN):k=1:=by
 rw[Lib.toList_data] at h
 cases h
theorem zj2 {s:ByteArray} {E:Bool} {q:PS} (h:zbF s E (.ok q)):zcE q.st:=by
 refine zhw (R:=fun a b=>zcE a.st→zcE b.st) h (fun J A=>?_) (fun s z=>by cases z)
 obtain⟨_,_,A⟩:=A
 have K:=zo5 A J rfl
 refine⟨fun _ h=>h,fun h k x=>k (h x),fun _ h=>h,?_,?_,?_,?_,?_⟩
 ·intro x q a h w
  obtain⟨rfl,_⟩:=zbC h
  exact w
 ·intro x q a h w
  unfold zap at h
  split at h<;>cases h
  exact w
 ·intro x q a h w
  unfold zp at h
  split at h
  ·cases h
  ·split at h<;>cases h<;>exact w
 ·intro q a h w
  unfold zL at h
  split at h
  ·split at h
   ·cases h;exact w
   ·split at h<;>cases h
    exact w
  ·cases h
 ·intro k n q D a h w
  unfold zY at h
  split at h<;>cases h
  intro s z
  rcases List.mem_append.1 z with z|z
  ·exact w s z
  ·rw[List.mem_singleton.1 z]
   intro H
   rcases D with rfl|D|⟨i,o,I,rfl⟩
   ·exact zo7 H
   ·exact D
   ·exact absurd H (zo6 K I)
def PrOf (T:ByteArray) (m:Md) (t:ByteArray):Prop:=(Tree m∧t=T)∨(¬Tree m∧t=sNone)
theorem PrintOut.form {T:ByteArray} {m:Md} {e:Ending} (h:PrintOut T m e): ∃t,PrOf T m t∧e= .returned (.string t):=by
 rcases h with ⟨q,w⟩|⟨q,w⟩
 ·exact⟨T,.inl ⟨q,rfl⟩,w⟩
 ·exact⟨sNone,.inr ⟨q,rfl⟩,w⟩
theorem PrOf.size {T t:ByteArray} {m:Md} {n:Nat} (h:PrOf T m t) (q:Tree m→T.size≤n):t.size≤n:=by
 rcases h with ⟨w,rfl⟩|⟨_,rfl⟩
 ·exact q w
 ·exact Nat.zero_le _
def zee (t:ByteArray) (scr:Bool) (m:Md):Prop:=∃q,zbF t scr (.ok q)∧ze6 q=m
def zgo (T:ByteArray) (m:Md) (scr:Bool) (e:Ending):Prop:=∃t,PrOf T m t∧SameOut (zee t scr m) e
theorem zj3 {t:ByteArray} {w:Bool} {m:Md} {p:Nat} (h:zbF t w (.error p)): ¬zee t w m:=by
 rintro⟨q,z,_⟩
 cases ziQ h z
theorem zj4 {t:ByteArray} {w:Bool} {m n:Md} {q:PS} (h:zbF t w (.ok q)) (z:n=ze6 q):zee t w m↔n=m:=by
 constructor
 ·rintro⟨E,A,D⟩
  cases ziQ h A
  rw[z]
  exact D
 ·intro e
  exact⟨q,h,by rw[←z];exact e⟩
theorem ParseOut.md {s:ByteArray} {z:Bool} {w A:World} {e:Ending} (h:ParseOut s z w e A):
  (∃(q:PS) (S:Sv) (n:Md),zbF s z (.ok q)∧n=ze6 q∧e= .returned (.tuple #[zn S n,.int .i64 (-1)])∧OwnMd A w.heap.size S n∧zdB n)∨∃p:Nat,zbF s z (.error p)∧e= .returned (.tuple #[.agg #[.slice none 0 0,.slice none 0 0,.slice none 0 0,.slice none 0 0,.slice none 0 0],.int .i64 p]):=by
 obtain⟨y,E,H⟩:=h
 cases y with
 |ok q=>
  obtain⟨S,J,D⟩:=H
  refine .inl ⟨q,S,ze6 q,E,rfl,J,D.md,?_⟩
  have K:=D.inv
  have I:(ze6 q).ep.length=q.ep.length+q.la.length:=by show (q.ep++q.la).length=_;rw[List.length_append]
  refine⟨?_,?_,by rw[I];omega,?_,?_⟩
  ·show q.rq.length≤_;omega
  ·show q.im.length≤_;omega
  ·show q.st.length≤_;omega
  ·show q.ex.length≤_;omega
 |error p=>exact .inr ⟨p,E,H⟩
theorem zo8 {k:Int} {n e:ByteArray} (h:n.toList=dN→k=1):zdl k n e=za5 k n e:=by
 unfold zdl
 split
 ·next q=>
  have w:=eq_of_beq q
  rw[h w,za5,if_pos (by decide),if_pos q]
 ·rfl
theorem zo9 {α:Type} {f g:α→ByteArray} (l:List α): ∀t,(∀x∈l,f x=g x)→acc f l t=acc g l t:=by
 induction l with
 |nil=>intro t _;rfl
 |cons x l q=>
  intro t h
  show acc f l (t++f x)=acc g l (t++g x)
  rw[h x (List.mem_cons_self ..)]
  exact q _ fun y w=>h y (List.mem_cons_of_mem _ w)
theorem zoA {m:Md} (h:zcE m.st):zbS m=zcd m:=zo9 _ _ fun s q=>zo8 (h s q)
theorem zj5 {m:Md} {w:Bool} {A z:ByteArray} (I:PrOf (zcd m) m A) (H:PrOf (zbS m) m z):zee A w m↔zee z w m:=by
 by_cases D:zcE m.st
 ·have:A=z:=by
   rw[zoA D] at H
   rcases I with ⟨a,rfl⟩|⟨a,rfl⟩<;>rcases H with ⟨b,rfl⟩|⟨b,rfl⟩
   ·rfl
   ·exact absurd a b
   ·exact absurd b a
   ·rfl
  rw[this]
 ·have E: ∀t,¬zee t w m:=by
   rintro t ⟨q,J,K⟩
   have:=zj2 J
   rw[←K] at D
   exact D this
  exact⟨fun h=>absurd h (E _),fun h=>absurd h (E _)⟩
structure Lk where
 frm:Int
 spec:ByteArray
 to:Int
abbrev Ky:Type:=Int×List UInt8
def zR (l:Lk):Ky:=(l.frm,l.spec.toList)
def zbh (ls:List Lk) (k:Ky):Int:=ls.foldr (fun l r=>if zR l=k then l.to else r) (-1)
theorem zgp (l:Lk) (ls:List Lk) (k:Ky):zbh (l::ls) k=if zR l=k then l.to else zbh ls k:=rfl
theorem zoB {ls:List Lk} {k:Ky} (h: ∀l∈ls,zR l≠k):zbh ls k= -1:=by
 induction ls with
 |nil=>rfl
 |cons l ls q=>rw[zgp,if_neg (h l (List.mem_cons_self ..)),q fun x w=>h x (List.mem_cons_of_mem _ w)]
theorem zoC {ls:List Lk} {k:Ky} {i:Nat} {l:Lk} (q:ls[i]? =some l) (z:zR l=k) (h: ∀j x,j<i→ls[j]? =some x→zR x≠k):zbh ls k=l.to:=by
 induction ls generalizing i with
 |nil=>cases q
 |cons y ls A=>
  rw[zgp]
  cases i with
  |zero=>cases q;rw[if_pos z]
  |succ i=>rw[if_neg (h 0 y (by omega) rfl)];exact A q fun j x D w=>h (j+1) x (by omega) w
theorem zj6 {ls:List Lk} {k:Ky} (h:zbh ls k≠ -1): ∃l∈ls,zR l=k∧l.to=zbh ls k:=by
 induction ls with
 |nil=>exact absurd rfl h
 |cons l ls w=>
  rw[zgp] at h ⊢
  by_cases e:zR l=k
  ·rw[if_pos e];exact⟨l,List.mem_cons_self ..,e,rfl⟩
  ·rw[if_neg e] at h ⊢
   obtain⟨x,A,q,z⟩:=w h
   exact⟨x,List.mem_cons_of_mem _ A,q,z⟩
theorem zhx {ls:List Lk} (q:(ls.map zR).Nodup) {l:Lk} (w:l∈ls):zbh ls (zR l)=l.to:=by
 induction ls with
 |nil=>cases w
 |cons y ls z=>
  rw[zgp]
  rw[List.map_cons,List.nodup_cons] at q
  rcases List.mem_cons.1 w with rfl|h
  ·rw[if_pos rfl]
  ·rw[if_neg (show ¬zR y=zR l from fun e=>q.1 (by rw[e];exact List.mem_map_of_mem h))]
   exact z q.2 h
def zdm:Nat→List (List ByteArray)→List Ky
 |_,[]=>[]
 |f,rq::r=>rq.map (fun s=>((f:Int),s.toList))++zdm (f+1) r
def zao (rqs:List (List ByteArray)):Nat:=(rqs.map List.length).sum
theorem zhy (h:List (List ByteArray)): ∀f,(zdm f h).length=zao h:=by
 induction h with
 |nil=>intro f;rfl
 |cons r h q=>intro f;rw[zdm,List.length_append,List.length_map,q,zao,zao,List.map_cons,List.sum_cons]
theorem zef {q:List (List ByteArray)} {k:Ky}: ∀{f},k∈zdm f q↔∃(i:Nat) (rq:List ByteArray) (s:ByteArray),q[i]? =some rq∧s∈rq∧k=(((f+i:Nat):Int),s.toList):=by
 induction q with
 |nil=>
  intro f
  constructor
  ·intro h;cases h
  ·rintro⟨i,rq,s,h,_⟩;cases h
 |cons r q A=>
  intro f
  rw[zdm,List.mem_append,A,List.mem_map]
  constructor
  ·rintro (⟨s,hs,rfl⟩|⟨i,rq,s,w,z,rfl⟩)
   ·exact⟨0,r,s,rfl,hs,rfl⟩
   ·exact⟨i+1,rq,s,w,z,by rw[show f+1+i=f+(i+1) by omega]⟩
  ·rintro⟨i,rq,s,w,z,rfl⟩
   cases i with
   |zero=>cases w;exact .inl ⟨s,z,rfl⟩
   |succ i=>exact .inr ⟨i,rq,s,w,z,by rw[show f+1+i=f+(i+1) by omega]⟩
theorem zj7 {a b:ByteArray} (h:a.toList=b.toList):a=b:=(zdN a b).1 (by rw[h];exact beq_self_eq_true _)
theorem zhz {q:List (List ByteArray)}: ∀f,(∀rq∈q,rq.Nodup)→(zdm f q).Nodup:=by
 induction q with
 |nil=>intro f _;exact List.nodup_nil
 |cons r q E=>
  intro f h
  rw[zdm,List.nodup_append]
  refine⟨?_,E _ fun x z=>h x (List.mem_cons_of_mem _ z),?_⟩
  ·have:=h r (List.mem_cons_self ..)
   unfold List.Nodup at this ⊢
   rw[List.pairwise_map]
   exact this.imp fun w e=>w (zj7 (Prod.mk.inj e).2)
  ·intro a D b A e
   obtain⟨s,_,rfl⟩:=List.mem_map.1 D
   obtain⟨i,_,_,_,_,rfl⟩:=zef.1 A
   have:=(Prod.mk.inj e).1
   omega
theorem zj8 {α:Type} [DecidableEq α] {K L:List α} (h:K.Nodup) (z: ∀x∈K,x∈L) (q:L.length≤K.length):L.Perm K:=by
 induction K generalizing L with
 |nil=>cases L with
  |nil=>exact .refl _
  |cons=>simp at q
 |cons a K D=>
  have A:=z a (List.mem_cons_self ..)
  rw[List.nodup_cons] at h
  refine (List.perm_cons_erase A).trans (.cons a (D h.2 (fun x w=>?_) ?_))
  ·exact (List.mem_erase_of_ne (show x≠a from fun e=>h.1 (by rw[←e];exact w))).2 (z x (List.mem_cons_of_mem _ w))
  ·rw[List.length_erase_of_mem A];simp at q;omega
def zfx (rqs:List (List ByteArray)) (ls:List Lk):Prop:=
 zao rqs=ls.length∧∀(i:Nat) (l:Lk),ls[i]? =some l→0≤l.frm∧l.frm<(rqs.length:Int)∧0≤l.to∧l.to<(rqs.length:Int)∧(∃s∈rqs.getD l.frm.toNat [],s.toList=l.spec.toList)∧∀(k:Nat) (x:Lk),k<i→ls[k]? =some x→zR x≠zR l
def zbI (rqs:List (List ByteArray)) (ls:List Lk):Prop:=
 ls.length=zao rqs∧∀(f:Nat) (rq:List ByteArray),rqs[f]? =some rq→∀s∈rq,0≤zbh ls ((f:Int),s.toList)∧zbh ls ((f:Int),s.toList)<(rqs.length:Int)
structure LinksOk (rqs:List (List ByteArray)) (ls:List Lk):Prop where
 nodup:(ls.map zR).Nodup
 mem: ∀k,k∈ls.map zR↔k∈zdm 0 rqs
 to: ∀l∈ls,0≤l.to∧l.to<(rqs.length:Int)
theorem zoD {ls:List Lk} (h: ∀(i:Nat) (l:Lk),ls[i]? =some l→∀(k:Nat) (x:Lk),k<i→ls[k]? =some x→zR x≠zR l):(ls.map zR).Nodup:=by
 unfold List.Nodup
 rw[List.pairwise_map,List.pairwise_iff_getElem]
 intro i j w z q
 exact h j _ (List.getElem?_eq_getElem z) i _ q (List.getElem?_eq_getElem w)
theorem zoE {q:List (List ByteArray)} {ls:List Lk} (h:zfx q ls):LinksOk q ls:=by
 obtain⟨H,h⟩:=h
 have D:=zoD fun i l w=>(h i l w).2.2.2.2.2
 have z: ∀k∈ls.map zR,k∈zdm 0 q:=by
  intro k K
  obtain⟨l,w,rfl⟩:=List.mem_map.1 K
  obtain⟨i,A⟩:=List.mem_iff_getElem?.1 w
  obtain⟨I,L,_,_,⟨s,J,e⟩,_⟩:=h i l A
  refine zef.2 ⟨l.frm.toNat,q.getD l.frm.toNat [],s,?_,J,?_⟩
  ·rw[List.getD,List.getElem?_eq_getElem (by omega)];rfl
  ·rw[e,Nat.zero_add,Int.toNat_of_nonneg I];rfl
 have E:=zj8 D z (by rw[zhy,H,List.length_map];exact Nat.le_refl _)
 refine⟨D,fun k=>(E.mem_iff).symm,fun l w=>?_⟩
 obtain⟨i,A⟩:=List.mem_iff_getElem?.1 w
 exact⟨(h i l A).2.2.1,(h i l A).2.2.2.1⟩
theorem zj9 {q:List (List ByteArray)} {ls:List Lk} (H: ∀rq∈q,rq.Nodup) (h:zbI q ls):LinksOk q ls:=by
 obtain⟨J,h⟩:=h
 have w: ∀k∈zdm 0 q,k∈ls.map zR:=by
  intro k K
  obtain⟨f,rq,s,D,E,rfl⟩:=zef.1 K
  rw[Nat.zero_add]
  obtain⟨L,_⟩:=h f rq D s E
  obtain⟨l,z,e,_⟩:=zj6 (ls:=ls) (k:=((f:Int),s.toList)) (by omega)
  exact e▸List.mem_map_of_mem z
 have A:=zj8 (zhz 0 H) w (by rw[zhy,J.symm,List.length_map];exact Nat.le_refl _)
 have I:(ls.map zR).Nodup:=A.nodup_iff.2 (zhz 0 H)
 refine⟨I,fun k=>A.mem_iff,fun l z=>?_⟩
 obtain⟨f,rq,s,D,E,e⟩:=zef.1 (A.mem_iff.1 (List.mem_map_of_mem z))
 rw[Nat.zero_add] at e
 have:=h f rq D s E
 rw[←e,zhx I z] at this
 exact this
theorem LinksOk.len {q:List (List ByteArray)} {ls:List Lk} (z: ∀rq∈q,rq.Nodup) (h:LinksOk q ls):ls.length=zao q:=by
 rw[←zhy q 0,←List.length_map (f:=zR)]
 refine Nat.le_antisymm ?_ ?_
 ·exact List.Nodup.length_le_of_subset h.nodup fun k w=>(h.mem k).1 w
 ·exact List.Nodup.length_le_of_subset (zhz 0 z) fun k w=>(h.mem k).2 w
theorem LinksOk.toI {q:List (List ByteArray)} {ls:List Lk} (D: ∀rq∈q,rq.Nodup) (h:LinksOk q ls):zbI q ls:=by
 refine⟨h.len D,fun f rq z s A=>?_⟩
 obtain⟨l,w,e⟩:=List.mem_map.1 ((h.mem ((f:Int),s.toList)).2 (zef.2 ⟨f,rq,s,z,A,by rw[Nat.zero_add]⟩))
 rw[←e,zhx h.nodup w]
 exact h.to l w
theorem LinksOk.toS {q:List (List ByteArray)} {ls:List Lk} (U: ∀rq∈q,rq.Nodup) (h:LinksOk q ls):zfx q ls:=by
 refine⟨(h.len U).symm,fun i l K=>?_⟩
 have w:=List.mem_of_getElem? K
 obtain⟨f,rq,s,J,M,e⟩:=zef.1 ((h.mem _).1 (List.mem_map_of_mem w))
 rw[Nat.zero_add] at e
 obtain⟨E,N⟩:=Prod.mk.inj e
 have E:l.frm=(f:Int):=E
 have V:=(List.getElem?_eq_some_iff.1 J).1
 refine⟨by omega,by omega,(h.to l w).1,(h.to l w).2,⟨s,?_,N.symm⟩,fun k x O L=>?_⟩
 ·rw[E,Int.toNat_natCast,List.getD,J];exact M
 ·have A:=h.nodup
  unfold List.Nodup at A
  rw[List.pairwise_map,List.pairwise_iff_getElem] at A
  obtain⟨z,D⟩:=List.getElem?_eq_some_iff.1 L
  obtain⟨I,H⟩:=List.getElem?_eq_some_iff.1 K
  rw[←D,←H]
  exact A k i z I O
theorem zjA {q:List (List ByteArray)} {ls:List Lk} (w: ∀rq∈q,rq.Nodup):zfx q ls↔zbI q ls:=
 ⟨fun h=>(zoE h).toI w,fun h=>(zj9 w h).toS w⟩
def Rch (nx:Nat→List Nat) (j:Nat):Prop:=∀S:Nat→Prop,S 0→(∀a b,S a→b∈nx a→S b)→S j
def zae (b:List Bool):Nat:=b.count true
def LeB (b c:List Bool):Prop:=b.length=c.length∧∀j:Nat,b[j]? =some true→c[j]? =some true
theorem LeB.refl (b:List Bool):LeB b b:=⟨rfl,fun _ h=>h⟩
theorem LeB.trans {a b c:List Bool} (h:LeB a b) (k:LeB b c):LeB a c:=⟨h.1.trans k.1,fun j q=>k.2 j (h.2 j q)⟩
theorem LeB.set (b:List Bool) (m:Nat):LeB b (b.set m true):=by
 refine⟨by simp,fun j h=>?_⟩
 rw[List.getElem?_set]
 split
 ·next e=>rw[if_pos (by subst e;exact (List.getElem?_eq_some_iff.1 h).1)]
 ·exact h
theorem LeB.cnt {b c:List Bool} (h:LeB b c):zae b≤zae c∧(zae c≤zae b→b=c):=by
 induction b generalizing c with
 |nil=>cases c with
  |nil=>exact⟨Nat.le_refl _,fun _=>rfl⟩
  |cons=>have:=h.1;simp at this
 |cons x b D=>
  cases c with
  |nil=>have:=h.1;simp at this
  |cons y c=>
   have q:LeB b c:=⟨by have:=h.1;simpa using this,fun j w=>h.2 (j+1) w⟩
   have E:=h.2 0
   obtain⟨A,z⟩:=D q
   unfold zae at A z ⊢
   cases x<;>cases y<;>simp_all
   omega
theorem zgq (b:List Bool):zae b≤b.length:=List.count_le_length ..
theorem zgr {b:List Bool}:zae b=b.length↔∀j:Nat,j<b.length→b[j]? =some true:=by
 unfold zae
 rw[List.count_eq_length]
 constructor
 ·intro h j w
  rw[List.getElem?_eq_getElem w,←h _ (List.getElem_mem w)]
 ·intro h x z
  obtain⟨i,q⟩:=List.mem_iff_getElem?.1 z
  have:=h i (List.getElem?_eq_some_iff.1 q).1
  rw[q] at this
  exact (Option.some.inj this).symm
def zce (b:List Bool) (l:Lk):List Bool:=if b.getD l.frm.toNat false=true then b.set l.to.toNat true else b
def zbq (ls:List Lk) (b:List Bool):List Bool:=ls.foldl zce b
def zaU (ls:List Lk):Nat→List Bool→List Bool
 |0,b=>b
 |k+1,b=>zaU ls k (zbq ls b)
theorem zjB (ls:List Lk): ∀(k:Nat) (b:List Bool),zaU ls (k+1) b=zbq ls (zaU ls k b)
 |0,_=>rfl
 |k+1,b=>zjB ls k (zbq ls b)
theorem zjC (b:List Bool) (l:Lk):LeB b (zce b l):=by
 unfold zce
 split
 ·exact .set _ _
 ·exact .refl _
theorem zgs (ls:List Lk): ∀b,LeB b (zbq ls b):=by
 induction ls with
 |nil=>intro b;exact .refl _
 |cons l ls h=>intro b;exact (zjC b l).trans (h _)
theorem zjD (ls:List Lk): ∀(k:Nat) (b:List Bool),(zaU ls k b).length=b.length
 |0,_=>rfl
 |k+1,b=>(zjD ls k _).trans (zgs ls b).1.symm
theorem zjE (ls:List Lk): ∀(k:Nat) (b:List Bool),LeB b (zaU ls k b)
 |0,_=>.refl _
 |k+1,b=>(zgs ls b).trans (zjE ls k _)
def zh0 (ls:List Lk) (b:List Bool):Prop:=∀l∈ls,b[l.frm.toNat]? =some true→l.to.toNat<b.length→b[l.to.toNat]? =some true
theorem zoF {b:List Bool} {l:Lk} (h:zce b l=b):b[l.frm.toNat]? =some true→l.to.toNat<b.length→b[l.to.toNat]? =some true:=by
 intro w q
 unfold zce at h
 rw[if_pos (by rw[List.getD,w];rfl)] at h
 rw[←h,List.getElem?_set,if_pos rfl,if_pos (by rw[←h] at q;simpa using q)]
theorem zoG {a b:List Bool} (h:LeB a b) (k:LeB b a):a=b:=h.cnt.2 k.cnt.1
theorem zoH {ls:List Lk} {b:List Bool} (h:zbq ls b=b):zh0 ls b:=by
 induction ls with
 |nil=>intro l q;cases q
 |cons x ls A=>
  have w:zce b x=b:=(zoG (zjC b x) (by have:=zgs ls (zce b x);rw[show zbq ls (zce b x)=b from h] at this;exact this)).symm
  have z:zbq ls b=b:=by rw[show zbq (x::ls) b=zbq ls (zce b x) from rfl,w] at h;exact h
  intro l q
  rcases List.mem_cons.1 q with rfl|q
  ·exact zoF w
  ·exact A z l q
theorem zoI (ls:List Lk): ∀(k:Nat) (b:List Bool),zh0 ls (zaU ls k b)∨zae b+k≤zae (zaU ls k b):=by
 intro k
 induction k with
 |zero=>intro b;exact .inr (Nat.le_refl _)
 |succ k D=>
  intro b
  by_cases e:zbq ls b=b
  ·left
   have z:=zoH e
   have: ∀j,zaU ls j b=b:=by
    intro j
    induction j with
    |zero=>rfl
    |succ j q=>rw[zaU,e];exact q
   rw[this]
   exact z
  ·rcases D (zbq ls b) with h|h
   ·exact .inl h
   ·right
    have A:=(zgs ls b).cnt
    have:zae b<zae (zbq ls b):=by
     rcases Nat.lt_or_ge (zae b) (zae (zbq ls b)) with w|w
     ·exact w
     ·exact absurd (A.2 w).symm e
    show _≤zae (zaU ls k (zbq ls b))
    omega
theorem zoJ {ls:List Lk} {S:Nat→Prop} (z: ∀l∈ls,S l.frm.toNat→S l.to.toNat): ∀b:List Bool,(∀j,b[j]? =some true→S j)→∀j,(zbq ls b)[j]? =some true→S j:=by
 induction ls with
 |nil=>intro b h;exact h
 |cons x ls E=>
  intro b h
  refine E (fun l D=>z l (List.mem_cons_of_mem _ D)) (zce b x) fun j q=>?_
  unfold zce at q
  split at q
  ·next w=>
   rw[List.getElem?_set] at q
   split at q
   ·next e=>
    rw[←e]
    refine z x (List.mem_cons_self ..) (h _ ?_)
    rw[List.getD] at w
    cases A:b[x.frm.toNat]? with
    |none=>rw[A] at w;cases w
    |some v=>rw[A] at w;exact congrArg some w
   ·exact h j q
  ·exact h j q
theorem zjF {ls:List Lk} {S:Nat→Prop} (q: ∀l∈ls,S l.frm.toNat→S l.to.toNat): ∀(k:Nat) (b:List Bool),(∀j,b[j]? =some true→S j)→∀j,(zaU ls k b)[j]? =some true→S j
 |0,_,h=>h
 |k+1,b,h=>zjF q k _ (zoJ q b h)
def zaV (n:Nat):List Bool:=(List.replicate n false).set 0 true
theorem zjG {ls:List Lk} {D:Nat→List Nat} {n:Nat} (U:0<n) (L: ∀l∈ls,l.to.toNat∈D l.frm.toNat) (N: ∀a,a<n→∀b∈D a,b<n∧∃l∈ls,l.frm.toNat=a∧l.to.toNat=b) (j:Nat):
  (zaU ls n (zaV n))[j]? =some true↔Rch D j:=by
 have H:(zaV n).length=n:=by simp[zaV]
 have J:1≤zae (zaV n):=by
  unfold zae zaV
  cases n with
  |zero=>omega
  |succ n=>rw[List.replicate_succ];simp
 constructor
 ·intro h S X K
  refine zjF (S:=S) (fun l z V=>K _ _ V (L l z)) n (zaV n) (fun k q=>?_) j h
  unfold zaV at q
  rw[List.getElem?_set] at q
  split at q
  ·next e=>rw[←e];exact X
  ·rw[List.getElem?_replicate] at q
   split at q
   ·cases q
   ·cases q
 ·intro h
  have w:=zjD ls n (zaV n)
  rw[H] at w
  have E:zh0 ls (zaU ls n (zaV n)):=by
   rcases zoI ls n (zaV n) with k|k
   ·exact k
   ·have:=zgq (zaU ls n (zaV n));omega
  refine h (fun j=>(zaU ls n (zaV n))[j]? =some true) ?_ ?_
  ·refine (zjE ls n (zaV n)).2 0 ?_
   unfold zaV
   rw[List.getElem?_set,if_pos rfl,if_pos (by simpa using U)]
  ·intro a b I O
   have A:a<n:=by have:=(List.getElem?_eq_some_iff.1 I).1;omega
   obtain⟨M,l,z,rfl,rfl⟩:=N a A b O
   exact E l z I (by omega)
def dfs (nx:Nat→List Nat):Nat→Nat→List Bool×List Nat→List Bool×List Nat
 |0,_,s=>s
 |f+1,m,s=>if s.1.getD m true=true then s else
  let t:=(nx m).foldl (fun s k=>dfs nx f k s) (s.1.set m true,s.2)
  (t.1,t.2++[m])
structure DfsP (nx:Nat→List Nat) (S:Nat→Prop) (ms:List Nat) (s t:List Bool×List Nat):Prop where
 le:LeB s.1 t.1
 begun: ∀m∈ms,t.1[m]? =some true
 new: ∀j:Nat,t.1[j]? =some true→s.1[j]? =some true∨S j
 shut: ∀j:Nat,t.1[j]? =some true→s.1[j]? =some true∨∀k∈nx j,t.1[k]? =some true
 cnt:t.2.length+zae s.1=s.2.length+zae t.1
theorem zjH {b:List Bool} {m:Nat} (h:b[m]? =some false):zae (b.set m true)=zae b+1:=by
 induction b generalizing m with
 |nil=>cases h
 |cons x b q=>
  cases m with
  |zero=>cases h;simp[zae]
  |succ m=>
   have:=q h
   unfold zae at this ⊢
   rw[List.set_cons_succ,List.count_cons,List.count_cons,this]
   omega
theorem zjI {A:Nat→List Nat} {n:Nat} (V: ∀m,m<n→∀k∈A m,k<n) {S:Nat→Prop} (Z: ∀a b,S a→b∈A a→S b): ∀(f m:Nat) (s:List Bool×List Nat),s.1.length=n→m<n→n≤f+zae s.1→S m→DfsP A S [m] s (dfs A f m s):=by
 intro f
 induction f with
 |zero=>
  intro m s M Y X _
  have:zae s.1=s.1.length:=by have:=zgq s.1;omega
  have z:=zgr.1 this m (by omega)
  exact⟨.refl _,fun k w=>by rw[List.mem_singleton.1 w];exact z,fun j h=>.inl h,fun j h=>.inl h,rfl⟩
 |succ f ih=>
  intro m s M Y X L
  have O: ∀(J:List Nat) (s:List Bool×List Nat),(∀k∈J,k<n∧S k)→s.1.length=n→n≤f+zae s.1→DfsP A S J s (J.foldl (fun s k=>dfs A f k s) s):=by
   intro J
   induction J with
   |nil=>intro s _ _ _;exact⟨.refl _,fun k w=>(by cases w),fun j h=>.inl h,fun j h=>.inl h,rfl⟩
   |cons k J N=>
    intro s E M X
    have q:=ih k s M (E k (List.mem_cons_self ..)).1 X (E k (List.mem_cons_self ..)).2
    have H:=N (dfs A f k s) (fun x K=>E x (List.mem_cons_of_mem _ K)) (q.le.1.symm.trans M) (by have:=q.le.cnt.1;omega)
    refine⟨q.le.trans H.le,fun x K=>?_,fun j D=>?_,fun j D=>?_,?_⟩
    ·rcases List.mem_cons.1 K with rfl|K
     ·exact H.le.2 _ (q.begun _ (List.mem_singleton.2 rfl))
     ·exact H.begun x K
    ·rcases H.new j D with h|h
     ·exact q.new j h
     ·exact .inr h
    ·rcases H.shut j D with h|h
     ·rcases q.shut j h with U|U
      ·exact .inl U
      ·exact .inr fun k w=>H.le.2 _ (U k w)
     ·exact .inr h
    ·have e1:=q.cnt
     have e2:=H.cnt
     simp only[List.foldl_cons]
     omega
  rw[dfs]
  split
  ·next z=>
   have z:s.1[m]? =some true:=by
    rw[List.getD,List.getElem?_eq_getElem (by omega)] at z
    rw[List.getElem?_eq_getElem (by omega)]
    exact congrArg some z
   exact⟨.refl _,fun k w=>by rw[List.mem_singleton.1 w];exact z,fun j h=>.inl h,fun j h=>.inl h,rfl⟩
  ·next z=>
   have z:s.1[m]? =some false:=by
    rw[List.getD,List.getElem?_eq_getElem (by omega)] at z
    rw[List.getElem?_eq_getElem (by omega)]
    exact congrArg some (by simpa using z)
   have hc:=zjH z
   have I:(s.1.set m true)[m]? =some true:=by rw[List.getElem?_set,if_pos rfl,if_pos (by omega)]
   have q:=O (A m) (s.1.set m true,s.2) (fun k w=>⟨V m Y k w,Z m k L w⟩) (by simpa using M) (by show n≤f+zae (s.1.set m true);omega)
   refine⟨(LeB.set _ _).trans q.le,fun k w=>by rw[List.mem_singleton.1 w];exact q.le.2 m I,fun j D=>?_,fun j D=>?_,?_⟩
   ·rcases q.new j D with h|h
    ·have h:(s.1.set m true)[j]? =some true:=h
     rw[List.getElem?_set] at h
     split at h
     ·next e=>rw[←e];exact .inr L
     ·exact .inl h
    ·exact .inr h
   ·rcases q.shut j D with h|h
    ·have h:(s.1.set m true)[j]? =some true:=h
     rw[List.getElem?_set] at h
     split at h
     ·next e=>rw[←e];exact .inr fun k w=>q.begun k w
     ·exact .inl h
    ·exact .inr h
   ·have e:=q.cnt
    simp only[List.length_append,List.length_singleton] at e ⊢
    omega
theorem zoK {q:Nat→List Nat} {n:Nat} (V:0<n) (K: ∀m,m<n→∀k∈q m,k<n):
  (dfs q n 0 (List.replicate n false,[])).2.length=n↔∀j,j<n→Rch q j:=by
 have L:zae (List.replicate n false)=0:=by unfold zae;rw[List.count_replicate];rfl
 have E: ∀S:Nat→Prop,S 0→(∀a b,S a→b∈q a→S b)→DfsP q S [0] (List.replicate n false,[]) (dfs q n 0 (List.replicate n false,[])):=fun S N M=>
  zjI K M n 0 (List.replicate n false,[]) (by simp) V (by show n≤n+zae (List.replicate n false);omega) N
 have H: ∀j:Nat,¬(List.replicate n false)[j]? =some true:=by
  intro j h
  rw[List.getElem?_replicate] at h
  split at h<;>cases h
 have J:=E (fun _=>True) trivial (fun _ _ _ _=>trivial)
 have D:(dfs q n 0 (List.replicate n false,[])).1.length=n:=by rw[←J.le.1];simp
 have w:=J.cnt
 rw[show zae (List.replicate n false,([]:List Nat)).1=0 from L] at w
 constructor
 ·intro h j U S N M
  have Y:=E S N M
  have z:zae (dfs q n 0 (List.replicate n false,[])).1=(dfs q n 0 (List.replicate n false,[])).1.length:=by
   rw[D]
   simp only[List.length_nil] at w
   omega
  rcases Y.new j (zgr.1 z j (by omega)) with A|A
  ·exact absurd A (H j)
  ·exact A
 ·intro h
  have I: ∀j,j<(dfs q n 0 (List.replicate n false,[])).1.length→(dfs q n 0 (List.replicate n false,[])).1[j]? =some true:=by
   intro j U
   refine h j (by omega) (fun j=>(dfs q n 0 (List.replicate n false,[])).1[j]? =some true) (J.begun 0 (List.mem_singleton.2 rfl)) fun a b X O=>?_
   rcases J.shut a X with A|A
   ·exact absurd A (H a)
   ·exact A b O
  have:=zgr.2 I
  simp only[List.length_nil] at w
  omega
def zbJ (rqs:List (List ByteArray)) (ls:List Lk) (m:Nat):List Nat:=(rqs.getD m []).map fun s=>(zbh ls ((m:Int),s.toList)).toNat
theorem zh1 {q:List (List ByteArray)} {ls:List Lk} (h:zbI q ls) (m k:Nat) (D:k∈zbJ q ls m):k<q.length:=by
 obtain⟨s,w,rfl⟩:=List.mem_map.1 D
 cases z:q[m]? with
 |none=>rw[List.getD,z] at w;cases w
 |some A=>
  rw[List.getD,z] at w
  have:=h.2 m A z s w
  omega
theorem zjJ {q:List (List ByteArray)} {ls:List Lk} (O: ∀rq∈q,rq.Nodup) (w:zbI q ls) (E:0<q.length):
  (∀j,j<q.length→(zaU ls q.length (zaV q.length))[j]? =some true)↔(dfs (zbJ q ls) q.length 0 (List.replicate q.length false,[])).2.length=q.length:=by
 have h:=zj9 O w
 have I: ∀l∈ls,l.to.toNat∈zbJ q ls l.frm.toNat:=by
  intro l z
  obtain⟨f,rq,s,U,A,e⟩:=zef.1 ((h.mem _).1 (List.mem_map_of_mem z))
  rw[Nat.zero_add] at e
  have H:l.frm=(f:Int):=(Prod.mk.inj e).1
  rw[H,Int.toNat_natCast]
  refine List.mem_map.2 ⟨s,by rw[List.getD,U];exact A,?_⟩
  rw[←e,zhx h.nodup z]
 have J: ∀a,a<q.length→∀b∈zbJ q ls a,b<q.length∧∃l∈ls,l.frm.toNat=a∧l.to.toNat=b:=by
  intro a L b K
  refine⟨zh1 w a b K,?_⟩
  obtain⟨s,A,rfl⟩:=List.mem_map.1 K
  rw[List.getD,List.getElem?_eq_getElem L] at A
  have M:=w.2 a _ (List.getElem?_eq_getElem L) s A
  obtain⟨l,z,e,N⟩:=zj6 (ls:=ls) (k:=((a:Int),s.toList)) (by omega)
  have H:l.frm=(a:Int):=(Prod.mk.inj e).1
  exact⟨l,z,by rw[H,Int.toNat_natCast],by rw[N]⟩
 rw[zoK E fun m _ k M=>zh1 w m k M]
 exact⟨fun k j D=>(zjG E I J j).1 (k j D),fun k j D=>(zjG E I J j).2 (k j D)⟩
def inL (l:List ByteArray) (s:ByteArray):Bool:=l.any fun x=>x.toList==s.toList
def twB (l:List ByteArray):Bool:=(List.range l.length).any fun i=>inL (l.take i) (l.getD i sNone)
theorem zgt {l:List ByteArray} {s:ByteArray}:inL l s=true↔s∈l:=by
 simp only[inL,List.any_eq_true]
 constructor
 ·rintro⟨x,q,h⟩
  rw[(zdN _ _).1 h] at q
  exact q
 ·intro h
  exact⟨s,h,(zdN _ _).2 rfl⟩
theorem zoL {l:List ByteArray} {s:ByteArray} {k:Nat} (q:k<l.length) (h:((l.getD k sNone).toList==s.toList)=true):inL l s=true:=by
 rw[inL,List.any_eq_true]
 exact⟨l[k],List.getElem_mem q,by simpa [List.getD,List.getElem?_eq_getElem q] using h⟩
theorem zoM {l:List ByteArray} {s:ByteArray} (h: ∀j,j<l.length→((l.getD j sNone).toList==s.toList)=false):inL l s=false:=by
 rw[inL,List.any_eq_false]
 intro x w
 obtain⟨j,q,rfl⟩:=List.mem_iff_getElem.1 w
 have:=h j q
 simpa [List.getD,List.getElem?_eq_getElem q] using this
theorem zjK {l:List ByteArray} {k:Nat} (q:k<l.length) (h:inL (l.take k) (l.getD k sNone)=true):twB l=true:=by
 rw[twB,List.any_eq_true]
 exact⟨k,List.mem_range.2 q,h⟩
theorem zoN {l:List ByteArray} (h: ∀j,j<l.length→inL (l.take j) (l.getD j sNone)=false):twB l=false:=by
 rw[twB,List.any_eq_false]
 intro k q
 rw[h k (List.mem_range.1 q)]
 exact Bool.false_ne_true
def zbK (s:Sm):Bool:=(s.kind==1||s.kind==2)&& !(s.name.toList==dN)
def stN (l:List Sm):List ByteArray:=(l.filter zbK).map (·.name)
def imN (l:List Im):List ByteArray:=l.map (·.loc)
def epN (l:List Ep):List ByteArray:=(l.filter fun x=> !(x.kind==3)).map (·.name)
def zbT (m:Md):List ByteArray:=stN m.st++imN m.im
def spB (l:List Im) (n:ByteArray):Bool:=match l.find? (fun x=>x.loc.toList==n.toList) with|some x=>x.first.toList==[42]|none=>false
def unB (ns:List ByteArray) (l:List Ep):Bool:=l.any fun x=>x.kind==1&&(!(x.loc.toList==dN)&& !inL ns x.loc)
def seB (im:List Im) (l:List Ep):Bool:=l.any fun x=>x.kind==1&&spB im x.loc
def sxB (im:List Im) (l:List Ex):Bool:=l.any fun x=>(x.kind==2||x.kind==3)&&spB im x.name
def mxB (im:List Im) (l:List Ex):Bool:=l.any fun x=>(x.kind==4||x.kind==5)&& !spB im x.name
def ssB (im:List Im) (l:List Sm):Bool:=l.any fun x=>x.kind==3&&spB im x.name
def zaq (m:Md):Int:=
 if twB (zbT m) then 1 else if twB (epN m.ep) then 2 else if unB (zbT m) m.ep then 3
 else if seB m.im m.ep||sxB m.im m.ex||ssB m.im m.st then 4 else if mxB m.im m.ex then 5 else 0
theorem zoO {l:List Im} {n:ByteArray} {k:Nat} {x:Im} (A:l[k]? =some x) (w:(x.loc.toList==n.toList)=true) (h: ∀(j:Nat) (y:Im),j<k→l[j]? =some y→(y.loc.toList==n.toList)=false):spB l n=(x.first.toList==[42]):=by
 have:l.find? (fun x=>x.loc.toList==n.toList)=some x:=by
  rw[List.find?_eq_some_iff_getElem]
  obtain⟨q,rfl⟩:=List.getElem?_eq_some_iff.1 A
  exact⟨w,k,q,rfl,fun j z=>by rw[h j l[j] z (List.getElem?_eq_getElem _)];rfl⟩
 rw[spB,this]
theorem zoP {l:List Im} {n:ByteArray} (h: ∀(j:Nat) (y:Im),l[j]? =some y→(y.loc.toList==n.toList)=false):spB l n=false:=by
 have:l.find? (fun x=>x.loc.toList==n.toList)=none:=by
  rw[List.find?_eq_none]
  intro x q
  obtain⟨j,w,rfl⟩:=List.mem_iff_getElem.1 q
  rw[h j _ (List.getElem?_eq_getElem w)]
  exact Bool.false_ne_true
 rw[spB,this]
abbrev okc (c:Int):Prop:=(97≤c∧c≤122)∨(48≤c∧c≤57)∨c=46∨c=95∨c=45∨c=47
abbrev zc1 (s:ByteArray):Prop:=1≤s.size∧s.size≤40∧bt s 0=47∧∀j,j<s.size→okc (bt s j)
def zaS (s:ByteArray):Bool:=decide (zc1 s)
theorem zjL {s:ByteArray} (h:zc1 s):zaS s=true:=decide_eq_true h
theorem zd3 {s:ByteArray} (h: ¬zc1 s):zaS s=false:=decide_eq_false h
theorem zdD {s:ByteArray}:zaS s=true↔zc1 s:=decide_eq_true_iff
def upd (p:ByteArray) (l:List ByteArray):List ByteArray:=
 if p.toList.isEmpty=true∨(p.toList==[46])=true then l else if (p.toList==[46,46])=false then l++[p] else l.dropLast
def zfy (s:ByteArray) (i:Nat) (st:Nat×List ByteArray):Nat×List ByteArray:=
 if i<s.size∧bt s i≠47 then st else (i+1,upd (s.extract st.1 i) st.2)
def zW (s:ByteArray):Nat→Nat×List ByteArray
 |0=>(0,[])
 |k+1=>zfy s k (zW s k)
theorem zoQ (p:ByteArray) (l:List ByteArray):(upd p l).length≤l.length+1:=by
 unfold upd
 split
 ·omega
 ·split
  ·simp
  ·simp;omega
theorem zh2 (s:ByteArray) (k:Nat):(zW s k).1≤k∧(zW s k).2.length≤k:=by
 induction k with
 |zero=>simp[zW]
 |succ k q=>
  have h:=zoQ (s.extract (zW s k).1 k) (zW s k).2
  unfold zW zfy
  split
  ·omega
  ·simp only;omega
theorem zjM {s:ByteArray} {k:Nat} (h:k<s.size) (q:bt s k≠47):zW s (k+1)=zW s k:=by rw[zW,zfy,if_pos ⟨h,q⟩]
theorem zjN {s:ByteArray} {k:Nat} (h: ¬(k<s.size∧bt s k≠47)):zW s (k+1)=(k+1,upd (s.extract (zW s k).1 k) (zW s k).2):=by rw[zW,zfy,if_neg h]
theorem zgu {p:ByteArray} {l:List ByteArray} (h:p.toList.isEmpty=true):upd p l=l:=by rw[upd,if_pos (.inl h)]
theorem zh3 {p:ByteArray} {l:List ByteArray} (h:(p.toList==[46])=true):upd p l=l:=by rw[upd,if_pos (.inr h)]
theorem zh4 {p:ByteArray} {l:List ByteArray} (w:p.toList.isEmpty=false) (h:(p.toList==[46])=false) (q:(p.toList==[46,46])=false):upd p l=l++[p]:=by
 rw[upd,if_neg (by rw[w,h];simp),if_pos q]
theorem zh5 {p:ByteArray} {l:List ByteArray} (w:p.toList.isEmpty=false) (h:(p.toList==[46])=false) (q:(p.toList==[46,46])=true):upd p l=l.dropLast:=by
 rw[upd,if_neg (by rw[w,h];simp),if_neg (by rw[q];simp)]
def parts (s:ByteArray):List ByteArray:=(zW s (s.size+1)).2
def zcl (l:List ByteArray):Nat→ByteArray
 |0=>{data:=#[]}
 |k+1=>zcl l k++{data:=#[47]}++l.getD k {data:=#[]}
def zaH (s:ByteArray):ByteArray:=if zaS s then (if (parts s).length=0 then {data:=#[47]} else zcl (parts s) (parts s).length) else {data:=#[]}
theorem zh6 {s:ByteArray} (h:zaS s=false):zaH s={data:=#[]}:=by rw[zaH,h];rfl
theorem zh7 {s:ByteArray} (h:zaS s=true) (q:(parts s).length=0):zaH s={data:=#[47]}:=by rw[zaH,h,if_pos rfl,if_pos q]
theorem zh8 {s:ByteArray} (h:zaS s=true) (q: ¬(parts s).length=0):zaH s=zcl (parts s) (parts s).length:=by rw[zaH,h,if_pos rfl,if_neg q]
theorem zoR (p:ByteArray) (l:List ByteArray) (B:Nat) (w:p.size≤B) (q: ∀x∈l,x.size≤B): ∀x∈upd p l,x.size≤B:=by
 intro x h
 unfold upd at h
 split at h
 ·exact q x h
 ·split at h
  ·simp only[List.mem_append,List.mem_singleton] at h
   rcases h with h|rfl
   ·exact q x h
   ·exact w
  ·exact q x ((List.dropLast_sublist l).subset h)
theorem zjO (s:ByteArray) (k:Nat): ∀x∈(zW s k).2,x.size≤s.size:=by
 induction k with
 |zero=>simp[zW]
 |succ k h=>
  unfold zW zfy
  split
  ·exact h
  ·exact zoR _ _ _ (by rw[ByteArray.size_extract];omega) h
theorem zjP (s:ByteArray) (l:List ByteArray) (h: ∀x∈l,x.size≤s.size) (k:Nat):(l.getD k {data:=#[]}).size≤s.size:=by
 by_cases q:k<l.length
 ·have e:l.getD k {data:=#[]}=l[k]:=by simp[List.getD,List.getElem?_eq_getElem q]
  rw[e]
  exact h _ (List.getElem_mem q)
 ·have e:l.getD k {data:=#[]}={data:=#[]}:=by simp[List.getD,List.getElem?_eq_none (Nat.le_of_not_lt q)]
  rw[e]
  exact Nat.zero_le _
theorem zjQ (s:ByteArray) (l:List ByteArray) (h: ∀x∈l,x.size≤s.size) (k:Nat):(zcl l k).size≤k*(s.size+1):=by
 induction k with
 |zero=>exact Nat.zero_le _
 |succ k q=>
  have:=zjP s l h k
  rw[zcl,ByteArray.size_append,ByteArray.size_append,Nat.succ_mul]
  have e:({data:=#[47]}:ByteArray).size=1:=rfl
  omega
def zcm (w:World) (base:Nat) (e:TypeId) (g n cap:Nat) (xs:List ByteArray):Prop:=w.ownsRow base e 1 (.slice (some ⟨g,0,none⟩) n cap) n (xs.map Value.string)∧n=xs.length
theorem zgv {w:World} {q g n z:Nat} {e:TypeId} {xs:List ByteArray} (h:zcm w q e g n z xs):n=xs.length:=h.2
theorem zh9 {w:World} {q g n z:Nat} {e:TypeId} {xs:List ByteArray} (h:zcm w q e g n z xs):n≤z∧z≤9223372036854775807∧q≤g:=by
 rcases h.1.2 with ⟨A,_⟩|⟨K,D,H,A,E,_,I,J,_⟩
 ·simp at A
 ·simp only[Value.slice.injEq,Option.some.injEq,Addr.mk.injEq,and_true,true_and] at A
  obtain⟨rfl,rfl⟩:=A
  unfold maxLen at J
  exact⟨I,by omega,E⟩
theorem zhA {w:World} {q g n z:Nat} {e:TypeId} {xs:List ByteArray} (h:zcm w q e g n z xs) (j:Nat) (D:j<n):w.cell? ⟨g,j,none⟩=some (.string (xs.getD j {data:=#[]})):=by
 have A:=h.2
 rw[h.1.cellAt j (by omega)]
 simp[List.getD,List.getElem?_eq_getElem (show j<xs.length by omega)]
theorem zjR {w:World} {z g n q:Nat} {e:TypeId} {xs:List ByteArray} (h:zcm w z e g (n+1) q xs):zcm w z e g n q xs.dropLast:=by
 obtain⟨⟨I,J⟩,V⟩:=h
 rw[List.length_map] at I
 refine⟨⟨by rw[List.length_map,List.length_dropLast];omega,?_⟩,by rw[List.length_dropLast];omega⟩
 rcases J with ⟨E,_⟩|⟨U,H,D,E,N,M,L,O,A,K⟩
 ·simp at E
 ·simp only[Value.slice.injEq,Option.some.injEq,Addr.mk.injEq,and_true,true_and] at E
  obtain⟨rfl,rfl⟩:=E
  refine .inr ⟨g,q,D,rfl,N,M,by omega,O,A,?_⟩
  rw[List.map_dropLast,←K,List.dropLast_eq_take,List.length_take,List.take_take]
  congr 1
  have:D.toList.length=q:=by rw[Array.length_toList,A,Nat.mul_one]
  omega
theorem zgw {P:Program} (w:World) {J:Array Oper} {rest:List Oper} {o:Oper} {a:Act} {Q:Exit→Act→World→Prop} (U:o.guard=none) (s x:Operand) (t:TypeId)
  (ho:o.op= .call {callee:=.builtin .append,args:=#[s,x],argTypes:=#[t,t]})
  (q:Nat) (e:TypeId) (i:TypeInfo) (z:Value) (ht:P.underlying t=some (.slice e)) (hi:P.info? e=some i) (hz:i.zero=some z) (H:i.size=1) (O:i.bytes=16) (V:z.cells.size=1)
  (g n K:Nat) (xs:List ByteArray) (hs:a.eval s= .slice (some ⟨g,0,none⟩) n K) (D:zcm w q e g n K xs)
  (b:ByteArray) (hx:a.eval x= .slice (some ⟨w.heap.size,0,none⟩) 1 1) (hn:n+1≤1000000) (E:q≤w.heap.size)
  (h: ∀L A I,zcm I q e L (n+1) A (xs++[b])→Below q w I→wpList P J Q rest (a.put o.dst (.slice (some ⟨L,0,none⟩) (n+1) A)) I):
  wpList P J Q (o::rest) a (w.alloc (.cells #[.string b] e)):=by
 refine wpList_append_own _ U s x t ho q e i z 1 16 ht hi hz H O V (by decide) _ n _ hs (D.1.alloc _) ⟨w.heap.size,0,none⟩ 1 1 [.string b] hx rfl ?_ ?_ ?_ ?_ ?_ ?_
 ·intro j u M
  match j,M with
  |0,M=>
   simp at M
   subst M
   simp[Addr.add]
 ·intro u Y
  simp at Y
  subst Y
  rfl
 ·unfold maxLen;omega
 ·omega
 ·simp;omega
 ·intro v' I X h2 h3
  have Z:Below q w I:=((Below.refl q w).alloc E _).grown h2 (by simp;omega) (zhc D.1)
  rcases X.2 with ⟨hv,_⟩|⟨L,A,aa,rfl,N⟩
  ·have:=(h3.1 hv).1
   simp at this
  ·refine h L A I ⟨?_,by rw[List.length_append];have:=D.2;simp;omega⟩ Z
   rw[List.map_append]
   exact X
structure FilesAt (w:World) (a:Option Addr) (b off len:Nat) (Pt Tx:Nat→ByteArray):Prop where
 addr:0<len→a=some ⟨b,off,none⟩
 lt:0<len→b<w.heap.size
 path: ∀j,j<len→w.cell? ⟨b,off+j*2,none⟩=some (.string (Pt j))
 text: ∀j,j<len→w.cell? ⟨b,off+j*2+1,none⟩=some (.string (Tx j))
theorem FilesAt.later {w E:World} {a:Option Addr} {b z q:Nat} {I H:Nat→ByteArray} (h:FilesAt w a b z q I H) (A:Below w.heap.size w E):FilesAt E a b z q I H:=
 ⟨h.addr,fun k=>Nat.lt_of_lt_of_le (h.lt k) A.size,fun j D=>by rw[A.cell (h.lt (by omega))];exact h.path j D,fun j D=>by rw[A.cell (h.lt (by omega))];exact h.text j D⟩
def OwnF (w:World) (base:Nat) (e:TypeId) (g len k:Nat) (Pt Tx:Nat→ByteArray):Prop:=
 ∃xs,w.ownsRow base e 2 (.slice (some ⟨g,0,none⟩) len len) len xs∧∀j,j<k→xs[j*2]? =some (.string (Pt j))∧xs[j*2+1]? =some (.string (Tx j))
theorem OwnF.has {w:World} {q g z k:Nat} {e:TypeId} {H D:Nat→ByteArray} (h:OwnF w q e g z k H D) (j:Nat) (E:j<z*2): ∃v,w.cell? ⟨g,j,none⟩=some v:=by
 obtain⟨J,A,_⟩:=h
 have I:=A.1
 rw[A.cellAt j E]
 exact⟨_,List.getElem?_eq_getElem (by omega)⟩
theorem OwnF.free {w:World} {q g z k:Nat} {e:TypeId} {E A:Nat→ByteArray} (h:OwnF w q e g z k E A) (j:Nat):w.frozen? ⟨g,j,none⟩=false:=by
 obtain⟨H,D,_⟩:=h
 exact D.frozenAt j
theorem OwnF.lt {w:World} {q g A k:Nat} {e:TypeId} {L E:Nat→ByteArray} (h:OwnF w q e g A k L E):g<w.heap.size∧q≤g:=by
 obtain⟨N,H,_⟩:=h
 rcases H.2 with ⟨z,_⟩|⟨M,D,K,z,J,I,_⟩
 ·simp at z
 ·simp only[Value.slice.injEq,Option.some.injEq,Addr.mk.injEq,and_true,true_and] at z
  obtain⟨rfl,rfl⟩:=z
  exact⟨(Array.getElem?_eq_some_iff.1 I).1,J⟩
theorem OwnF.files {w:World} {z g q:Nat} {e:TypeId} {J E:Nat→ByteArray} (h:OwnF w z e g q q J E):FilesAt w (some ⟨g,0,none⟩) g 0 q J E:=by
 have D:=h.lt.1
 obtain⟨K,H,I⟩:=h
 refine⟨fun _=>rfl,fun _=>D,fun j A=>?_,fun j A=>?_⟩
 ·rw[Nat.zero_add,H.cellAt _ (by omega)]
  exact (I j A).1
 ·rw[Nat.zero_add,H.cellAt _ (by omega)]
  exact (I j A).2
theorem OwnF.later {w H:World} {q g A k:Nat} {e:TypeId} {M L:Nat→ByteArray} (h:OwnF w q e g A k M L) (N:Below w.heap.size w H):OwnF H q e g A k M L:=by
 have E:=h.lt.1
 obtain⟨V,K,U⟩:=h
 refine⟨V,⟨K.1,?_⟩,U⟩
 rcases K.2 with k|⟨Y,J,D,I,z,O,X⟩
 ·exact .inl k
 ·simp only[Value.slice.injEq,Option.some.injEq,Addr.mk.injEq,and_true,true_and] at I
  obtain⟨rfl,rfl⟩:=I
  exact .inr ⟨g,A,D,rfl,z,(N.block g E).trans O,X⟩
def fpB (p:ByteArray):Bool:=zaS p&& !(p.toList==[47])&&((zaH p).toList==p.toList)
def zjS (p t:ByteArray):Bool:=fpB p&&decide ((t.size:Int)≤1500)
abbrev zoS (len:Nat) (Pt Tx:Nat→ByteArray):Prop:=len≤8∧∀k,k<len→zjS (Pt k) (Tx k)=true∧(0<k→Op.bytesLess (Pt (k-1)).toList (Pt k).toList=true)
def zoT (len:Nat) (Pt Tx:Nat→ByteArray):Bool:=decide (zoS len Pt Tx)
abbrev zvD (k:Nat) (Pt Tx:Nat→ByteArray):Prop:=∀j,j<k→zjS (Pt j) (Tx j)=true∧(0<j→Op.bytesLess (Pt (j-1)).toList (Pt j).toList=true)
theorem zoU {p:ByteArray} (q:p.toList.isEmpty=false) (h:((zaH p).toList==p.toList)=true):zaS p=true:=by
 cases w:zaS p with
 |true=>rfl
 |false=>
  rw[zh6 w] at h
  have e:=(zdN _ _).1 h
  rw[←e,Lib.toList_data] at q
  cases q
def zhB (Pt Tx:Nat→ByteArray) (q:ByteArray):Nat→ByteArray×Bool
 |0=>({data:=#[]},false)
 |k+1=>if (zhB Pt Tx q k).2=true then zhB Pt Tx q k else if Pt k=q then (Tx k,true) else ({data:=#[]},false)
def zvE (len:Nat) (Pt Tx:Nat→ByteArray) (q:ByteArray):ByteArray×Bool:=if zoT len Pt Tx=true then zhB Pt Tx q len else ({data:=#[]},false)
end Go.Proofs.YtcidlffeeninbaaGreat
