/-
  Two programs in memory side by side. No program is spoken of but for the numbers of its types.
  Lines of a program's text,as plain functions. No program is spoken of.
  A program's text: its lines,one behind the other. No program is spoken of.
  What a program declares,as plain functions. No program is spoken of.
  What each step of reading keeps,the whole reading keeps; so a program that was read has no request twice. No program is spoken of.
  A program that was read has no statement of DefaultName that is no let. No program is spoken of.
  What a Print and a Parse tell,as a ModOk takes it. No program is spoken of but for the numbers of its types.
  What l4Same of the specification answers,the model's != handed in: the walk.
-/
import Derived.Deep.Cut
import Derived.Test.YtjdddblpfbmpaaaGreatCoImplParseJToEqRow
namespace Go.Proofs.YtjdddblpfbmpaaaGreat
set_option maxRecDepth 100000
set_option maxHeartbeats 12800000
open Go.RowKit Go.PlainAid Go.Sort
theorem zdI (l:List ByteArray):l.map Value.string=l.flatMap (fun x=>[Value.string x]):=by
 induction l with
 |nil=>rfl
 |cons x l h=>rw[List.map_cons,List.flatMap_cons,h];rfl
def TwoM (w0:World) (b1 b2:Nat) (S1 S2:Sv) (m1 m2:Md) (w:World):Prop:=
 w.heap[w0.heap.size]? =some (.cells #[.slice S1.rq.a m1.rq.length S1.rq.cap,.slice S1.im.a m1.im.length S1.im.cap,.slice S1.ep.a m1.ep.length S1.ep.cap,.slice S1.st.a m1.st.length S1.st.cap,.slice S1.ex.a m1.ex.length S1.ex.cap] 36 (0,0))∧w.heap[w0.heap.size+1]? =some (.cells #[.slice S2.rq.a m2.rq.length S2.rq.cap,.slice S2.im.a m2.im.length S2.im.cap,.slice S2.ep.a m2.ep.length S2.ep.cap,.slice S2.st.a m2.st.length S2.st.cap,.slice S2.ex.a m2.ex.length S2.ex.cap] 36 (0,0))∧OwnMd w b1 S1 m1∧OwnMd w b2 S2 m2∧Below w0.heap.size w0 w
theorem TwoM.later {w0 w z:World} {q b2:Nat} {D n:Sv} {E A:Md} (h:TwoM w0 q b2 D n E A w) (j:Below w.heap.size w z):TwoM w0 q b2 D n E A z:=
 ⟨(j.block _ (Array.getElem?_eq_some_iff.1 h.1).1).trans h.1,(j.block _ (Array.getElem?_eq_some_iff.1 h.2.1).1).trans h.2.1,h.2.2.1.later j,h.2.2.2.1.later j,h.2.2.2.2.trans (j.mono h.2.2.2.2.size)⟩
theorem zfV (w:World) (D b2:Nat) (h j:Sv) (n q:Md) (H:OwnMd w D h n) (E:OwnMd w b2 j q):TwoM w D b2 h j n q ((w.alloc (.cells #[.slice h.rq.a n.rq.length h.rq.cap,.slice h.im.a n.im.length h.im.cap,.slice h.ep.a n.ep.length h.ep.cap,.slice h.st.a n.st.length h.st.cap,.slice h.ex.a n.ex.length h.ex.cap] 36)).alloc (.cells #[.slice j.rq.a q.rq.length j.rq.cap,.slice j.im.a q.im.length j.im.cap,.slice j.ep.a q.ep.length j.ep.cap,.slice j.st.a q.st.length j.st.cap,.slice j.ex.a q.ex.length j.ex.cap] 36)):=by
 have A:Below w.heap.size w (w.alloc (.cells #[.slice h.rq.a n.rq.length h.rq.cap,.slice h.im.a n.im.length h.im.cap,.slice h.ep.a n.ep.length h.ep.cap,.slice h.st.a n.st.length h.st.cap,.slice h.ex.a n.ex.length h.ex.cap] 36)):=(Below.refl _ _).alloc (Nat.le_refl _) _
 have z:Below (w.alloc (.cells #[.slice h.rq.a n.rq.length h.rq.cap,.slice h.im.a n.im.length h.im.cap,.slice h.ep.a n.ep.length h.ep.cap,.slice h.st.a n.st.length h.st.cap,.slice h.ex.a n.ex.length h.ex.cap] 36)).heap.size (w.alloc (.cells #[.slice h.rq.a n.rq.length h.rq.cap,.slice h.im.a n.im.length h.im.cap,.slice h.ep.a n.ep.length h.ep.cap,.slice h.st.a n.st.length h.st.cap,.slice h.ex.a n.ex.length h.ex.cap] 36)) ((w.alloc (.cells #[.slice h.rq.a n.rq.length h.rq.cap,.slice h.im.a n.im.length h.im.cap,.slice h.ep.a n.ep.length h.ep.cap,.slice h.st.a n.st.length h.st.cap,.slice h.ex.a n.ex.length h.ex.cap] 36)).alloc (.cells #[.slice j.rq.a q.rq.length j.rq.cap,.slice j.im.a q.im.length j.im.cap,.slice j.ep.a q.ep.length j.ep.cap,.slice j.st.a q.st.length j.st.cap,.slice j.ex.a q.ex.length j.ex.cap] 36)):=(Below.refl _ _).alloc (Nat.le_refl _) _
 refine⟨(z.block _ (by rw[zk];omega)).trans (heap_alloc_new w _),?_,(H.later A).later z,(E.later A).later z,A.trans (z.mono (by rw[zk];omega))⟩
 have:=heap_alloc_new (w.alloc (.cells #[.slice h.rq.a n.rq.length h.rq.cap,.slice h.im.a n.im.length h.im.cap,.slice h.ep.a n.ep.length h.ep.cap,.slice h.st.a n.st.length h.st.cap,.slice h.ex.a n.ex.length h.ex.cap] 36)) (.cells #[.slice j.rq.a q.rq.length j.rq.cap,.slice j.im.a q.im.length j.im.cap,.slice j.ep.a q.ep.length j.ep.cap,.slice j.st.a q.st.length j.st.cap,.slice j.ex.a q.ex.length j.ex.cap] 36)
 rw[zk] at this
 exact this
def zdJ (m:Md):Prop:=m.rq.length≤4294967296∧m.im.length≤4294967296∧m.ep.length≤4294967296∧m.st.length≤4294967296∧m.ex.length≤4294967296
theorem zhu {a b:Md} (n:a.rq=b.rq) (h:a.im=b.im) (w:a.ep=b.ep) (j:a.st=b.st) (q:a.ex=b.ex):a=b:=by
 cases a
 cases b
 simp only at n h w j q
 rw[n,h,w,j,q]
def zaq (s:ByteArray):ByteArray:=({data:=#[34]}:ByteArray)++s++({data:=#[34]}:ByteArray)
def asT (a b:ByteArray):ByteArray:=if a.toList==b.toList then a else a++({data:=#[32,97,115,32]}:ByteArray)++b
def zU (x:Im):ByteArray:=
 if x.first.toList==[42] then ({data:=#[105,109,112,111,114,116,32,42,32,97,115,32]}:ByteArray)++x.loc++({data:=#[32,102,114,111,109,32]}:ByteArray)++zaq x.spec++({data:=#[59,10]}:ByteArray)
 else if x.first.toList==[100,101,102,97,117,108,116] then ({data:=#[105,109,112,111,114,116,32]}:ByteArray)++x.loc++({data:=#[32,102,114,111,109,32]}:ByteArray)++zaq x.spec++({data:=#[59,10]}:ByteArray)
 else ({data:=#[105,109,112,111,114,116,32,123,32]}:ByteArray)++asT x.first x.loc++({data:=#[32,125,32,102,114,111,109,32]}:ByteArray)++zaq x.spec++({data:=#[59,10]}:ByteArray)
def zaW (x:Ep):ByteArray:=
 if x.kind==3 then ({data:=#[101,120,112,111,114,116,32,42,32,102,114,111,109,32]}:ByteArray)++zaq x.spec++({data:=#[59,10]}:ByteArray)
 else if x.kind==2 then ({data:=#[101,120,112,111,114,116,32,123,32]}:ByteArray)++asT x.loc x.name++({data:=#[32,125,32,102,114,111,109,32]}:ByteArray)++zaq x.spec++({data:=#[59,10]}:ByteArray)
 else ({data:=#[101,120,112,111,114,116,32,123,32]}:ByteArray)++asT x.loc x.name++({data:=#[32,125,59,10]}:ByteArray)
def zav (k:Int) (n e:ByteArray):ByteArray:=
 if k==1 then (if n.toList==[42,100,101,102,97,117,108,116] then ({data:=#[101,120,112,111,114,116,32,100,101,102,97,117,108,116,32]}:ByteArray)++e++({data:=#[59,10]}:ByteArray) else ({data:=#[108,101,116,32]}:ByteArray)++n++({data:=#[32,61,32]}:ByteArray)++e++({data:=#[59,10]}:ByteArray))
 else if k==2 then ({data:=#[102,117,110,99,116,105,111,110,32]}:ByteArray)++n++({data:=#[40,41,32,123,32,114,101,116,117,114,110,32]}:ByteArray)++e++({data:=#[59,32,125,10]}:ByteArray)
 else if k==3 then n++({data:=#[32,61,32]}:ByteArray)++e++({data:=#[59,10]}:ByteArray)
 else if k==4 then ({data:=#[112,114,105,110,116,40]}:ByteArray)++e++({data:=#[41,59,10]}:ByteArray)
 else if k==5 then ({data:=#[116,104,114,111,119,32]}:ByteArray)++e++({data:=#[59,10]}:ByteArray)
 else ({data:=#[102,97,105,108,32]}:ByteArray)++e++({data:=#[59,10]}:ByteArray)
def zc8 (k:Int) (n e:ByteArray):ByteArray:=if n.toList==[42,100,101,102,97,117,108,116] then ({data:=#[101,120,112,111,114,116,32,100,101,102,97,117,108,116,32]}:ByteArray)++e++({data:=#[59,10]}:ByteArray) else zav k n e
def rqT (s:ByteArray):ByteArray:=({data:=#[105,109,112,111,114,116,32]}:ByteArray)++zaq s++({data:=#[59,10]}:ByteArray)
def acc {α:Type} (f:α→ByteArray) (l:List α) (t:ByteArray):ByteArray:=l.foldl (fun t x=>t++f x) t
theorem zbO {α:Type} (f:α→ByteArray) {l:List α} {j:Nat} {x:α} (h:l[j]? =some x) (t:ByteArray):acc f (l.take (j+1)) t=acc f (l.take j) t++f x:=by
 obtain⟨n,rfl⟩:=List.getElem?_eq_some_iff.1 h
 rw[List.take_succ_eq_append_getElem n,acc,List.foldl_append]
 rfl
theorem zdm {α:Type} (f:α→ByteArray) (l:List α): ∀t:ByteArray,t.size≤(acc f l t).size:=by
 induction l with
 |nil=>intro t;exact Nat.le_refl _
 |cons x l h=>
  intro t
  refine Nat.le_trans ?_ (h (t++f x))
  rw[ByteArray.size_append]
  omega
theorem zl1 {α:Type} (f:α→ByteArray) (a b:List α) (t:ByteArray):acc f (a++b) t=acc f b (acc f a t):=by rw[acc,List.foldl_append];rfl
theorem zcV {α:Type} (f:α→ByteArray) (l:List α) (j:Nat) (t:ByteArray):(acc f (l.take j) t).size≤(acc f l t).size:=by
 have:acc f l t=acc f (l.drop j) (acc f (l.take j) t):=by rw[←zl1,List.take_append_drop]
 rw[this]
 exact zdm f _ _
def epF (x:Ep):ByteArray:=if x.loc.toList==[42,100,101,102,97,117,108,116] then sNone else zaW x
def stF (ex:List Ex) (s:Sm):ByteArray:=zav s.kind s.name (prX ex s.expr.toNat)
def zcd (ex:List Ex) (s:Sm):ByteArray:=zc8 s.kind s.name (prX ex s.expr.toNat)
def zb7 (m:Md):ByteArray:=acc epF m.ep (acc zU m.im (acc rqT m.rq sNone))
def zbP (m:Md):ByteArray:=acc (stF m.ex) m.st (zb7 m)
def zbp (m:Md):ByteArray:=acc (zcd m.ex) m.st (zb7 m)
def PrintOut (T:ByteArray) (m:Md) (e:Ending):Prop:=(Tree m∧e= .returned (.string T))∨(¬Tree m∧e= .returned (.string sNone))
structure Small (m:Md):Prop where
 rq: ∀x∈m.rq,x.size≤4294967296
 im: ∀x∈m.im,x.spec.size≤4294967296∧x.first.size≤4294967296∧x.loc.size≤4294967296
 ep: ∀x∈m.ep,x.spec.size≤4294967296∧x.name.size≤4294967296∧x.loc.size≤4294967296
 st: ∀x∈m.st,x.name.size≤4294967296
 nums:zaR m.ex
 few:m.rq.length≤4294967296∧m.im.length≤4294967296∧m.ep.length≤4294967296∧m.st.length≤4294967296∧m.ex.length≤4294967296
abbrev dN:List UInt8:=[42,100,101,102,97,117,108,116]
def zl2 (s:Sm):Bool:=(s.kind==1||s.kind==2)&& !(s.name.toList==dN)
def stN (l:List Sm):List ByteArray:=(l.filter zl2).map (·.name)
def imN (l:List Im):List ByteArray:=l.map (·.loc)
def zrd (m:Md):List ByteArray:=stN m.st++imN m.im
def KG {α:Type} (R:PS→PS→Prop) (p:α→PS) (x:Except Nat α) (q:PS):Prop:=∀a,x= .ok a→R q (p a)
def zhv (C:Cx) (k:Int) (n:ByteArray):Prop:=n=sNone∨k=1∨∃i o,zB C i o=true∧n=(ze C i).text
def zl3 (x:Ep):Prop:=x.kind=1→x.spec=sNone
structure Kept (C:Cx) (R:PS→PS→Prop):Prop where
 rfl': ∀q,R q q
 tr: ∀{a b c},R a b→R b c→R a c
 adv: ∀q,R q (adv q)
 ex: ∀x q,KG R id (zL C x q) q
 im: ∀x q,KG R id (zan C x q) q
 ep: ∀x q,zl3 x→KG R id (zn C x q) q
 sp: ∀q,KG R Prod.fst (zG C q) q
 st: ∀k n q,zhv C k n→KG R id (zV C k n q) q
theorem KG.bd {C:Cx} {R:PS→PS→Prop} {α β:Type} (H:Kept C R) {p:α→PS} {r:β→PS} {x:Except Nat α} {f:α→Except Nat β} {q:PS} (h:KG R p x q) (k: ∀a,x= .ok a→KG R r (f a) (p a)):KG R r (bd x f) q:=by
 intro b w
 obtain⟨a,j,n⟩:=zj w
 exact H.tr (h a j) (k a j b n)
theorem KG.after {C:Cx} {R:PS→PS→Prop} (H:Kept C R) {α:Type} {r:α→PS} {y:Except Nat α} {q q':PS} (h:R q q') (k:KG R r y q'):KG R r y q:=fun b j=>H.tr h (k b j)
theorem KG.ok {C:Cx} {R:PS→PS→Prop} (H:Kept C R) {α:Type} {p:α→PS} {a:α}:KG R p (.ok a) (p a):=fun b h=>by cases h;exact H.rfl' _
theorem KG.err {R:PS→PS→Prop} {α:Type} {p:α→PS} {e:Nat} {q:PS}:KG R p (.error e) q:=fun b h=>by cases h
theorem zal {C:Cx} {R:PS→PS→Prop} (H:Kept C R) (k:Int) (x:ByteArray) (q:PS):KG R id (zd C k x q) q:=fun a h=>by obtain⟨rfl,_⟩:=zbx h;exact H.adv q
theorem zcN {C:Cx} {R:PS→PS→Prop} (H:Kept C R) (o:Bool) (q:PS):KG R Prod.fst (zh C o q) q:=fun a h=>by obtain⟨rfl,_⟩:=zbc h;exact H.adv q
theorem zhw {C:Cx} {R:PS→PS→Prop} (H:Kept C R) (n:ByteArray) (q:PS):KG R id (zbm C n q) q:=by
 unfold zbm
 split
 ·exact .bd H (.bd H (zal H _ _ _) fun _ _=>zal H _ _ _) fun _ _=>H.ex _ _
 ·exact H.ex _ _
theorem zl4 {C:Cx} {R:PS→PS→Prop} (H:Kept C R) (n f:ByteArray) (q:PS):KG R id (zbw C n f q) q:=by
 unfold zbw
 split
 ·exact .bd H (.bd H (zal H _ _ _) fun _ _=>zal H _ _ _) fun _ _=>H.ex _ _
 ·exact H.ex _ _
theorem zl5 {C:Cx} {R:PS→PS→Prop} (H:Kept C R) (f:Nat): ∀(j:NT) (d:Nat) (q:PS),KG R id (ev C f j d q) q:=by
 induction f with
 |zero=>intro j d q;cases j using NT.elim<;>exact .err
 |succ f h=>
  intro j d q
  cases j using NT.elim<;>rw[ev]
  ·exact .bd H (h _ _ _) fun _ _=>h _ _ _
  ·split
   ·exact .bd H (.bd H (.after H (H.adv q) (h _ _ _)) fun _ _=>H.ex _ _) fun _ _=>h _ _ _
   ·exact .ok (p:=id) H
  ·exact .bd H (h _ _ _) fun _ _=>h _ _ _
  ·split
   ·exact .bd H (.bd H (.after H (H.adv q) (h _ _ _)) fun _ _=>H.ex _ _) fun _ _=>h _ _ _
   ·exact .ok (p:=id) H
  ·split
   ·exact .after H (H.adv q) (H.ex _ _)
   ·split
    ·split
     ·exact .err
     ·exact .bd H (.after H (H.adv q) (h _ _ _)) fun _ _=>zal H _ _ _
    ·split
     ·exact .after H (H.adv q) (zhw H _ _)
     ·refine .bd H (zcN H _ _) fun a _=>?_
      split
      ·exact .bd H (.after H (H.adv _) (zcN H _ _)) fun _ _=>zl4 H _ _ _
      ·exact zhw H _ _
theorem zdK {C:Cx} {R:PS→PS→Prop} (H:Kept C R) (h:NT) (d:Nat) (q:PS):KG R id (pE C h d q) q:=zl5 H _ _ _ _
theorem zhx {C:Cx} {R:PS→PS→Prop} (H:Kept C R) {y:PRN} {F:PR→ByteArray→PR} {q:PS} (h:KG R Prod.fst y q) (k: ∀a,y= .ok a→KG R id (F (.ok a.1) a.2) a.1):KG R Prod.fst (withN y F) q:=
 .bd H h fun a j=>.bd (r:=Prod.fst) H (k a j) fun b _=>.ok (p:=Prod.fst) (a:=(b,a.2)) H
theorem zhy {C:Cx} {R:PS→PS→Prop} (H:Kept C R) (q:PS):KG R Prod.fst (zci C q) q:=
 zhx H (.bd H (zal H _ _ _) fun _ _=>zcN H _ _) fun _ _=>.bd H (.bd H (.bd H (.bd (p:=id) H (.ok (p:=id) H) fun _ _=>zal H _ _ _) fun _ _=>zdK H _ _ _) fun _ _=>zal H _ _ _) fun _ _=>H.st _ _ _ (.inr (.inl rfl))
theorem zhz {C:Cx} {k:Int} {o:Bool} {q:PS} {a:PS×ByteArray} (h:zh C o q= .ok a):zhv C k a.2:=by
 obtain⟨rfl,j⟩:=zbc h
 exact .inr (.inr ⟨_,_,j,rfl⟩)
theorem zh0 {C:Cx} {R:PS→PS→Prop} (H:Kept C R) (q:PS):KG R Prod.fst (fnP C q) q:=
 zhx H (.bd H (zal H _ _ _) fun _ _=>zcN H _ _) fun a h=>.bd H (.bd H (.bd H (.bd H (.bd H (.bd H (.bd H (.bd (p:=id) H (.ok (p:=id) H) fun _ _=>zal H _ _ _) fun _ _=>zal H _ _ _) fun _ _=>zal H _ _ _) fun _ _=>zal H _ _ _) fun _ _=>zdK H _ _ _) fun _ _=>zal H _ _ _) fun _ _=>zal H _ _ _) fun _ _=>H.st _ _ _ (by
  obtain⟨b,_,j⟩:=zj h
  exact zhz j)
theorem zl6 {C:Cx} {R:PS→PS→Prop} (H:Kept C R) (e:Bool) (a:PS×ByteArray):KG R Prod.fst (asP C e a) a.1:=by
 unfold asP
 split
 ·exact .after H (H.adv _) (zcN H _ _)
 ·split
  ·exact .err
  ·exact .ok (p:=Prod.fst) H
theorem zl7 {C:Cx} {R:PS→PS→Prop} (H:Kept C R) (e:Bool) (f:Nat): ∀(q:PS) (acc:List Ep),KG R Prod.fst (zcH C e f q acc) q:=by
 induction f with
 |zero=>intro q acc;exact .err
 |succ f h=>
  intro q acc
  rw[zcH]
  refine .bd H (zcN H _ _) fun a _=>.bd H (zl6 H _ _) fun b _=>?_
  split
  ·exact .after H (H.adv _) (h _ _)
  ·exact .bd (r:=Prod.fst) H (zal H _ _ _) fun c _=>.ok (p:=Prod.fst) (a:=(c,_)) H
theorem zh1 {C:Cx} {R:PS→PS→Prop} (H:Kept C R) (e:Bool) (q:PS):KG R Prod.fst (zcw C e q) q:=.bd H (zal H _ _ _) fun _ _=>zl7 H _ _ _ _
theorem zeu {C:Cx} {R:PS→PS→Prop} (H:Kept C R) {x:PR} {q:PS} (h:KG R id x q):KG R Prod.fst (zaN C (za8 C x)) q:=
 .bd H (.bd H (.bd H h fun _ _=>zal H _ _ _) fun _ _=>H.sp _) fun a _=>.bd (r:=Prod.fst) H (zal H _ _ _) fun c _=>.ok (p:=Prod.fst) (a:=(c,a.2)) H
theorem zfW {C:Cx} {R:PS→PS→Prop} (H:Kept C R) {α:Type} {f:α→PS→PR} (n: ∀a q,KG R id (f a q) q) (l:List α): ∀(x:PR) (q:PS),KG R id x q→KG R id (zQ f l x) q:=by
 induction l with
 |nil=>intro x q h;exact h
 |cons a l j=>intro x q h;exact j _ _ (.bd H h fun _ _=>n _ _)
theorem zl8 {C:Cx} {R:PS→PS→Prop} (H:Kept C R) (q:PS):KG R id (zaH C q) q:=by
 refine .bd H (zal H _ _ _) fun h _=>?_
 split
 ·exact .bd H (zh1 H _ _) fun a _=>.bd H (zeu H (.ok (p:=id) H)) fun b _=>zfW H (fun _ _=>H.im _ _) _ _ _ (.ok (p:=id) H)
 ·split
  ·exact .bd H (.bd H (.bd H (zal H _ _ _) fun _ _=>zal H _ _ _) fun _ _=>zcN H _ _) fun a _=>.bd H (zeu H (.ok (p:=id) H)) fun _ _=>H.im _ _
  ·split
   ·exact .bd H (zcN H _ _) fun a _=>.bd H (zeu H (.ok (p:=id) H)) fun _ _=>H.im _ _
   ·exact .bd H (H.sp _) fun _ _=>zal H _ _ _
theorem zl9 {C:Cx} {R:PS→PS→Prop} (H:Kept C R) (q:PS):KG R id (zae C q) q:=by
 refine .bd H (zal H _ _ _) fun j _=>?_
 split
 ·refine .bd H (zh1 H _ _) fun a _=>?_
  split
  ·exact .bd H (zal H _ _ _) fun _ _=>zfW H (fun _ _=>H.ep _ _ (by first|exact fun _=>rfl|exact fun h=>absurd (show (2:Int)=1 from h) (by decide)|exact fun h=>absurd (show (3:Int)=1 from h) (by decide))) _ _ _ (.ok (p:=id) H)
  ·exact .bd H (zeu H (.ok (p:=id) H)) fun _ _=>zfW H (fun _ _=>H.ep _ _ (by first|exact fun _=>rfl|exact fun h=>absurd (show (2:Int)=1 from h) (by decide)|exact fun h=>absurd (show (3:Int)=1 from h) (by decide))) _ _ _ (.ok (p:=id) H)
 ·split
  ·exact .bd H (zeu H (zal H _ _ _)) fun _ _=>H.ep _ _ (by first|exact fun _=>rfl|exact fun h=>absurd (show (2:Int)=1 from h) (by decide)|exact fun h=>absurd (show (3:Int)=1 from h) (by decide))
  ·split
   ·exact .bd H (.bd H (.bd H (.bd H (zal H _ _ _) fun _ _=>zdK H _ _ _) fun _ _=>zal H _ _ _) fun _ _=>H.st _ _ _ (.inr (.inl rfl))) fun _ _=>H.ep _ _ (by first|exact fun _=>rfl|exact fun h=>absurd (show (2:Int)=1 from h) (by decide)|exact fun h=>absurd (show (3:Int)=1 from h) (by decide))
   ·split
    ·exact .bd H (zhy H _) fun _ _=>H.ep _ _ (by first|exact fun _=>rfl|exact fun h=>absurd (show (2:Int)=1 from h) (by decide)|exact fun h=>absurd (show (3:Int)=1 from h) (by decide))
    ·split
     ·exact .bd H (zh0 H _) fun _ _=>H.ep _ _ (by first|exact fun _=>rfl|exact fun h=>absurd (show (2:Int)=1 from h) (by decide)|exact fun h=>absurd (show (3:Int)=1 from h) (by decide))
     ·exact .err
theorem zh2 {C:Cx} {R:PS→PS→Prop} (H:Kept C R) (s:ByteArray) (k:Int) (q:PS):KG R id (bd (bd (bd (zd C 1 s q) (pE C .sum 0)) (zd C 4 cSemi)) (zV C k sNone)) q:=
 .bd H (.bd H (.bd H (zal H _ _ _) fun _ _=>zdK H _ _ _) fun _ _=>zal H _ _ _) fun _ _=>H.st _ _ _ (.inl rfl)
theorem zlA {C:Cx} {R:PS→PS→Prop} (H:Kept C R) (q:PS):KG R id (zy C q) q:=by
 unfold zy
 split
 ·exact zl8 H q
 ·split
  ·exact zl9 H q
  ·split
   ·exact .bd H (zhy H q) fun a _=>.ok (p:=id) H
   ·split
    ·exact .bd H (zh0 H q) fun a _=>.ok (p:=id) H
    ·split
     ·exact .bd H (.bd H (.bd H (.bd H (.bd H (zal H _ _ _) fun _ _=>zal H _ _ _) fun _ _=>zdK H _ _ _) fun _ _=>zal H _ _ _) fun _ _=>zal H _ _ _) fun _ _=>H.st _ _ _ (.inl rfl)
     ·split
      ·exact zh2 H _ _ _
      ·split
       ·exact zh2 H _ _ _
       ·exact .bd H (zcN H _ _) fun a h=>.bd H (.bd H (.bd H (zal H _ _ _) fun _ _=>zdK H _ _ _) fun _ _=>zal H _ _ _) fun _ _=>H.st _ _ _ (zhz h)
theorem zlB {C:Cx} {R:PS→PS→Prop} (H:Kept C R) (f:Nat): ∀q,KG R id (zcI C f q) q:=by
 induction f with
 |zero=>intro q;exact .err
 |succ f h=>
  intro q
  rw[zcI]
  split
  ·exact .bd H (zlA H q) fun _ _=>h _
  ·exact .ok (p:=id) H
theorem zlC {R:PS→PS→Prop} {s:ByteArray} {j:Bool} {q:PS} (h:zb1 s j (.ok q)) (H: ∀n,zaa s j (.ok n)→Kept ⟨n,s.size,j⟩ R):R zb0 q:=by
 obtain⟨r,w,e⟩:=h
 cases r with
 |error p=>cases e
 |ok n=>exact zlB (H n w) _ zb0 q e.symm
def zev (st:List Sm):Prop:=∀s∈st,s.name.toList=dN→s.kind=1
def zh3 (ts:List Tk):Prop:=∀t∈ts,t.kind=1→t.text.toList≠dN
theorem zlD {s:ByteArray} {j:Bool} {a e:Nat} {t:Tk} (n:a<s.size) (h:Tok s j a t e):t.kind=1→t.text.toList≠dN:=by
 have D:=(zd3 n h).1
 have z:=(zd3 n h).2.1
 cases h using Tok.elim with
 |name q _=>
  intro _ k
  have w:bt (s.extract a e) 0=42:=by
   rw[zcQ,←Lib.toList_data,k]
   rfl
  have A:bt (s.extract a e) 0=bt s a:=by
   rw[zcQ,zcQ,ByteArray.data_extract]
   simp only[List.getD,List.getElem?_map,Array.getElem?_toList,Array.getElem?_extract]
   rw[if_pos (by have:s.data.size=s.size:=rfl;omega),Nat.add_zero]
  rw[←A,w] at q
  cases j<;>revert q<;>decide
 |num _ _=>intro k;cases k
 |str _ _=>intro k;cases k
 |sign _=>intro k;cases k
theorem zlE {s:ByteArray} {q:Bool} {a n:Nat} {r:Except Nat (List Tk)} (h:Lx s q a n r): ∀j,r= .ok j→zh3 j:=by
 induction h using Lx.ind with
 |done=>intro j k;cases k;intro t z;cases z
 |bad _ _=>intro j k;cases k
 | @tok a n e b t r h H z E D A=>
  intro j k
  cases r with
  |error p=>cases k
  |ok l=>
   cases k
   intro u w
   rcases List.mem_cons.1 w with rfl|w
   ·exact zlD h z
   ·exact A l rfl u w
theorem zlF {C:Cx} (n:zh3 C.ts) {i:Nat} {o:Bool} (h:zB C i o=true):(ze C i).text.toList≠dN:=by
 have j:=zea h
 have e:ze C i=C.ts[i]:=by simp[ze,List.getD,List.getElem?_eq_getElem j]
 simp only[zB,Bool.and_eq_true,beq_iff_eq] at h
 rw[e] at h ⊢
 exact n _ (List.getElem_mem j) h.1
theorem zlG {k:Int} (h:sNone.toList=dN):k=1:=by
 rw[Lib.toList_data] at h
 cases h
theorem zlH {s:ByteArray} {D:Bool} {q:PS} (h:zb1 s D (.ok q)):zev q.st:=by
 refine zlC (R:=fun a b=>zev a.st→zev b.st) h (fun J A=>?_) (fun s w=>by cases w)
 obtain⟨_,_,A⟩:=A
 have I:=zlE A J rfl
 refine⟨fun _ h=>h,fun h k x=>k (h x),fun _ h=>h,?_,?_,?_,?_,?_⟩
 ·intro x q a h j
  obtain⟨rfl,_⟩:=zby h
  exact j
 ·intro x q a h j
  unfold zan at h
  split at h<;>cases h
  exact j
 ·intro x q _ a h j
  unfold zn at h
  split at h
  ·cases h
  ·split at h<;>cases h<;>exact j
 ·intro q a h j
  unfold zG at h
  split at h
  ·split at h
   ·cases h;exact j
   ·split at h<;>cases h
    exact j
  ·cases h
 ·intro k n q z a h j
  unfold zV at h
  split at h<;>cases h
  intro s w
  rcases List.mem_append.1 w with w|w
  ·exact j s w
  ·rw[List.mem_singleton.1 w]
   intro E
   rcases z with rfl|z|⟨i,o,H,rfl⟩
   ·exact zlG E
   ·exact z
   ·exact absurd E (zlF I H)
def PrOf (T:ByteArray) (m:Md) (t:ByteArray):Prop:=(Tree m∧t=T)∨(¬Tree m∧t=sNone)
theorem PrintOut.form {T:ByteArray} {m:Md} {e:Ending} (h:PrintOut T m e): ∃t,PrOf T m t∧e= .returned (.string t):=by
 rcases h with ⟨j,n⟩|⟨j,n⟩
 ·exact⟨T,.inl ⟨j,rfl⟩,n⟩
 ·exact⟨sNone,.inr ⟨j,rfl⟩,n⟩
theorem PrOf.size {T t:ByteArray} {m:Md} {n:Nat} (h:PrOf T m t) (q:Tree m→T.size≤n):t.size≤n:=by
 rcases h with ⟨j,rfl⟩|⟨_,rfl⟩
 ·exact q j
 ·exact Nat.zero_le _
def zdn (t:ByteArray) (scr:Bool) (m:Md):Prop:=∃q,zb1 t scr (.ok q)∧zd8 q=m
def zh4 (T:ByteArray) (m:Md) (scr:Bool) (e:Ending):Prop:=∃t,PrOf T m t∧zbN (zdn t scr m) e
theorem zh5 {t:ByteArray} {j:Bool} {m:Md} {p:Nat} (h:zb1 t j (.error p)): ¬zdn t j m:=by
 rintro⟨q,n,_⟩
 cases zgR h n
theorem zh6 {t:ByteArray} {j:Bool} {m n:Md} {q:PS} (h:zb1 t j (.ok q)) (w:n=zd8 q):zdn t j m↔n=m:=by
 constructor
 ·rintro⟨D,z,A⟩
  cases zgR h z
  rw[w]
  exact A
 ·intro e
  exact⟨q,h,by rw[←w];exact e⟩
theorem ParseOut.md {s:ByteArray} {j:Bool} {w D:World} {e:Ending} (h:ParseOut s j w e D):
  (∃(q:PS) (S:Sv) (n:Md),zb1 s j (.ok q)∧n=zd8 q∧e= .returned (.tuple #[zq S n,.int .i64 (-1)])∧OwnMd D w.heap.size S n∧zdJ n)∨∃p:Nat,zb1 s j (.error p)∧e= .returned (.tuple #[.agg #[.slice none 0 0,.slice none 0 0,.slice none 0 0,.slice none 0 0,.slice none 0 0],.int .i64 p]):=by
 obtain⟨y,E,z⟩:=h
 cases y with
 |ok q=>
  obtain⟨S,I,A⟩:=z
  refine .inl ⟨q,S,zd8 q,E,rfl,I,A.md,?_⟩
  have J:=A.inv
  have H:(zd8 q).ep.length=q.ep.length+q.la.length:=by show (q.ep++q.la).length=_;rw[List.length_append]
  refine⟨?_,?_,by rw[H];omega,?_,?_⟩
  ·show q.rq.length≤_;omega
  ·show q.im.length≤_;omega
  ·show q.st.length≤_;omega
  ·show q.ex.length≤_;omega
 |error p=>exact .inr ⟨p,E,z⟩
theorem zlI {k:Int} {n e:ByteArray} (h:n.toList=dN→k=1):zc8 k n e=zav k n e:=by
 unfold zc8
 split
 ·next j=>
  have q:=eq_of_beq j
  rw[h q,zav,if_pos (by decide),if_pos j]
 ·rfl
theorem zlJ {α:Type} {f g:α→ByteArray} (l:List α): ∀t,(∀x∈l,f x=g x)→acc f l t=acc g l t:=by
 induction l with
 |nil=>intro t _;rfl
 |cons x l j=>
  intro t h
  show acc f l (t++f x)=acc g l (t++g x)
  rw[h x (List.mem_cons_self ..)]
  exact j _ fun y n=>h y (List.mem_cons_of_mem _ n)
theorem zlK {m:Md} (h:zev m.st):zbp m=zbP m:=zlJ _ _ fun s j=>zlI (h s j)
theorem zlL {m:Md} {j:Bool} {z n:ByteArray} (I:PrOf (zbP m) m z) (A:PrOf (zbp m) m n):zdn z j m↔zdn n j m:=by
 by_cases w:zev m.st
 ·have:z=n:=by
   rw[zlK w] at A
   rcases I with ⟨a,rfl⟩|⟨a,rfl⟩<;>rcases A with ⟨b,rfl⟩|⟨b,rfl⟩
   ·rfl
   ·exact absurd a b
   ·exact absurd b a
   ·rfl
  rw[this]
 ·have D: ∀t,¬zdn t j m:=by
   rintro t ⟨q,E,H⟩
   have:=zlH E
   rw[←H] at w
   exact w this
  exact⟨fun h=>absurd h (D _),fun h=>absurd h (D _)⟩
theorem zlM (ac: ∀(x y:Im) (W:World),Sem.run Tryz.prog (binOp .neq 84 (.agg #[.string x.spec,.string x.first,.string x.loc]) (.agg #[.string y.spec,.string y.first,.string y.loc])) W= .ok (.bool (!zc4 x y)) W) (ak: ∀(L:BinOp) (a b:Operand) (x y:Im) (W:World),Sem.run Tryz.prog (eqGuard L 84 a b (.agg #[.string x.spec,.string x.first,.string x.loc]) (.agg #[.string y.spec,.string y.first,.string y.loc])) W= .ok () W) (ai: ∀(x y:Ep) (W:World),Sem.run Tryz.prog (binOp .neq 86 (.agg #[.int .i64 x.kind,.string x.name,.string x.loc,.string x.spec]) (.agg #[.int .i64 y.kind,.string y.name,.string y.loc,.string y.spec])) W= .ok (.bool (!zc5 x y)) W) (af: ∀(L:BinOp) (a b:Operand) (x y:Ep) (W:World),Sem.run Tryz.prog (eqGuard L 86 a b (.agg #[.int .i64 x.kind,.string x.name,.string x.loc,.string x.spec]) (.agg #[.int .i64 y.kind,.string y.name,.string y.loc,.string y.spec])) W= .ok () W) (aj: ∀(x y:Sm) (W:World),Sem.run Tryz.prog (binOp .neq 107 (.agg #[.int .i64 x.kind,.string x.name,.int .i64 x.expr]) (.agg #[.int .i64 y.kind,.string y.name,.int .i64 y.expr])) W= .ok (.bool (!zc6 x y)) W) (ae: ∀(L:BinOp) (a b:Operand) (x y:Sm) (W:World),Sem.run Tryz.prog (eqGuard L 107 a b (.agg #[.int .i64 x.kind,.string x.name,.int .i64 x.expr]) (.agg #[.int .i64 y.kind,.string y.name,.int .i64 y.expr])) W= .ok () W) (ah: ∀(x y:Ex) (W:World),Sem.run Tryz.prog (binOp .neq 109 (.agg #[.int .i64 x.kind,.int .i64 x.num,.string x.name,.string x.field,.int .i64 x.l,.int .i64 x.r]) (.agg #[.int .i64 y.kind,.int .i64 y.num,.string y.name,.string y.field,.int .i64 y.l,.int .i64 y.r])) W= .ok (.bool (!zc7 x y)) W) (ad: ∀(L:BinOp) (a b:Operand) (x y:Ex) (W:World),Sem.run Tryz.prog (eqGuard L 109 a b (.agg #[.int .i64 x.kind,.int .i64 x.num,.string x.name,.string x.field,.int .i64 x.l,.int .i64 x.r]) (.agg #[.int .i64 y.kind,.int .i64 y.num,.string y.name,.string y.field,.int .i64 y.l,.int .i64 y.r])) W= .ok () W) (b1 b2:Nat) (S1 S2:Sv) (n D:Md) (w:World) (J:OwnMd w b1 S1 n) (I:OwnMd w b2 S2 D) (hf:zdJ n):
  Calls Tryz.prog 34 #[zq S1 n,zq S2 D] w fun e w'=>zbN (n=D) e∧Below w.heap.size w w':=by
 have H1:=zc J
 have H2:=zc I
 obtain⟨f1,f2,f3,f4,f5⟩:=hf
 clear J I
 unfold zq
 go_enter Tryz.func34,Tryz.ntmps34
 go_upto_region 1 with fail
 refine zac (R:=TwoM w b1 b2 S1 S2 n D) (zfV w b1 b2 S1 S2 n D H1.out H2.out) ?_
 clear H1 H2
 intro w0 h
 have T:=zc h
 clear h
 obtain⟨c0,c1,Y,c3,c4,cf⟩:=zi T.out.1
 obtain⟨Z,d1,X,d3,d4,df⟩:=zi T.out.2.1
 by_cases q0:(n.rq.length:Int)=(D.rq.length:Int)
 case neg=>
  go_wp2
  go_ret
  exact⟨⟨false,rfl,⟨fun k=>(by cases k),fun k=>absurd (by rw[k]) q0⟩⟩,T.out.2.2.2.2⟩
 by_cases q1:(n.im.length:Int)=(D.im.length:Int)
 case neg=>
  go_wp2
  go_ret
  exact⟨⟨false,rfl,⟨fun k=>(by cases k),fun k=>absurd (by rw[k]) q1⟩⟩,T.out.2.2.2.2⟩
 by_cases q2:(n.ep.length:Int)=(D.ep.length:Int)
 case neg=>
  go_wp2
  go_ret
  exact⟨⟨false,rfl,⟨fun k=>(by cases k),fun k=>absurd (by rw[k]) q2⟩⟩,T.out.2.2.2.2⟩
 by_cases q3:(n.st.length:Int)=(D.st.length:Int)
 case neg=>
  go_wp2
  go_ret
  exact⟨⟨false,rfl,⟨fun k=>(by cases k),fun k=>absurd (by rw[k]) q3⟩⟩,T.out.2.2.2.2⟩
 by_cases q4:(n.ex.length:Int)=(D.ex.length:Int)
 case neg=>
  go_wp2
  go_ret
  exact⟨⟨false,rfl,⟨fun k=>(by cases k),fun k=>absurd (by rw[k]) q4⟩⟩,T.out.2.2.2.2⟩
 go_wp2
 go_loopg [5] n.rq.length (fun k i wr=>∃j:Nat,i= .int .i64 j∧j+k=n.rq.length∧n.rq.take j=D.rq.take j∧TwoM w b1 b2 S1 S2 n D wr)
 case atStart=>exact⟨0,rfl,by omega,rfl,T.out⟩
 case round=>
  obtain⟨j,rfl,hj,ht,hT⟩:=hrel
  clear T c0 c1 Y c3 c4 cf Z d1 X d3 d4 df
  have T:=zc hT
  have V:=zc ht
  clear hT ht
  obtain⟨c0,c1,Y,c3,c4,cf⟩:=zi T.out.1
  obtain⟨Z,d1,X,d3,d4,df⟩:=zi T.out.2.1
  by_cases E:j<n.rq.length
  ·have A:(j:Int)<(n.rq.length:Int):=by omega
   have aa:(j:Int)<(D.rq.length:Int):=by omega
   obtain⟨x,M⟩:=zaV E
   obtain⟨y,O⟩:=zaV (show j<D.rq.length by omega)
   obtain⟨g1,ga,J⟩:=OwnR.elem (f:=(fun x=>[Value.string x])) (m:=1) (fun _=>rfl) (show OwnR wr b1 9 1 S1.rq n.rq.length (n.rq.flatMap (fun x=>[Value.string x])) by rw[←zdI];exact T.out.2.2.1.rq) M
   obtain⟨g2,gb,I⟩:=OwnR.elem (f:=(fun x=>[Value.string x])) (m:=1) (fun _=>rfl) (show OwnR wr b2 9 1 S2.rq D.rq.length (D.rq.flatMap (fun x=>[Value.string x])) by rw[←zdI];exact T.out.2.2.2.1.rq) O
   rw[ga] at c0
   rw[gb] at Z
   have C0:=zc (J 0 (by omega))
   have D0:=zc (I 0 (by omega))
   have HX:=zc M
   have HY:=zc O
   clear J I ga gb M O
   obtain⟨K,H⟩: ∃K,K=j+1:=⟨_,rfl⟩
   have ej:(j:Int)+1=(K:Int):=by omega
   have HJ:=zc H
   clear H
   obtain⟨b,q⟩: ∃b,zfU x y=b:=⟨_,rfl⟩
   have al:(x.toList==y.toList)=b:=q
   go_wp2
   have kc:=cell_regrown c0
   have kd:=cell_regrown Z
   have k0:=cell_regrown C0.out
   have v0:=cell_regrown D0.out
   simp only[Nat.add_zero,Nat.mul_one] at k0 v0
   refine wp_region_quiet_below (by kernel_rfl) (by kernel_rfl) ?_
   repeat (go_big_quiet_step (fail))
   refine wpQuiet_nil ?_
   intro w2 N
   obtain⟨⟨dq,U⟩,z⟩:=N
   have T2:Hid (TwoM w b1 b2 S1 S2 n D w2):=by show TwoM _ _ _ _ _ _ _ _;rw[z];exact T.out.later (below_regrown wr dq U)
   clear z kc kd c0 c1 Y c3 c4 cf Z d1 X d3 d4 df k0 v0 C0 D0
   cases b with
   |true=>
    go_wp2
    go_roundg (gk-1)
    case rel=>exact⟨K,rfl,by have:=HJ.out;omega,by rw[HJ.out];have e:=zeZ.1 q;exact zc2 V.out HX.out (by rw[e];exact HY.out),T2.out⟩
    case measure=>omega
   |false=>
    go_wp2
    go_ret
    exact⟨⟨false,rfl,⟨fun k=>(by cases k),fun k=>(by have e:=HX.out;rw[k,HY.out] at e;cases e;rw[zeZ.2 rfl] at q;cases q)⟩⟩,T2.out.2.2.2.2⟩
  ·have A: ¬(j:Int)<(n.rq.length:Int):=by omega
   obtain rfl:j=n.rq.length:=by omega
   have A0:=zc (zc3 (by omega) V.out)
   clear V A E hj
   go_wp2
   go_loopg [6] n.im.length (fun k i wr=>∃j:Nat,i= .int .i64 j∧j+k=n.im.length∧n.im.take j=D.im.take j∧TwoM w b1 b2 S1 S2 n D wr)
   case atStart=>exact⟨0,rfl,by omega,rfl,T.out⟩
   case round=>
    obtain⟨j,rfl,hj,ht,hT⟩:=hrel
    clear T c0 c1 Y c3 c4 cf Z d1 X d3 d4 df
    have T:=zc hT
    have V:=zc ht
    clear hT ht
    obtain⟨c0,c1,Y,c3,c4,cf⟩:=zi T.out.1
    obtain⟨Z,d1,X,d3,d4,df⟩:=zi T.out.2.1
    by_cases E:j<n.im.length
    ·have A:(j:Int)<(n.im.length:Int):=by omega
     have aa:(j:Int)<(D.im.length:Int):=by omega
     obtain⟨x,M⟩:=zaV E
     obtain⟨y,O⟩:=zaV (show j<D.im.length by omega)
     obtain⟨g1,ga,J⟩:=OwnR.elem (f:=imL) (m:=3) (fun _=>rfl) T.out.2.2.1.im M
     obtain⟨g2,gb,I⟩:=OwnR.elem (f:=imL) (m:=3) (fun _=>rfl) T.out.2.2.2.1.im O
     rw[ga] at c1
     rw[gb] at d1
     have C0:=zc (J 0 (by omega))
     have D0:=zc (I 0 (by omega))
     have C1:=zc (J 1 (by omega))
     have D1:=zc (I 1 (by omega))
     have C2:=zc (J 2 (by omega))
     have D2:=zc (I 2 (by omega))
     have HX:=zc M
     have HY:=zc O
     clear J I ga gb M O
     obtain⟨K,H⟩: ∃K,K=j+1:=⟨_,rfl⟩
     have ej:(j:Int)+1=(K:Int):=by omega
     have HJ:=zc H
     clear H
     obtain⟨b,q⟩: ∃b,zc4 x y=b:=⟨_,rfl⟩
     have ab: ∀W:World,Sem.run Tryz.prog (binOp .neq 84 (.agg #[.string x.spec,.string x.first,.string x.loc]) (.agg #[.string y.spec,.string y.first,.string y.loc])) W= .ok (.bool !b) W:=fun W=>by rw[ac,q]
     have ag: ∀(L:BinOp) (a b:Operand) (W:World),Sem.run Tryz.prog (eqGuard L 84 a b (.agg #[.string x.spec,.string x.first,.string x.loc]) (.agg #[.string y.spec,.string y.first,.string y.loc])) W= .ok () W:=fun L a b W=>ak L a b x y W
     go_wp2
     have kc:=cell_regrown c1
     have kd:=cell_regrown d1
     have k0:=cell_regrown C0.out
     have v0:=cell_regrown D0.out
     have k1:=cell_regrown C1.out
     have v1:=cell_regrown D1.out
     have k2:=cell_regrown C2.out
     have v2:=cell_regrown D2.out
     simp only[Nat.add_zero] at k0 v0
     refine wp_region_quiet_below (by kernel_rfl) (by kernel_rfl) ?_
     repeat (go_big_quiet_step (fail))
     refine wpQuiet_nil ?_
     intro w2 N
     obtain⟨⟨dq,U⟩,z⟩:=N
     have T2:Hid (TwoM w b1 b2 S1 S2 n D w2):=by show TwoM _ _ _ _ _ _ _ _;rw[z];exact T.out.later (below_regrown wr dq U)
     clear z kc kd c0 c1 Y c3 c4 cf Z d1 X d3 d4 df k0 v0 C0 D0 k1 v1 C1 D1 k2 v2 C2 D2
     cases b with
     |true=>
      go_wp2
      go_roundg (gk-1)
      case rel=>exact⟨K,rfl,by have:=HJ.out;omega,by rw[HJ.out];have e:=zfa.1 q;exact zc2 V.out HX.out (by rw[e];exact HY.out),T2.out⟩
      case measure=>omega
     |false=>
      go_wp2
      go_ret
      exact⟨⟨false,rfl,⟨fun k=>(by cases k),fun k=>(by have e:=HX.out;rw[k,HY.out] at e;cases e;rw[zfa.2 rfl] at q;cases q)⟩⟩,T2.out.2.2.2.2⟩
    ·have A: ¬(j:Int)<(n.im.length:Int):=by omega
     obtain rfl:j=n.im.length:=by omega
     have A1:=zc (zc3 (by omega) V.out)
     clear V A E hj
     go_wp2
     go_loopg [7] n.ep.length (fun k i wr=>∃j:Nat,i= .int .i64 j∧j+k=n.ep.length∧n.ep.take j=D.ep.take j∧TwoM w b1 b2 S1 S2 n D wr)
     case atStart=>exact⟨0,rfl,by omega,rfl,T.out⟩
     case round=>
      obtain⟨j,rfl,hj,ht,hT⟩:=hrel
      clear T c0 c1 Y c3 c4 cf Z d1 X d3 d4 df
      have T:=zc hT
      have V:=zc ht
      clear hT ht
      obtain⟨c0,c1,Y,c3,c4,cf⟩:=zi T.out.1
      obtain⟨Z,d1,X,d3,d4,df⟩:=zi T.out.2.1
      by_cases E:j<n.ep.length
      ·have A:(j:Int)<(n.ep.length:Int):=by omega
       have aa:(j:Int)<(D.ep.length:Int):=by omega
       obtain⟨x,M⟩:=zaV E
       obtain⟨y,O⟩:=zaV (show j<D.ep.length by omega)
       obtain⟨g1,ga,J⟩:=OwnR.elem (f:=epL) (m:=4) (fun _=>rfl) T.out.2.2.1.ep M
       obtain⟨g2,gb,I⟩:=OwnR.elem (f:=epL) (m:=4) (fun _=>rfl) T.out.2.2.2.1.ep O
       rw[ga] at Y
       rw[gb] at X
       have C0:=zc (J 0 (by omega))
       have D0:=zc (I 0 (by omega))
       have C1:=zc (J 1 (by omega))
       have D1:=zc (I 1 (by omega))
       have C2:=zc (J 2 (by omega))
       have D2:=zc (I 2 (by omega))
       have C3:=zc (J 3 (by omega))
       have D3:=zc (I 3 (by omega))
       have HX:=zc M
       have HY:=zc O
       clear J I ga gb M O
       obtain⟨K,H⟩: ∃K,K=j+1:=⟨_,rfl⟩
       have ej:(j:Int)+1=(K:Int):=by omega
       have HJ:=zc H
       clear H
       obtain⟨b,q⟩: ∃b,zc5 x y=b:=⟨_,rfl⟩
       have ab: ∀W:World,Sem.run Tryz.prog (binOp .neq 86 (.agg #[.int .i64 x.kind,.string x.name,.string x.loc,.string x.spec]) (.agg #[.int .i64 y.kind,.string y.name,.string y.loc,.string y.spec])) W= .ok (.bool !b) W:=fun W=>by rw[ai,q]
       have ag: ∀(L:BinOp) (a b:Operand) (W:World),Sem.run Tryz.prog (eqGuard L 86 a b (.agg #[.int .i64 x.kind,.string x.name,.string x.loc,.string x.spec]) (.agg #[.int .i64 y.kind,.string y.name,.string y.loc,.string y.spec])) W= .ok () W:=fun L a b W=>af L a b x y W
       go_wp2
       have kc:=cell_regrown Y
       have kd:=cell_regrown X
       have k0:=cell_regrown C0.out
       have v0:=cell_regrown D0.out
       have k1:=cell_regrown C1.out
       have v1:=cell_regrown D1.out
       have k2:=cell_regrown C2.out
       have v2:=cell_regrown D2.out
       have k3:=cell_regrown C3.out
       have v3:=cell_regrown D3.out
       simp only[Nat.add_zero] at k0 v0
       refine wp_region_quiet_below (by kernel_rfl) (by kernel_rfl) ?_
       repeat (go_big_quiet_step (fail))
       refine wpQuiet_nil ?_
       intro w2 N
       obtain⟨⟨dq,U⟩,z⟩:=N
       have T2:Hid (TwoM w b1 b2 S1 S2 n D w2):=by show TwoM _ _ _ _ _ _ _ _;rw[z];exact T.out.later (below_regrown wr dq U)
       clear z kc kd c0 c1 Y c3 c4 cf Z d1 X d3 d4 df k0 v0 C0 D0 k1 v1 C1 D1 k2 v2 C2 D2 k3 v3 C3 D3
       cases b with
       |true=>
        go_wp2
        go_roundg (gk-1)
        case rel=>exact⟨K,rfl,by have:=HJ.out;omega,by rw[HJ.out];have e:=zfb.1 q;exact zc2 V.out HX.out (by rw[e];exact HY.out),T2.out⟩
        case measure=>omega
       |false=>
        go_wp2
        go_ret
        exact⟨⟨false,rfl,⟨fun k=>(by cases k),fun k=>(by have e:=HX.out;rw[k,HY.out] at e;cases e;rw[zfb.2 rfl] at q;cases q)⟩⟩,T2.out.2.2.2.2⟩
      ·have A: ¬(j:Int)<(n.ep.length:Int):=by omega
       obtain rfl:j=n.ep.length:=by omega
       have A2:=zc (zc3 (by omega) V.out)
       clear V A E hj
       go_wp2
       go_loopg [8] n.st.length (fun k i wr=>∃j:Nat,i= .int .i64 j∧j+k=n.st.length∧n.st.take j=D.st.take j∧TwoM w b1 b2 S1 S2 n D wr)
       case atStart=>exact⟨0,rfl,by omega,rfl,T.out⟩
       case round=>
        obtain⟨j,rfl,hj,ht,hT⟩:=hrel
        clear T c0 c1 Y c3 c4 cf Z d1 X d3 d4 df
        have T:=zc hT
        have V:=zc ht
        clear hT ht
        obtain⟨c0,c1,Y,c3,c4,cf⟩:=zi T.out.1
        obtain⟨Z,d1,X,d3,d4,df⟩:=zi T.out.2.1
        by_cases E:j<n.st.length
        ·have A:(j:Int)<(n.st.length:Int):=by omega
         have aa:(j:Int)<(D.st.length:Int):=by omega
         obtain⟨x,M⟩:=zaV E
         obtain⟨y,O⟩:=zaV (show j<D.st.length by omega)
         obtain⟨g1,ga,J⟩:=OwnR.elem (f:=smL) (m:=3) (fun _=>rfl) T.out.2.2.1.st M
         obtain⟨g2,gb,I⟩:=OwnR.elem (f:=smL) (m:=3) (fun _=>rfl) T.out.2.2.2.1.st O
         rw[ga] at c3
         rw[gb] at d3
         have C0:=zc (J 0 (by omega))
         have D0:=zc (I 0 (by omega))
         have C1:=zc (J 1 (by omega))
         have D1:=zc (I 1 (by omega))
         have C2:=zc (J 2 (by omega))
         have D2:=zc (I 2 (by omega))
         have HX:=zc M
         have HY:=zc O
         clear J I ga gb M O
         obtain⟨K,H⟩: ∃K,K=j+1:=⟨_,rfl⟩
         have ej:(j:Int)+1=(K:Int):=by omega
         have HJ:=zc H
         clear H
         obtain⟨b,q⟩: ∃b,zc6 x y=b:=⟨_,rfl⟩
         have ab: ∀W:World,Sem.run Tryz.prog (binOp .neq 107 (.agg #[.int .i64 x.kind,.string x.name,.int .i64 x.expr]) (.agg #[.int .i64 y.kind,.string y.name,.int .i64 y.expr])) W= .ok (.bool !b) W:=fun W=>by rw[aj,q]
         have ag: ∀(L:BinOp) (a b:Operand) (W:World),Sem.run Tryz.prog (eqGuard L 107 a b (.agg #[.int .i64 x.kind,.string x.name,.int .i64 x.expr]) (.agg #[.int .i64 y.kind,.string y.name,.int .i64 y.expr])) W= .ok () W:=fun L a b W=>ae L a b x y W
         go_wp2
         have kc:=cell_regrown c3
         have kd:=cell_regrown d3
         have k0:=cell_regrown C0.out
         have v0:=cell_regrown D0.out
         have k1:=cell_regrown C1.out
         have v1:=cell_regrown D1.out
         have k2:=cell_regrown C2.out
         have v2:=cell_regrown D2.out
         simp only[Nat.add_zero] at k0 v0
         refine wp_region_quiet_below (by kernel_rfl) (by kernel_rfl) ?_
         repeat (go_big_quiet_step (fail))
         refine wpQuiet_nil ?_
         intro w2 N
         obtain⟨⟨dq,U⟩,z⟩:=N
         have T2:Hid (TwoM w b1 b2 S1 S2 n D w2):=by show TwoM _ _ _ _ _ _ _ _;rw[z];exact T.out.later (below_regrown wr dq U)
         clear z kc kd c0 c1 Y c3 c4 cf Z d1 X d3 d4 df k0 v0 C0 D0 k1 v1 C1 D1 k2 v2 C2 D2
         cases b with
         |true=>
          go_wp2
          go_roundg (gk-1)
          case rel=>exact⟨K,rfl,by have:=HJ.out;omega,by rw[HJ.out];have e:=zfc.1 q;exact zc2 V.out HX.out (by rw[e];exact HY.out),T2.out⟩
          case measure=>omega
         |false=>
          go_wp2
          go_ret
          exact⟨⟨false,rfl,⟨fun k=>(by cases k),fun k=>(by have e:=HX.out;rw[k,HY.out] at e;cases e;rw[zfc.2 rfl] at q;cases q)⟩⟩,T2.out.2.2.2.2⟩
        ·have A: ¬(j:Int)<(n.st.length:Int):=by omega
         obtain rfl:j=n.st.length:=by omega
         have A3:=zc (zc3 (by omega) V.out)
         clear V A E hj
         go_wp2
         go_loopg [9] n.ex.length (fun k i wr=>∃j:Nat,i= .int .i64 j∧j+k=n.ex.length∧n.ex.take j=D.ex.take j∧TwoM w b1 b2 S1 S2 n D wr)
         case atStart=>exact⟨0,rfl,by omega,rfl,T.out⟩
         case round=>
          obtain⟨j,rfl,hj,ht,hT⟩:=hrel
          clear T c0 c1 Y c3 c4 cf Z d1 X d3 d4 df
          have T:=zc hT
          have V:=zc ht
          clear hT ht
          obtain⟨c0,c1,Y,c3,c4,cf⟩:=zi T.out.1
          obtain⟨Z,d1,X,d3,d4,df⟩:=zi T.out.2.1
          by_cases E:j<n.ex.length
          ·have A:(j:Int)<(n.ex.length:Int):=by omega
           have aa:(j:Int)<(D.ex.length:Int):=by omega
           obtain⟨x,M⟩:=zaV E
           obtain⟨y,O⟩:=zaV (show j<D.ex.length by omega)
           obtain⟨g1,ga,J⟩:=OwnR.elem (f:=exL) (m:=6) (fun _=>rfl) T.out.2.2.1.ex M
           obtain⟨g2,gb,I⟩:=OwnR.elem (f:=exL) (m:=6) (fun _=>rfl) T.out.2.2.2.1.ex O
           rw[ga] at c4
           rw[gb] at d4
           have C0:=zc (J 0 (by omega))
           have D0:=zc (I 0 (by omega))
           have C1:=zc (J 1 (by omega))
           have D1:=zc (I 1 (by omega))
           have C2:=zc (J 2 (by omega))
           have D2:=zc (I 2 (by omega))
           have C3:=zc (J 3 (by omega))
           have D3:=zc (I 3 (by omega))
           have C4:=zc (J 4 (by omega))
           have D4:=zc (I 4 (by omega))
           have C5:=zc (J 5 (by omega))
           have D5:=zc (I 5 (by omega))
           have HX:=zc M
           have HY:=zc O
           clear J I ga gb M O
           obtain⟨K,H⟩: ∃K,K=j+1:=⟨_,rfl⟩
           have ej:(j:Int)+1=(K:Int):=by omega
           have HJ:=zc H
           clear H
           obtain⟨b,q⟩: ∃b,zc7 x y=b:=⟨_,rfl⟩
           have ab: ∀W:World,Sem.run Tryz.prog (binOp .neq 109 (.agg #[.int .i64 x.kind,.int .i64 x.num,.string x.name,.string x.field,.int .i64 x.l,.int .i64 x.r]) (.agg #[.int .i64 y.kind,.int .i64 y.num,.string y.name,.string y.field,.int .i64 y.l,.int .i64 y.r])) W= .ok (.bool !b) W:=fun W=>by rw[ah,q]
           have ag: ∀(L:BinOp) (a b:Operand) (W:World),Sem.run Tryz.prog (eqGuard L 109 a b (.agg #[.int .i64 x.kind,.int .i64 x.num,.string x.name,.string x.field,.int .i64 x.l,.int .i64 x.r]) (.agg #[.int .i64 y.kind,.int .i64 y.num,.string y.name,.string y.field,.int .i64 y.l,.int .i64 y.r])) W= .ok () W:=fun L a b W=>ad L a b x y W
           go_wp2
           have kc:=cell_regrown c4
           have kd:=cell_regrown d4
           have k0:=cell_regrown C0.out
           have v0:=cell_regrown D0.out
           have k1:=cell_regrown C1.out
           have v1:=cell_regrown D1.out
           have k2:=cell_regrown C2.out
           have v2:=cell_regrown D2.out
           have k3:=cell_regrown C3.out
           have v3:=cell_regrown D3.out
           have k4:=cell_regrown C4.out
           have v4:=cell_regrown D4.out
           have k5:=cell_regrown C5.out
           have v5:=cell_regrown D5.out
           simp only[Nat.add_zero] at k0 v0
           refine wp_region_quiet_below (by kernel_rfl) (by kernel_rfl) ?_
           repeat (go_big_quiet_step (fail))
           refine wpQuiet_nil ?_
           intro w2 N
           obtain⟨⟨dq,U⟩,z⟩:=N
           have T2:Hid (TwoM w b1 b2 S1 S2 n D w2):=by show TwoM _ _ _ _ _ _ _ _;rw[z];exact T.out.later (below_regrown wr dq U)
           clear z kc kd c0 c1 Y c3 c4 cf Z d1 X d3 d4 df k0 v0 C0 D0 k1 v1 C1 D1 k2 v2 C2 D2 k3 v3 C3 D3 k4 v4 C4 D4 k5 v5 C5 D5
           cases b with
           |true=>
            go_wp2
            go_roundg (gk-1)
            case rel=>exact⟨K,rfl,by have:=HJ.out;omega,by rw[HJ.out];have e:=zfd.1 q;exact zc2 V.out HX.out (by rw[e];exact HY.out),T2.out⟩
            case measure=>omega
           |false=>
            go_wp2
            go_ret
            exact⟨⟨false,rfl,⟨fun k=>(by cases k),fun k=>(by have e:=HX.out;rw[k,HY.out] at e;cases e;rw[zfd.2 rfl] at q;cases q)⟩⟩,T2.out.2.2.2.2⟩
          ·have A: ¬(j:Int)<(n.ex.length:Int):=by omega
           obtain rfl:j=n.ex.length:=by omega
           have A4:=zc (zc3 (by omega) V.out)
           clear V A E hj
           go_wp2
           go_ret
           exact⟨⟨true,rfl,⟨fun _=>zhu A0.out A1.out A2.out A3.out A4.out,fun _=>rfl⟩⟩,T.out.2.2.2.2⟩
end Go.Proofs.YtjdddblpfbmpaaaGreat
