/-
  Two programs in memory side by side. No program is spoken of but for the numbers of its types.
  Lines of a program's text,as plain functions. No program is spoken of.
  A program's text: its lines,one behind the other. No program is spoken of.
  What each step of reading keeps,the whole reading keeps; so a program that was read has no request twice. No program is spoken of.
  A program that was read has no statement of DefaultName that is no let. No program is spoken of.
  What a Print and a Parse tell,as a ModOk takes it. No program is spoken of but for the numbers of its types.
  What ModOk of both sides tells. No program is spoken of but for the numbers of its types.
  What the laws count of a program,as plain functions. No program is spoken of.
  A program that is small has a text that is small. No program is spoken of.
  Paths,and what Clean makes of them,as plain functions; a row of texts in memory. No program is spoken of.
  A row of files in memory,each a path and a text,and when files are right: plain facts. No program is spoken of.
  The directories that a path is in,as a plain function. No program is spoken of.
  When rules are right: plain facts. No program is spoken of.
  What an import map tells of a name: plain facts. No program is spoken of.
  A program whose requests are mapped: plain facts. No program is spoken of.
  What a MapMod hands back. No program is spoken of but for the numbers of its types.
  What markText of the laws answers: the walk.
-/
import Derived.Deep.Cut
import Derived.Test.YtjdddblpfbmpaaaGreatClImplParseJToEqRow
namespace Go.Proofs.YtjdddblpfbmpaaaGreat
set_option maxHeartbeats 1600000
open Go.RowKit Go.PlainAid Go.Sort
theorem ze5 (l:List ByteArray):l.map Value.string=l.flatMap (fun x=>[Value.string x]):=by
 induction l with
 |nil=>rfl
 |cons x l h=>rw[List.map_cons,List.flatMap_cons,h];rfl
def TwoM (w0:World) (b1 b2:Nat) (S1 S2:Sv) (m1 m2:Md) (w:World):Prop:=
 w.heap[w0.heap.size]? =some (.cells #[.slice S1.rq.a m1.rq.length S1.rq.cap,.slice S1.im.a m1.im.length S1.im.cap,.slice S1.ep.a m1.ep.length S1.ep.cap,.slice S1.st.a m1.st.length S1.st.cap,.slice S1.ex.a m1.ex.length S1.ex.cap] 36 (0,0))∧w.heap[w0.heap.size+1]? =some (.cells #[.slice S2.rq.a m2.rq.length S2.rq.cap,.slice S2.im.a m2.im.length S2.im.cap,.slice S2.ep.a m2.ep.length S2.ep.cap,.slice S2.st.a m2.st.length S2.st.cap,.slice S2.ex.a m2.ex.length S2.ex.cap] 36 (0,0))∧OwnMd w b1 S1 m1∧OwnMd w b2 S2 m2∧Below w0.heap.size w0 w
theorem TwoM.later {w0 w w':World} {A b2:Nat} {I z:Sv} {J H:Md} (h:TwoM w0 A b2 I z J H w) (j:Below w.heap.size w w'):TwoM w0 A b2 I z J H w':=
 ⟨(j.block _ (Array.getElem?_eq_some_iff.1 h.1).1).trans h.1,(j.block _ (Array.getElem?_eq_some_iff.1 h.2.1).1).trans h.2.1,h.2.2.1.later j,h.2.2.2.1.later j,h.2.2.2.2.trans (j.mono h.2.2.2.2.size)⟩
theorem zhn (w:World) (J b2:Nat) (h j:Sv) (z A:Md) (M:OwnMd w J h z) (L:OwnMd w b2 j A):TwoM w J b2 h j z A ((w.alloc (.cells #[.slice h.rq.a z.rq.length h.rq.cap,.slice h.im.a z.im.length h.im.cap,.slice h.ep.a z.ep.length h.ep.cap,.slice h.st.a z.st.length h.st.cap,.slice h.ex.a z.ex.length h.ex.cap] 36)).alloc (.cells #[.slice j.rq.a A.rq.length j.rq.cap,.slice j.im.a A.im.length j.im.cap,.slice j.ep.a A.ep.length j.ep.cap,.slice j.st.a A.st.length j.st.cap,.slice j.ex.a A.ex.length j.ex.cap] 36)):=by
 have I:Below w.heap.size w (w.alloc (.cells #[.slice h.rq.a z.rq.length h.rq.cap,.slice h.im.a z.im.length h.im.cap,.slice h.ep.a z.ep.length h.ep.cap,.slice h.st.a z.st.length h.st.cap,.slice h.ex.a z.ex.length h.ex.cap] 36)):=(Below.refl _ _).alloc (Nat.le_refl _) _
 have H:Below (w.alloc (.cells #[.slice h.rq.a z.rq.length h.rq.cap,.slice h.im.a z.im.length h.im.cap,.slice h.ep.a z.ep.length h.ep.cap,.slice h.st.a z.st.length h.st.cap,.slice h.ex.a z.ex.length h.ex.cap] 36)).heap.size (w.alloc (.cells #[.slice h.rq.a z.rq.length h.rq.cap,.slice h.im.a z.im.length h.im.cap,.slice h.ep.a z.ep.length h.ep.cap,.slice h.st.a z.st.length h.st.cap,.slice h.ex.a z.ex.length h.ex.cap] 36)) ((w.alloc (.cells #[.slice h.rq.a z.rq.length h.rq.cap,.slice h.im.a z.im.length h.im.cap,.slice h.ep.a z.ep.length h.ep.cap,.slice h.st.a z.st.length h.st.cap,.slice h.ex.a z.ex.length h.ex.cap] 36)).alloc (.cells #[.slice j.rq.a A.rq.length j.rq.cap,.slice j.im.a A.im.length j.im.cap,.slice j.ep.a A.ep.length j.ep.cap,.slice j.st.a A.st.length j.st.cap,.slice j.ex.a A.ex.length j.ex.cap] 36)):=(Below.refl _ _).alloc (Nat.le_refl _) _
 refine⟨(H.block _ (by rw[zn];omega)).trans (heap_alloc_new w _),?_,(M.later I).later H,(L.later I).later H,I.trans (H.mono (by rw[zn];omega))⟩
 have:=heap_alloc_new (w.alloc (.cells #[.slice h.rq.a z.rq.length h.rq.cap,.slice h.im.a z.im.length h.im.cap,.slice h.ep.a z.ep.length h.ep.cap,.slice h.st.a z.st.length h.st.cap,.slice h.ex.a z.ex.length h.ex.cap] 36)) (.cells #[.slice j.rq.a A.rq.length j.rq.cap,.slice j.im.a A.im.length j.im.cap,.slice j.ep.a A.ep.length j.ep.cap,.slice j.st.a A.st.length j.st.cap,.slice j.ex.a A.ex.length j.ex.cap] 36)
 rw[zn] at this
 exact this
def zdB (m:Md):Prop:=m.rq.length≤4294967296∧m.im.length≤4294967296∧m.ep.length≤4294967296∧m.st.length≤4294967296∧m.ex.length≤4294967296
theorem ziX {a b:Md} (w:a.rq=b.rq) (h:a.im=b.im) (A:a.ep=b.ep) (j:a.st=b.st) (z:a.ex=b.ex):a=b:=by
 cases a
 cases b
 simp only at w h A j z
 rw[w,h,A,j,z]
def za0 (s:ByteArray):ByteArray:=({data:=#[34]}:ByteArray)++s++({data:=#[34]}:ByteArray)
def asT (a b:ByteArray):ByteArray:=if a.toList==b.toList then a else a++({data:=#[32,97,115,32]}:ByteArray)++b
def zad (x:Im):ByteArray:=
 if x.first.toList==[42] then ({data:=#[105,109,112,111,114,116,32,42,32,97,115,32]}:ByteArray)++x.loc++({data:=#[32,102,114,111,109,32]}:ByteArray)++za0 x.spec++({data:=#[59,10]}:ByteArray)
 else if x.first.toList==[100,101,102,97,117,108,116] then ({data:=#[105,109,112,111,114,116,32]}:ByteArray)++x.loc++({data:=#[32,102,114,111,109,32]}:ByteArray)++za0 x.spec++({data:=#[59,10]}:ByteArray)
 else ({data:=#[105,109,112,111,114,116,32,123,32]}:ByteArray)++asT x.first x.loc++({data:=#[32,125,32,102,114,111,109,32]}:ByteArray)++za0 x.spec++({data:=#[59,10]}:ByteArray)
def zbq (x:Ep):ByteArray:=
 if x.kind==3 then ({data:=#[101,120,112,111,114,116,32,42,32,102,114,111,109,32]}:ByteArray)++za0 x.spec++({data:=#[59,10]}:ByteArray)
 else if x.kind==2 then ({data:=#[101,120,112,111,114,116,32,123,32]}:ByteArray)++asT x.loc x.name++({data:=#[32,125,32,102,114,111,109,32]}:ByteArray)++za0 x.spec++({data:=#[59,10]}:ByteArray)
 else ({data:=#[101,120,112,111,114,116,32,123,32]}:ByteArray)++asT x.loc x.name++({data:=#[32,125,59,10]}:ByteArray)
def za7 (k:Int) (n e:ByteArray):ByteArray:=
 if k==1 then (if n.toList==[42,100,101,102,97,117,108,116] then ({data:=#[101,120,112,111,114,116,32,100,101,102,97,117,108,116,32]}:ByteArray)++e++({data:=#[59,10]}:ByteArray) else ({data:=#[108,101,116,32]}:ByteArray)++n++({data:=#[32,61,32]}:ByteArray)++e++({data:=#[59,10]}:ByteArray))
 else if k==2 then ({data:=#[102,117,110,99,116,105,111,110,32]}:ByteArray)++n++({data:=#[40,41,32,123,32,114,101,116,117,114,110,32]}:ByteArray)++e++({data:=#[59,32,125,10]}:ByteArray)
 else if k==3 then n++({data:=#[32,61,32]}:ByteArray)++e++({data:=#[59,10]}:ByteArray)
 else if k==4 then ({data:=#[112,114,105,110,116,40]}:ByteArray)++e++({data:=#[41,59,10]}:ByteArray)
 else if k==5 then ({data:=#[116,104,114,111,119,32]}:ByteArray)++e++({data:=#[59,10]}:ByteArray)
 else ({data:=#[102,97,105,108,32]}:ByteArray)++e++({data:=#[59,10]}:ByteArray)
def zdk (k:Int) (n e:ByteArray):ByteArray:=if n.toList==[42,100,101,102,97,117,108,116] then ({data:=#[101,120,112,111,114,116,32,100,101,102,97,117,108,116,32]}:ByteArray)++e++({data:=#[59,10]}:ByteArray) else za7 k n e
def rqT (s:ByteArray):ByteArray:=({data:=#[105,109,112,111,114,116,32]}:ByteArray)++za0 s++({data:=#[59,10]}:ByteArray)
def acc {α:Type} (f:α→ByteArray) (l:List α) (t:ByteArray):ByteArray:=l.foldl (fun t x=>t++f x) t
theorem zcy {α:Type} (f:α→ByteArray) {l:List α} {j:Nat} {x:α} (h:l[j]? =some x) (t:ByteArray):acc f (l.take (j+1)) t=acc f (l.take j) t++f x:=by
 obtain⟨w,rfl⟩:=List.getElem?_eq_some_iff.1 h
 rw[List.take_succ_eq_append_getElem w,acc,List.foldl_append]
 rfl
theorem zdV {α:Type} (f:α→ByteArray) (l:List α): ∀t:ByteArray,t.size≤(acc f l t).size:=by
 induction l with
 |nil=>intro t;exact Nat.le_refl _
 |cons x l h=>
  intro t
  refine Nat.le_trans ?_ (h (t++f x))
  rw[ByteArray.size_append]
  omega
theorem znE {α:Type} (f:α→ByteArray) (a b:List α) (t:ByteArray):acc f (a++b) t=acc f b (acc f a t):=by rw[acc,List.foldl_append];rfl
theorem zdC {α:Type} (f:α→ByteArray) (l:List α) (j:Nat) (t:ByteArray):(acc f (l.take j) t).size≤(acc f l t).size:=by
 have:acc f l t=acc f (l.drop j) (acc f (l.take j) t):=by rw[←znE,List.take_append_drop]
 rw[this]
 exact zdV f _ _
def epF (x:Ep):ByteArray:=if x.loc.toList==[42,100,101,102,97,117,108,116] then sNone else zbq x
def stF (ex:List Ex) (s:Sm):ByteArray:=za7 s.kind s.name (prX ex s.expr.toNat)
def zcD (ex:List Ex) (s:Sm):ByteArray:=zdk s.kind s.name (prX ex s.expr.toNat)
def zce (m:Md):ByteArray:=acc epF m.ep (acc zad m.im (acc rqT m.rq sNone))
def zbY (m:Md):ByteArray:=acc (stF m.ex) m.st (zce m)
def zbr (m:Md):ByteArray:=acc (zcD m.ex) m.st (zce m)
def PrintOut (T:ByteArray) (m:Md) (e:Ending):Prop:=(Tree m∧e= .returned (.string T))∨(¬Tree m∧e= .returned (.string sNone))
structure Small (m:Md):Prop where
 rq: ∀x∈m.rq,x.size≤4294967296
 im: ∀x∈m.im,x.spec.size≤4294967296∧x.first.size≤4294967296∧x.loc.size≤4294967296
 ep: ∀x∈m.ep,x.spec.size≤4294967296∧x.name.size≤4294967296∧x.loc.size≤4294967296
 st: ∀x∈m.st,x.name.size≤4294967296
 nums:zaR m.ex
 few:m.rq.length≤4294967296∧m.im.length≤4294967296∧m.ep.length≤4294967296∧m.st.length≤4294967296∧m.ex.length≤4294967296
def KG {α:Type} (R:PS→PS→Prop) (p:α→PS) (x:Except Nat α) (q:PS):Prop:=∀a,x= .ok a→R q (p a)
def ziY (C:Cx) (k:Int) (n:ByteArray):Prop:=n=sNone∨k=1∨∃i o,zF C i o=true∧n=(zf C i).text
def ze6 (x:Ep):Prop:=x.kind=1→x.spec=sNone
structure Kept (C:Cx) (R:PS→PS→Prop):Prop where
 rfl': ∀q,R q q
 tr: ∀{a b c},R a b→R b c→R a c
 adv: ∀q,R q (adv q)
 ex: ∀x q,KG R id (zQ C x q) q
 im: ∀x q,KG R id (zao C x q) q
 ep: ∀x q,ze6 x→KG R id (zs C x q) q
 sp: ∀q,KG R Prod.fst (zJ C q) q
 st: ∀k n q,ziY C k n→KG R id (zW C k n q) q
theorem KG.bd {C:Cx} {R:PS→PS→Prop} {α β:Type} (H:Kept C R) {p:α→PS} {r:β→PS} {x:Except Nat α} {f:α→Except Nat β} {q:PS} (h:KG R p x q) (k: ∀a,x= .ok a→KG R r (f a) (p a)):KG R r (bd x f) q:=by
 intro b z
 obtain⟨a,j,w⟩:=zp z
 exact H.tr (h a j) (k a j b w)
theorem KG.after {C:Cx} {R:PS→PS→Prop} (H:Kept C R) {α:Type} {r:α→PS} {y:Except Nat α} {q q':PS} (h:R q q') (k:KG R r y q'):KG R r y q:=fun b j=>H.tr h (k b j)
theorem KG.ok {C:Cx} {R:PS→PS→Prop} (H:Kept C R) {α:Type} {p:α→PS} {a:α}:KG R p (.ok a) (p a):=fun b h=>by cases h;exact H.rfl' _
theorem KG.err {R:PS→PS→Prop} {α:Type} {p:α→PS} {e:Nat} {q:PS}:KG R p (.error e) q:=fun b h=>by cases h
theorem zaw {C:Cx} {R:PS→PS→Prop} (H:Kept C R) (k:Int) (x:ByteArray) (q:PS):KG R id (ze C k x q) q:=fun a h=>by obtain⟨rfl,_⟩:=zbT h;exact H.adv q
theorem zd1 {C:Cx} {R:PS→PS→Prop} (H:Kept C R) (o:Bool) (q:PS):KG R Prod.fst (zo C o q) q:=fun a h=>by obtain⟨rfl,_⟩:=zb0 h;exact H.adv q
theorem ziZ {C:Cx} {R:PS→PS→Prop} (H:Kept C R) (n:ByteArray) (q:PS):KG R id (zbE C n q) q:=by
 unfold zbE
 split
 ·exact .bd H (.bd H (zaw H _ _ _) fun _ _=>zaw H _ _ _) fun _ _=>H.ex _ _
 ·exact H.ex _ _
theorem znF {C:Cx} {R:PS→PS→Prop} (H:Kept C R) (n f:ByteArray) (q:PS):KG R id (zbS C n f q) q:=by
 unfold zbS
 split
 ·exact .bd H (.bd H (zaw H _ _ _) fun _ _=>zaw H _ _ _) fun _ _=>H.ex _ _
 ·exact H.ex _ _
theorem znG {C:Cx} {R:PS→PS→Prop} (H:Kept C R) (f:Nat): ∀(j:NT) (d:Nat) (q:PS),KG R id (ev C f j d q) q:=by
 induction f with
 |zero=>intro j d q;cases j using NT.elim<;>exact .err
 |succ f h=>
  intro j d q
  cases j using NT.elim<;>rw[ev]
  ·exact .bd H (h _ _ _) fun _ _=>h _ _ _
  ·split
   ·exact .bd H (.bd H (.after H (H.adv q) (h _ _ _)) fun _ _=>H.ex _ _) fun _ _=>h _ _ _
   ·exact .ok (p:=id) H
  ·exact .bd H (h _ _ _) fun _ _=>h _ _ _
  ·split
   ·exact .bd H (.bd H (.after H (H.adv q) (h _ _ _)) fun _ _=>H.ex _ _) fun _ _=>h _ _ _
   ·exact .ok (p:=id) H
  ·split
   ·exact .after H (H.adv q) (H.ex _ _)
   ·split
    ·split
     ·exact .err
     ·exact .bd H (.after H (H.adv q) (h _ _ _)) fun _ _=>zaw H _ _ _
    ·split
     ·exact .after H (H.adv q) (ziZ H _ _)
     ·refine .bd H (zd1 H _ _) fun a _=>?_
      split
      ·exact .bd H (.after H (H.adv _) (zd1 H _ _)) fun _ _=>znF H _ _ _
      ·exact ziZ H _ _
theorem ze7 {C:Cx} {R:PS→PS→Prop} (H:Kept C R) (h:NT) (d:Nat) (q:PS):KG R id (pE C h d q) q:=znG H _ _ _ _
theorem zja {C:Cx} {R:PS→PS→Prop} (H:Kept C R) {y:PRN} {F:PR→ByteArray→PR} {q:PS} (h:KG R Prod.fst y q) (k: ∀a,y= .ok a→KG R id (F (.ok a.1) a.2) a.1):KG R Prod.fst (withN y F) q:=
 .bd H h fun a j=>.bd (r:=Prod.fst) H (k a j) fun b _=>.ok (p:=Prod.fst) (a:=(b,a.2)) H
theorem zjb {C:Cx} {R:PS→PS→Prop} (H:Kept C R) (q:PS):KG R Prod.fst (zcJ C q) q:=
 zja H (.bd H (zaw H _ _ _) fun _ _=>zd1 H _ _) fun _ _=>.bd H (.bd H (.bd H (.bd (p:=id) H (.ok (p:=id) H) fun _ _=>zaw H _ _ _) fun _ _=>ze7 H _ _ _) fun _ _=>zaw H _ _ _) fun _ _=>H.st _ _ _ (.inr (.inl rfl))
theorem zjc {C:Cx} {k:Int} {o:Bool} {q:PS} {a:PS×ByteArray} (h:zo C o q= .ok a):ziY C k a.2:=by
 obtain⟨rfl,j⟩:=zb0 h
 exact .inr (.inr ⟨_,_,j,rfl⟩)
theorem zjd {C:Cx} {R:PS→PS→Prop} (H:Kept C R) (q:PS):KG R Prod.fst (fnP C q) q:=
 zja H (.bd H (zaw H _ _ _) fun _ _=>zd1 H _ _) fun a h=>.bd H (.bd H (.bd H (.bd H (.bd H (.bd H (.bd H (.bd (p:=id) H (.ok (p:=id) H) fun _ _=>zaw H _ _ _) fun _ _=>zaw H _ _ _) fun _ _=>zaw H _ _ _) fun _ _=>zaw H _ _ _) fun _ _=>ze7 H _ _ _) fun _ _=>zaw H _ _ _) fun _ _=>zaw H _ _ _) fun _ _=>H.st _ _ _ (by
  obtain⟨b,_,j⟩:=zp h
  exact zjc j)
theorem znH {C:Cx} {R:PS→PS→Prop} (H:Kept C R) (e:Bool) (a:PS×ByteArray):KG R Prod.fst (asP C e a) a.1:=by
 unfold asP
 split
 ·exact .after H (H.adv _) (zd1 H _ _)
 ·split
  ·exact .err
  ·exact .ok (p:=Prod.fst) H
theorem znI {C:Cx} {R:PS→PS→Prop} (H:Kept C R) (e:Bool) (f:Nat): ∀(q:PS) (acc:List Ep),KG R Prod.fst (zdw C e f q acc) q:=by
 induction f with
 |zero=>intro q acc;exact .err
 |succ f h=>
  intro q acc
  rw[zdw]
  refine .bd H (zd1 H _ _) fun a _=>.bd H (znH H _ _) fun b _=>?_
  split
  ·exact .after H (H.adv _) (h _ _)
  ·exact .bd (r:=Prod.fst) H (zaw H _ _ _) fun c _=>.ok (p:=Prod.fst) (a:=(c,_)) H
theorem zje {C:Cx} {R:PS→PS→Prop} (H:Kept C R) (e:Bool) (q:PS):KG R Prod.fst (zcY C e q) q:=.bd H (zaw H _ _ _) fun _ _=>znI H _ _ _ _
theorem zfk {C:Cx} {R:PS→PS→Prop} (H:Kept C R) {x:PR} {q:PS} (h:KG R id x q):KG R Prod.fst (zbg C (zaL C x)) q:=
 .bd H (.bd H (.bd H h fun _ _=>zaw H _ _ _) fun _ _=>H.sp _) fun a _=>.bd (r:=Prod.fst) H (zaw H _ _ _) fun c _=>.ok (p:=Prod.fst) (a:=(c,a.2)) H
theorem zho {C:Cx} {R:PS→PS→Prop} (H:Kept C R) {α:Type} {f:α→PS→PR} (w: ∀a q,KG R id (f a q) q) (l:List α): ∀(x:PR) (q:PS),KG R id x q→KG R id (zX f l x) q:=by
 induction l with
 |nil=>intro x q h;exact h
 |cons a l j=>intro x q h;exact j _ _ (.bd H h fun _ _=>w _ _)
theorem znJ {C:Cx} {R:PS→PS→Prop} (H:Kept C R) (q:PS):KG R id (zaY C q) q:=by
 refine .bd H (zaw H _ _ _) fun h _=>?_
 split
 ·exact .bd H (zje H _ _) fun a _=>.bd H (zfk H (.ok (p:=id) H)) fun b _=>zho H (fun _ _=>H.im _ _) _ _ _ (.ok (p:=id) H)
 ·split
  ·exact .bd H (.bd H (.bd H (zaw H _ _ _) fun _ _=>zaw H _ _ _) fun _ _=>zd1 H _ _) fun a _=>.bd H (zfk H (.ok (p:=id) H)) fun _ _=>H.im _ _
  ·split
   ·exact .bd H (zd1 H _ _) fun a _=>.bd H (zfk H (.ok (p:=id) H)) fun _ _=>H.im _ _
   ·exact .bd H (H.sp _) fun _ _=>zaw H _ _ _
theorem znK {C:Cx} {R:PS→PS→Prop} (H:Kept C R) (q:PS):KG R id (zap C q) q:=by
 refine .bd H (zaw H _ _ _) fun j _=>?_
 split
 ·refine .bd H (zje H _ _) fun a _=>?_
  split
  ·exact .bd H (zaw H _ _ _) fun _ _=>zho H (fun _ _=>H.ep _ _ (by first|exact fun _=>rfl|exact fun h=>absurd (show (2:Int)=1 from h) (by decide)|exact fun h=>absurd (show (3:Int)=1 from h) (by decide))) _ _ _ (.ok (p:=id) H)
  ·exact .bd H (zfk H (.ok (p:=id) H)) fun _ _=>zho H (fun _ _=>H.ep _ _ (by first|exact fun _=>rfl|exact fun h=>absurd (show (2:Int)=1 from h) (by decide)|exact fun h=>absurd (show (3:Int)=1 from h) (by decide))) _ _ _ (.ok (p:=id) H)
 ·split
  ·exact .bd H (zfk H (zaw H _ _ _)) fun _ _=>H.ep _ _ (by first|exact fun _=>rfl|exact fun h=>absurd (show (2:Int)=1 from h) (by decide)|exact fun h=>absurd (show (3:Int)=1 from h) (by decide))
  ·split
   ·exact .bd H (.bd H (.bd H (.bd H (zaw H _ _ _) fun _ _=>ze7 H _ _ _) fun _ _=>zaw H _ _ _) fun _ _=>H.st _ _ _ (.inr (.inl rfl))) fun _ _=>H.ep _ _ (by first|exact fun _=>rfl|exact fun h=>absurd (show (2:Int)=1 from h) (by decide)|exact fun h=>absurd (show (3:Int)=1 from h) (by decide))
   ·split
    ·exact .bd H (zjb H _) fun _ _=>H.ep _ _ (by first|exact fun _=>rfl|exact fun h=>absurd (show (2:Int)=1 from h) (by decide)|exact fun h=>absurd (show (3:Int)=1 from h) (by decide))
    ·split
     ·exact .bd H (zjd H _) fun _ _=>H.ep _ _ (by first|exact fun _=>rfl|exact fun h=>absurd (show (2:Int)=1 from h) (by decide)|exact fun h=>absurd (show (3:Int)=1 from h) (by decide))
     ·exact .err
theorem zjf {C:Cx} {R:PS→PS→Prop} (H:Kept C R) (s:ByteArray) (k:Int) (q:PS):KG R id (bd (bd (bd (ze C 1 s q) (pE C .sum 0)) (ze C 4 cSemi)) (zW C k sNone)) q:=
 .bd H (.bd H (.bd H (zaw H _ _ _) fun _ _=>ze7 H _ _ _) fun _ _=>zaw H _ _ _) fun _ _=>H.st _ _ _ (.inl rfl)
theorem znL {C:Cx} {R:PS→PS→Prop} (H:Kept C R) (q:PS):KG R id (zC C q) q:=by
 unfold zC
 split
 ·exact znJ H q
 ·split
  ·exact znK H q
  ·split
   ·exact .bd H (zjb H q) fun a _=>.ok (p:=id) H
   ·split
    ·exact .bd H (zjd H q) fun a _=>.ok (p:=id) H
    ·split
     ·exact .bd H (.bd H (.bd H (.bd H (.bd H (zaw H _ _ _) fun _ _=>zaw H _ _ _) fun _ _=>ze7 H _ _ _) fun _ _=>zaw H _ _ _) fun _ _=>zaw H _ _ _) fun _ _=>H.st _ _ _ (.inl rfl)
     ·split
      ·exact zjf H _ _ _
      ·split
       ·exact zjf H _ _ _
       ·exact .bd H (zd1 H _ _) fun a h=>.bd H (.bd H (.bd H (zaw H _ _ _) fun _ _=>ze7 H _ _ _) fun _ _=>zaw H _ _ _) fun _ _=>H.st _ _ _ (zjc h)
theorem znM {C:Cx} {R:PS→PS→Prop} (H:Kept C R) (f:Nat): ∀q,KG R id (zdx C f q) q:=by
 induction f with
 |zero=>intro q;exact .err
 |succ f h=>
  intro q
  rw[zdx]
  split
  ·exact .bd H (znL H q) fun _ _=>h _
  ·exact .ok (p:=id) H
theorem zgd {R:PS→PS→Prop} {s:ByteArray} {j:Bool} {q:PS} (h:zb4 s j (.ok q)) (H: ∀w,zak s j (.ok w)→Kept ⟨w,s.size,j⟩ R):R zbV q:=by
 obtain⟨r,z,e⟩:=h
 cases r with
 |error p=>cases e
 |ok w=>exact znM (H w z) _ zbV q e.symm
theorem znN {l:List ByteArray} {x:ByteArray} (h: ¬zaJ l x=true):x∉l:=fun j=>h (List.any_eq_true.2 ⟨x,j,beq_self_eq_true _⟩)
theorem znO {s:ByteArray} {w:Bool} {q:PS} (h:zb4 s w (.ok q)):q.rq.Nodup:=by
 refine zgd (R:=fun a b=>a.rq.Nodup→b.rq.Nodup) h (fun I _=>?_) List.nodup_nil
 refine⟨fun _ h=>h,fun h k x=>k (h x),fun _ h=>h,?_,?_,?_,?_,?_⟩
 ·intro x q a h j
  obtain⟨rfl,_⟩:=zb1 h
  exact j
 ·intro x q a h j
  unfold zao at h
  split at h<;>cases h
  exact j
 ·intro x q _ a h j
  unfold zs at h
  split at h
  ·cases h
  ·split at h<;>cases h<;>exact j
 ·intro q a h j
  unfold zJ at h
  split at h
  ·split at h
   ·cases h;exact j
   ·next A=>
    split at h<;>cases h
    show (q.rq++[_]).Nodup
    rw[List.nodup_append]
    refine⟨j,by simp,fun a z b H e=>znN A ?_⟩
    rw[List.mem_singleton.1 H] at e
    exact e▸z
  ·cases h
 ·intro k n q _ a h j
  unfold zW at h
  split at h<;>cases h
  exact j
theorem znP {s:ByteArray} {A:Bool} {q:PS} (h:zb4 s A (.ok q)): ∀x∈q.ep++q.la,ze6 x:=by
 refine zgd (R:=fun a b=>(∀x∈a.ep++a.la,ze6 x)→∀x∈b.ep++b.la,ze6 x) h (fun H _=>?_) (fun x z=>by cases z)
 refine⟨fun _ h=>h,fun h k x=>k (h x),fun _ h=>h,?_,?_,?_,?_,?_⟩
 ·intro x q a h j
  obtain⟨rfl,_⟩:=zb1 h
  exact j
 ·intro x q a h j
  unfold zao at h
  split at h<;>cases h
  exact j
 ·intro x q z a h j
  unfold zs at h
  split at h
  ·cases h
  ·split at h<;>cases h
   all_goals
    intro y w
    simp only[id,List.mem_append,List.mem_singleton] at w j
    rcases w with w|w
    ·first
     |exact j y (.inl w)
     |(rcases w with w|rfl
       ·exact j y (.inl w)
       ·exact z)
    ·first
     |exact j y (.inr w)
     |(rcases w with w|rfl
       ·exact j y (.inr w)
       ·exact z)
 ·intro q a h j
  unfold zJ at h
  split at h
  ·split at h
   ·cases h;exact j
   ·split at h<;>cases h
    exact j
  ·cases h
 ·intro k n q _ a h j
  unfold zW at h
  split at h<;>cases h
  exact j
abbrev dN:List UInt8:=[42,100,101,102,97,117,108,116]
def ze8 (st:List Sm):Prop:=∀s∈st,s.name.toList=dN→s.kind=1
def zjg (ts:List Tk):Prop:=∀t∈ts,t.kind=1→t.text.toList≠dN
theorem znQ {s:ByteArray} {j:Bool} {a e:Nat} {t:Tk} (w:a<s.size) (h:Tok s j a t e):t.kind=1→t.text.toList≠dN:=by
 have J:=(zep w h).1
 have H:=(zep w h).2.1
 cases h using Tok.elim with
 |name z _=>
  intro _ k
  have A:bt (s.extract a e) 0=42:=by
   rw[zdt,←Lib.toList_data,k]
   rfl
  have I:bt (s.extract a e) 0=bt s a:=by
   rw[zdt,zdt,ByteArray.data_extract]
   simp only[List.getD,List.getElem?_map,Array.getElem?_toList,Array.getElem?_extract]
   rw[if_pos (by have:s.data.size=s.size:=rfl;omega),Nat.add_zero]
  rw[←I,A] at z
  cases j<;>revert z<;>decide
 |num _ _=>intro k;cases k
 |str _ _=>intro k;cases k
 |sign _=>intro k;cases k
theorem znR {s:ByteArray} {w:Bool} {a n:Nat} {r:Except Nat (List Tk)} (h:Lx s w a n r): ∀j,r= .ok j→zjg j:=by
 induction h using Lx.ind with
 |done=>intro j k;cases k;intro t A;cases A
 |bad _ _=>intro j k;cases k
 | @tok a n e b t r h L A J I H=>
  intro j k
  cases r with
  |error p=>cases k
  |ok l=>
   cases k
   intro u z
   rcases List.mem_cons.1 z with rfl|z
   ·exact znQ h A
   ·exact H l rfl u z
theorem znS {C:Cx} (w:zjg C.ts) {i:Nat} {o:Bool} (h:zF C i o=true):(zf C i).text.toList≠dN:=by
 have j:=zeQ h
 have e:zf C i=C.ts[i]:=by simp[zf,List.getD,List.getElem?_eq_getElem j]
 simp only[zF,Bool.and_eq_true,beq_iff_eq] at h
 rw[e] at h ⊢
 exact w _ (List.getElem_mem j) h.1
theorem znT {k:Int} (h:sNone.toList=dN):k=1:=by
 rw[Lib.toList_data] at h
 cases h
theorem zjh {s:ByteArray} {H:Bool} {q:PS} (h:zb4 s H (.ok q)):ze8 q.st:=by
 refine zgd (R:=fun a b=>ze8 a.st→ze8 b.st) h (fun M A=>?_) (fun s w=>by cases w)
 obtain⟨_,_,A⟩:=A
 have L:=znR A M rfl
 refine⟨fun _ h=>h,fun h k x=>k (h x),fun _ h=>h,?_,?_,?_,?_,?_⟩
 ·intro x q a h j
  obtain⟨rfl,_⟩:=zb1 h
  exact j
 ·intro x q a h j
  unfold zao at h
  split at h<;>cases h
  exact j
 ·intro x q _ a h j
  unfold zs at h
  split at h
  ·cases h
  ·split at h<;>cases h<;>exact j
 ·intro q a h j
  unfold zJ at h
  split at h
  ·split at h
   ·cases h;exact j
   ·split at h<;>cases h
    exact j
  ·cases h
 ·intro k n q z a h j
  unfold zW at h
  split at h<;>cases h
  intro s w
  rcases List.mem_append.1 w with w|w
  ·exact j s w
  ·rw[List.mem_singleton.1 w]
   intro I
   rcases z with rfl|z|⟨i,o,J,rfl⟩
   ·exact znT I
   ·exact z
   ·exact absurd I (znS L J)
def PrOf (T:ByteArray) (m:Md) (t:ByteArray):Prop:=(Tree m∧t=T)∨(¬Tree m∧t=sNone)
theorem PrintOut.form {T:ByteArray} {m:Md} {e:Ending} (h:PrintOut T m e): ∃t,PrOf T m t∧e= .returned (.string t):=by
 rcases h with ⟨j,w⟩|⟨j,w⟩
 ·exact⟨T,.inl ⟨j,rfl⟩,w⟩
 ·exact⟨sNone,.inr ⟨j,rfl⟩,w⟩
theorem PrOf.size {T t:ByteArray} {m:Md} {n:Nat} (h:PrOf T m t) (w:Tree m→T.size≤n):t.size≤n:=by
 rcases h with ⟨j,rfl⟩|⟨_,rfl⟩
 ·exact w j
 ·exact Nat.zero_le _
def zd2 (t:ByteArray) (scr:Bool) (m:Md):Prop:=∃q,zb4 t scr (.ok q)∧zeu q=m
def zge (T:ByteArray) (m:Md) (scr:Bool) (e:Ending):Prop:=∃t,PrOf T m t∧zbX (zd2 t scr m) e
theorem zji {t:ByteArray} {j:Bool} {m:Md} {p:Nat} (h:zb4 t j (.error p)): ¬zd2 t j m:=by
 rintro⟨q,w,_⟩
 cases zi5 h w
theorem zjj {t:ByteArray} {j:Bool} {m n:Md} {q:PS} (h:zb4 t j (.ok q)) (w:n=zeu q):zd2 t j m↔n=m:=by
 constructor
 ·rintro⟨H,z,A⟩
  cases zi5 h z
  rw[w]
  exact A
 ·intro e
  exact⟨q,h,by rw[←w];exact e⟩
theorem ParseOut.md {s:ByteArray} {j:Bool} {w w':World} {e:Ending} (h:ParseOut s j w e w'):
  (∃(q:PS) (S:Sv) (n:Md),zb4 s j (.ok q)∧n=zeu q∧e= .returned (.tuple #[zh S n,.int .i64 (-1)])∧OwnMd w' w.heap.size S n∧zdB n)∨∃p:Nat,zb4 s j (.error p)∧e= .returned (.tuple #[.agg #[.slice none 0 0,.slice none 0 0,.slice none 0 0,.slice none 0 0,.slice none 0 0],.int .i64 p]):=by
 obtain⟨y,H,z⟩:=h
 cases y with
 |ok q=>
  obtain⟨S,I,A⟩:=z
  refine .inl ⟨q,S,zeu q,H,rfl,I,A.md,?_⟩
  have L:=A.inv
  have J:(zeu q).ep.length=q.ep.length+q.la.length:=by show (q.ep++q.la).length=_;rw[List.length_append]
  refine⟨?_,?_,by rw[J];omega,?_,?_⟩
  ·show q.rq.length≤_;omega
  ·show q.im.length≤_;omega
  ·show q.st.length≤_;omega
  ·show q.ex.length≤_;omega
 |error p=>exact .inr ⟨p,H,z⟩
theorem znU {k:Int} {n e:ByteArray} (h:n.toList=dN→k=1):zdk k n e=za7 k n e:=by
 unfold zdk
 split
 ·next j=>
  have w:=eq_of_beq j
  rw[h w,za7,if_pos (by decide),if_pos j]
 ·rfl
theorem znV {α:Type} {f g:α→ByteArray} (l:List α): ∀t,(∀x∈l,f x=g x)→acc f l t=acc g l t:=by
 induction l with
 |nil=>intro t _;rfl
 |cons x l j=>
  intro t h
  show acc f l (t++f x)=acc g l (t++g x)
  rw[h x (List.mem_cons_self ..)]
  exact j _ fun y w=>h y (List.mem_cons_of_mem _ w)
theorem znW {m:Md} (h:ze8 m.st):zbr m=zbY m:=znV _ _ fun s j=>znU (h s j)
theorem zjk {m:Md} {j:Bool} {A w:ByteArray} (M:PrOf (zbY m) m A) (H:PrOf (zbr m) m w):zd2 A j m↔zd2 w j m:=by
 by_cases z:ze8 m.st
 ·have:A=w:=by
   rw[znW z] at H
   rcases M with ⟨a,rfl⟩|⟨a,rfl⟩<;>rcases H with ⟨b,rfl⟩|⟨b,rfl⟩
   ·rfl
   ·exact absurd a b
   ·exact absurd b a
   ·rfl
  rw[this]
 ·have I: ∀t,¬zd2 t j m:=by
   rintro t ⟨q,J,L⟩
   have:=zjh J
   rw[←L] at z
   exact z this
  exact⟨fun h=>absurd h (I _),fun h=>absurd h (I _)⟩
def MOk (m:Md):Prop:=∃t,PrOf (zbY m) m t∧zd2 t false m
theorem zjl {T:ByteArray} {m:Md} {t u:ByteArray} (h:PrOf T m t) (k:PrOf T m u):t=u:=by
 rcases h with ⟨a,rfl⟩|⟨a,rfl⟩<;>rcases k with ⟨b,rfl⟩|⟨b,rfl⟩
 ·rfl
 ·exact absurd a b
 ·exact absurd b a
 ·rfl
theorem znX {m:Md} {e:Ending} (h:zge (zbY m) m false e):zbX (MOk m) e:=by
 obtain⟨t,j,b,rfl,z⟩:=h
 exact⟨b,rfl,z.trans ⟨fun k=>⟨t,j,k⟩,fun⟨u,w,k⟩=>zjl w j▸k⟩⟩
theorem zjm {m:Md} {e:Ending} (h:zge (zbr m) m false e):zbX (MOk m) e:=by
 obtain⟨t,z,b,rfl,I⟩:=h
 have A: ∃s,PrOf (zbY m) m s:=by
  by_cases w:Tree m
  ·exact⟨_,.inl ⟨w,rfl⟩⟩
  ·exact⟨_,.inr ⟨w,rfl⟩⟩
 obtain⟨s,j⟩:=A
 exact⟨b,rfl,I.trans ⟨fun k=>⟨s,j,(zjk j z).2 k⟩,fun⟨u,H,k⟩=>(zjk j z).1 (zjl H j▸k)⟩⟩
structure FewP (q:PS):Prop where
 rq:q.rq.length≤40
 im:q.im.length≤40
 ep:q.ep.length+q.la.length≤40
 st:q.st.length≤80
 ex:q.ex.length≤300
theorem zjn {s:ByteArray} {w:Bool} {q:PS} (h:zb4 s w (.ok q)):FewP q:=by
 refine zgd (R:=fun a b=>FewP a→FewP b) h (fun z _=>?_) ⟨by decide,by decide,by decide,by decide,by decide⟩
 refine⟨fun _ h=>h,fun h k x=>k (h x),fun _ h=>⟨h.rq,h.im,h.ep,h.st,h.ex⟩,?_,?_,?_,?_,?_⟩
 ·intro x q a h j
  obtain⟨rfl,_⟩:=zb1 h
  exact⟨j.rq,j.im,j.ep,j.st,by show (q.ex++[x]).length≤300;rw[List.length_append];simp;omega⟩
 ·intro x q a h j
  unfold zao at h
  split at h<;>cases h
  exact⟨j.rq,by show (q.im++[x]).length≤40;rw[List.length_append];simp;omega,j.ep,j.st,j.ex⟩
 ·intro x q _ a h j
  unfold zs at h
  split at h
  ·cases h
  ·split at h<;>cases h
   ·exact⟨j.rq,j.im,by show q.ep.length+(q.la++[x]).length≤40;rw[List.length_append];simp;omega,j.st,j.ex⟩
   ·exact⟨j.rq,j.im,by show (q.ep++[x]).length+q.la.length≤40;rw[List.length_append];simp;omega,j.st,j.ex⟩
 ·intro q a h j
  unfold zJ at h
  split at h
  ·split at h
   ·cases h;exact⟨j.rq,j.im,j.ep,j.st,j.ex⟩
   ·split at h<;>cases h
    exact⟨by show (q.rq++[_]).length≤40;rw[List.length_append];simp;omega,j.im,j.ep,j.st,j.ex⟩
  ·cases h
 ·intro k n q _ a h j
  unfold zW at h
  split at h<;>cases h
  exact⟨j.rq,j.im,j.ep,by show (q.st++[_]).length≤80;rw[List.length_append];simp;omega,j.ex⟩
structure MOkP (m:Md):Prop where
 rq:m.rq.length≤40
 fit: ∀x∈m.ep,ze6 x
 nd:m.rq.Nodup
 im:m.im.length≤10000
 ep:m.ep.length≤10000
 st:m.st.length≤10000
 ex:m.ex.length≤10000
 fair:ze8 m.st
theorem MOk.parts {m:Md} (h:MOk m):MOkP m:=by
 obtain⟨t,_,q,w,rfl⟩:=h
 have j:=zjn w
 refine⟨j.rq,znP w,znO w,by have:=j.im;show q.im.length≤_;omega,?_,by have:=j.st;show q.st.length≤_;omega,by have:=j.ex;show q.ex.length≤_;omega,zjh w⟩
 have:=j.ep
 show (q.ep++q.la).length≤_
 rw[List.length_append]
 omega
def zq {α:Type} (c:α→Nat) (l:List α):Nat:=(l.map c).sum
theorem zfl {α:Type} (c:α→Nat) {l:List α} {j:Nat} {x:α} (h:l[j]? =some x):zq c (l.take (j+1))=zq c (l.take j)+c x:=by
 obtain⟨w,rfl⟩:=List.getElem?_eq_some_iff.1 h
 rw[List.take_succ_eq_append_getElem w,zq,List.map_append,List.sum_append]
 simp[zq]
def za2 (x:ByteArray):Nat:=x.size
def zbi (x:Im):Nat:=x.spec.size+x.first.size+x.loc.size
def zbj (x:Ep):Nat:=x.name.size+x.loc.size+x.spec.size
def zbZ (x:Sm):Nat:=x.name.size
def zcl (x:Ex):Nat:=x.name.size+x.field.size
def zbb (m:Md):Nat:=(m.rq.length+zq za2 m.rq)+(m.im.length+zq zbi m.im)+(m.ep.length+zq zbj m.ep)+(m.st.length+zq zbZ m.st)+(m.ex.length+zq zcl m.ex)
theorem zfm {α:Type} (f:α→ByteArray) (l:List α): ∀t:ByteArray,(acc f l t).size=t.size+(l.map fun x=>(f x).size).sum:=by
 induction l with
 |nil=>intro t;rfl
 |cons x l h=>
  intro t
  show (acc f l (t++f x)).size=_
  rw[h,ByteArray.size_append,List.map_cons,List.sum_cons,Nat.add_assoc]
theorem zgf {α:Type} {f c:α→Nat} (l:List α) (h: ∀x∈l,f x≤40+c x):(l.map f).sum≤40*l.length+zq c l:=by
 induction l with
 |nil=>exact Nat.le_refl _
 |cons x l j=>
  have z:=h x (List.mem_cons_self ..)
  have A:=j fun y w=>h y (List.mem_cons_of_mem _ w)
  unfold zq at*
  rw[List.map_cons,List.sum_cons,List.map_cons,List.sum_cons,List.length_cons]
  omega
theorem zjo {α:Type} {f c g:α→Nat} (l:List α) (h: ∀x∈l,f x≤40+c x+g x):(l.map f).sum≤40*l.length+zq c l+(l.map g).sum:=by
 induction l with
 |nil=>exact Nat.le_refl _
 |cons x l j=>
  have z:=h x (List.mem_cons_self ..)
  have A:=j fun y w=>h y (List.mem_cons_of_mem _ w)
  unfold zq at*
  rw[List.map_cons,List.sum_cons,List.map_cons,List.sum_cons,List.map_cons,List.sum_cons,List.length_cons]
  omega
theorem zdW {α:Type} {c:α→Nat} {l:List α} {x:α} (h:x∈l):c x≤zq c l:=by
 induction l with
 |nil=>cases h
 |cons y l j=>
  unfold zq at*
  rw[List.map_cons,List.sum_cons]
  rcases List.mem_cons.1 h with rfl|h
  ·omega
  ·have:=j h
   omega
theorem zcO (a:Array UInt8):(⟨a⟩:ByteArray).size=a.size:=rfl
theorem ze9 (s:ByteArray):(za0 s).size=s.size+2:=by
 rw[za0,ByteArray.size_append,ByteArray.size_append,zcO]
 show 1+s.size+1=_
 omega
theorem zjp (a b:ByteArray):(asT a b).size≤a.size+b.size+4:=by
 unfold asT
 split
 ·omega
 ·have z:(({data:=#[32,97,115,32]}:ByteArray)).size=4:=rfl
  rw[ByteArray.size_append,ByteArray.size_append,z]
  omega
theorem znY (s:ByteArray):(rqT s).size≤40+za2 s:=by
 rw[rqT,ByteArray.size_append,ByteArray.size_append,ze9,zcO,zcO]
 show 7+(s.size+2)+2≤40+s.size
 omega
theorem znZ (x:Im):(zad x).size≤40+zbi x:=by
 have h:=zjp x.first x.loc
 unfold zad zbi
 split
 ·simp only[ByteArray.size_append,ze9,zcO]
  simp only[List.size_toArray,List.length_cons,List.length_nil]
  omega
 ·split
  ·simp only[ByteArray.size_append,ze9,zcO]
   simp only[List.size_toArray,List.length_cons,List.length_nil]
   omega
  ·simp only[ByteArray.size_append,ze9,zcO]
   simp only[List.size_toArray,List.length_cons,List.length_nil]
   omega
theorem zoa (x:Ep):(epF x).size≤40+zbj x:=by
 have h:=zjp x.loc x.name
 unfold epF
 split
 ·exact Nat.zero_le _
 ·unfold zbq zbj
  split
  ·simp only[ByteArray.size_append,ze9,zcO]
   simp only[List.size_toArray,List.length_cons,List.length_nil]
   omega
  ·split
   ·simp only[ByteArray.size_append,ze9,zcO]
    simp only[List.size_toArray,List.length_cons,List.length_nil]
    omega
   ·simp only[ByteArray.size_append,zcO]
    simp only[List.size_toArray,List.length_cons,List.length_nil]
    omega
theorem zjq (k:Int) (n e:ByteArray):(za7 k n e).size≤40+n.size+e.size:=by
 unfold za7
 repeat' split
 all_goals
  simp only[ByteArray.size_append,zcO]
  simp only[List.size_toArray,List.length_cons,List.length_nil]
  omega
theorem zob (k:Int) (n e:ByteArray):(zdk k n e).size≤40+n.size+e.size:=by
 unfold zdk
 split
 ·simp only[ByteArray.size_append,zcO]
  simp only[List.size_toArray,List.length_cons,List.length_nil]
  omega
 ·exact zjq k n e
theorem zoc (l:List Ex):(l.map zdL).sum≤40*l.length+zq zcl l:=zgf l fun x _=>by unfold zdL zcl;omega
theorem zod (m:Md):(zce m).size≤40*m.rq.length+zq za2 m.rq+(40*m.im.length+zq zbi m.im)+(40*m.ep.length+zq zbj m.ep):=by
 have h:=zgf (c:=za2) m.rq fun x _=>znY x
 have j:=zgf (c:=zbi) m.im fun x _=>znZ x
 have w:=zgf (c:=zbj) m.ep fun x _=>zoa x
 rw[zce,zfm,zfm,zfm]
 have:sNone.size=0:=rfl
 omega
theorem zgg {m:Md} (t:Tree m) (h:zaR m.ex):(zbY m).size≤40*zbb m∧(zbr m).size≤40*zbb m:=by
 have A:=zod m
 have z:=zmj t h
 have I:=zoc m.ex
 have w:=zjo (c:=zbZ) (g:=fun s=>wt m.ex s.expr.toNat) (f:=fun s=>(stF m.ex s).size) m.st fun s _=>zjq s.kind s.name _
 have j:=zjo (c:=zbZ) (g:=fun s=>wt m.ex s.expr.toNat) (f:=fun s=>(zcD m.ex s).size) m.st fun s _=>zob s.kind s.name _
 have H:zbb m=(m.rq.length+zq za2 m.rq)+(m.im.length+zq zbi m.im)+(m.ep.length+zq zbj m.ep)+(m.st.length+zq zbZ m.st)+(m.ex.length+zq zcl m.ex):=rfl
 constructor
 ·rw[zbY,zfm]
  omega
 ·rw[zbr,zfm]
  omega
theorem zhp {m:Md} (h:zbb m≤67108864) (w:zaR m.ex):Small m:=by
 have z:zbb m=(m.rq.length+zq za2 m.rq)+(m.im.length+zq zbi m.im)+(m.ep.length+zq zbj m.ep)+(m.st.length+zq zbZ m.st)+(m.ex.length+zq zcl m.ex):=rfl
 refine⟨fun x j=>?_,fun x j=>?_,fun x j=>?_,fun x j=>?_,w,?_,?_,?_,?_,?_⟩
 ·have e:za2 x=x.size:=rfl
  have:=zdW (c:=za2) j
  omega
 ·have:=zdW (c:=zbi) j
  have e:zbi x=x.spec.size+x.first.size+x.loc.size:=rfl
  omega
 ·have:=zdW (c:=zbj) j
  have e:zbj x=x.name.size+x.loc.size+x.spec.size:=rfl
  omega
 ·have:=zdW (c:=zbZ) j
  have e:zbZ x=x.name.size:=rfl
  omega
 all_goals omega
theorem zoe {m:Md} (h:zbb m≤1048576) (j:zaR m.ex):Small m:=zhp (Nat.le_trans h (by decide)) j
abbrev okc (c:Int):Prop:=(97≤c∧c≤122)∨(48≤c∧c≤57)∨c=46∨c=95∨c=45∨c=47
abbrev zof (s:ByteArray):Prop:=1≤s.size∧s.size≤40∧bt s 0=47∧∀j,j<s.size→okc (bt s j)
def zhq (s:ByteArray):Bool:=decide (zof s)
def upd (p:ByteArray) (l:List ByteArray):List ByteArray:=
 if p.toList.isEmpty=true∨(p.toList==[46])=true then l else if (p.toList==[46,46])=false then l++[p] else l.dropLast
def zog (s:ByteArray) (i:Nat) (st:Nat×List ByteArray):Nat×List ByteArray:=
 if i<s.size∧bt s i≠47 then st else (i+1,upd (s.extract st.1 i) st.2)
def zjr (s:ByteArray):Nat→Nat×List ByteArray
 |0=>(0,[])
 |k+1=>zog s k (zjr s k)
def parts (s:ByteArray):List ByteArray:=(zjr s (s.size+1)).2
def zjs (l:List ByteArray):Nat→ByteArray
 |0=>{data:=#[]}
 |k+1=>zjs l k++{data:=#[47]}++l.getD k {data:=#[]}
def zfn (s:ByteArray):ByteArray:=if zhq s then (if (parts s).length=0 then {data:=#[47]} else zjs (parts s) (parts s).length) else {data:=#[]}
def zuC (w:World) (base:Nat) (e:TypeId) (g n cap:Nat) (xs:List ByteArray):Prop:=w.ownsRow base e 1 (.slice (some ⟨g,0,none⟩) n cap) n (xs.map Value.string)∧n=xs.length
def zb7 (a s:ByteArray):Bool:=decide (a.size≤s.size)&&((s.extract 0 a.size).toList==a.toList)
structure FilesAt (w:World) (a:Option Addr) (b off len:Nat) (Pt Tx:Nat→ByteArray):Prop where
 addr:0<len→a=some ⟨b,off,none⟩
 lt:0<len→b<w.heap.size
 path: ∀j,j<len→w.cell? ⟨b,off+j*2,none⟩=some (.string (Pt j))
 text: ∀j,j<len→w.cell? ⟨b,off+j*2+1,none⟩=some (.string (Tx j))
theorem FilesAt.later {w w':World} {a:Option Addr} {b z len:Nat} {Pt Tx:Nat→ByteArray} (h:FilesAt w a b z len Pt Tx) (A:Below w.heap.size w w'):FilesAt w' a b z len Pt Tx:=
 ⟨h.addr,fun k=>Nat.lt_of_lt_of_le (h.lt k) A.size,fun j H=>by rw[A.cell (h.lt (by omega))];exact h.path j H,fun j H=>by rw[A.cell (h.lt (by omega))];exact h.text j H⟩
def OwnF (w:World) (base:Nat) (e:TypeId) (g len k:Nat) (Pt Tx:Nat→ByteArray):Prop:=
 ∃xs,w.ownsRow base e 2 (.slice (some ⟨g,0,none⟩) len len) len xs∧∀j,j<k→xs[j*2]? =some (.string (Pt j))∧xs[j*2+1]? =some (.string (Tx j))
theorem OwnF.has {w:World} {z g len k:Nat} {e:TypeId} {Pt Tx:Nat→ByteArray} (h:OwnF w z e g len k Pt Tx) (j:Nat) (H:j<len*2): ∃v,w.cell? ⟨g,j,none⟩=some v:=by
 obtain⟨J,A,_⟩:=h
 have I:=A.1
 rw[A.cellAt j H]
 exact⟨_,List.getElem?_eq_getElem (by omega)⟩
theorem OwnF.free {w:World} {z g len k:Nat} {e:TypeId} {Pt Tx:Nat→ByteArray} (h:OwnF w z e g len k Pt Tx) (j:Nat):w.frozen? ⟨g,j,none⟩=false:=by
 obtain⟨H,A,_⟩:=h
 exact A.frozenAt j
theorem OwnF.fill {w:World} {z g len k:Nat} {e:TypeId} {Pt Tx:Nat→ByteArray} (h:OwnF w z e g len k Pt Tx) (J:k<len):
  OwnF ((w.setCell ⟨g,k*2,none⟩ (.string (Pt k))).setCell ⟨g,k*2+1,none⟩ (.string (Tx k))) z e g len (k+1) Pt Tx:=by
 obtain⟨N,A,H⟩:=h
 have M:=A.1
 refine⟨_,((A.stored (k*2) (.string (Pt k))).1.stored (k*2+1) (.string (Tx k))).1,fun j L=>?_⟩
 by_cases e:j=k
 ·subst e
  constructor
  ·rw[List.getElem?_set,if_neg (by omega),List.getElem?_set,if_pos rfl,if_pos (by omega)]
  ·rw[List.getElem?_set,if_pos rfl,if_pos (by rw[List.length_set];omega)]
 ·have I:=H j (by omega)
  rw[List.getElem?_set,if_neg (by omega),List.getElem?_set,if_neg (by omega),List.getElem?_set,if_neg (by omega),List.getElem?_set,if_neg (by omega)]
  exact I
theorem OwnF.lt {w:World} {j g len k:Nat} {e:TypeId} {Pt Tx:Nat→ByteArray} (h:OwnF w j e g len k Pt Tx):g<w.heap.size∧j≤g:=by
 obtain⟨M,I,_⟩:=h
 rcases I.2 with ⟨z,_⟩|⟨N,A,H,z,J,L,_⟩
 ·simp at z
 ·simp only[Value.slice.injEq,Option.some.injEq,Addr.mk.injEq,and_true,true_and] at z
  obtain⟨rfl,rfl⟩:=z
  exact⟨(Array.getElem?_eq_some_iff.1 L).1,J⟩
theorem OwnF.files {w:World} {z g len:Nat} {e:TypeId} {Pt Tx:Nat→ByteArray} (h:OwnF w z e g len len Pt Tx):FilesAt w (some ⟨g,0,none⟩) g 0 len Pt Tx:=by
 have A:=h.lt.1
 obtain⟨L,J,I⟩:=h
 refine⟨fun _=>rfl,fun _=>A,fun j H=>?_,fun j H=>?_⟩
 ·rw[Nat.zero_add,J.cellAt _ (by omega)]
  exact (I j H).1
 ·rw[Nat.zero_add,J.cellAt _ (by omega)]
  exact (I j H).2
theorem OwnF.later {w w':World} {j g len k:Nat} {e:TypeId} {Pt Tx:Nat→ByteArray} (h:OwnF w j e g len k Pt Tx) (U:Below w.heap.size w w'):OwnF w' j e g len k Pt Tx:=by
 have H:=h.lt.1
 obtain⟨O,J,M⟩:=h
 refine⟨O,⟨J.1,?_⟩,M⟩
 rcases J.2 with k|⟨X,L,A,I,z,V,N⟩
 ·exact .inl k
 ·simp only[Value.slice.injEq,Option.some.injEq,Addr.mk.injEq,and_true,true_and] at I
  obtain⟨rfl,rfl⟩:=I
  exact .inr ⟨g,len,A,rfl,z,(U.block g H).trans V,N⟩
theorem zoh {w h:World} {p t:ByteArray} {e:TypeId} (j:Below (w.alloc (.cells #[.string p,.string t] e)).heap.size (w.alloc (.cells #[.string p,.string t] e)) h):
  h.cell? ⟨w.heap.size,0,none⟩=some (.string p)∧h.cell? ⟨w.heap.size,1,none⟩=some (.string t)∧Below w.heap.size w h:=by
 have A:(w.alloc (.cells #[.string p,.string t] e)).heap.size=w.heap.size+1:=by show (w.heap.push _).size=_;simp
 have z:Below w.heap.size w (w.alloc (.cells #[.string p,.string t] e)):=(Below.refl _ _).alloc (Nat.le_refl _) _
 refine⟨?_,?_,z.trans (j.mono z.size)⟩
 ·rw[j.cell (by show w.heap.size<_;omega),World.cell?_alloc_new];rfl
 ·rw[j.cell (by show w.heap.size<_;omega),World.cell?_alloc_new];rfl
def fpB (p:ByteArray):Bool:=zhq p&& !(p.toList==[47])&&((zfn p).toList==p.toList)
def zjt (p t:ByteArray):Bool:=fpB p&&decide ((t.size:Int)≤1500)
abbrev zoi (len:Nat) (Pt Tx:Nat→ByteArray):Prop:=len≤8∧∀k,k<len→zjt (Pt k) (Tx k)=true∧(0<k→Op.bytesLess (Pt (k-1)).toList (Pt k).toList=true)
def zoj (len:Nat) (Pt Tx:Nat→ByteArray):Bool:=decide (zoi len Pt Tx)
abbrev zuD (k:Nat) (Pt Tx:Nat→ByteArray):Prop:=∀j,j<k→zjt (Pt j) (Tx j)=true∧(0<j→Op.bytesLess (Pt (j-1)).toList (Pt j).toList=true)
def zhr (Pt Tx:Nat→ByteArray) (q:ByteArray):Nat→ByteArray×Bool
 |0=>({data:=#[]},false)
 |k+1=>if (zhr Pt Tx q k).2=true then zhr Pt Tx q k else if Pt k=q then (Tx k,true) else ({data:=#[]},false)
def zuE (len:Nat) (Pt Tx:Nat→ByteArray) (q:ByteArray):ByteArray×Bool:=if zoj len Pt Tx=true then zhr Pt Tx q len else ({data:=#[]},false)
def zju (c:ByteArray):Nat→List ByteArray
 |0=>[]
 |k+1=>(if bt c (k+1)=47 then [c.extract 0 (k+1)] else [])++zju c k
def upC (c:ByteArray):List ByteArray:=zju c (c.size-1)++if 1<c.size then [{data:=#[47]}] else []
def upL (p:ByteArray):List ByteArray:=upC (zfn p)
theorem zY {p:Prop} (h:p):Hid p:=h
abbrev zb8 (c:Int):Prop:=32≤c∧c≤126∧c≠34∧c≠92
abbrev zd3 (s:ByteArray):Prop:=s.size≤40∧∀j,j<s.size→zb8 (bt s j)
def zcz (s:ByteArray):Bool:=decide (zd3 s)
theorem zjv {s:ByteArray} (h:zd3 s):zcz s=true:=decide_eq_true h
theorem zdX {s:ByteArray} (h: ¬zd3 s):zcz s=false:=decide_eq_false h
def zbI (p t:ByteArray):Bool:=!p.toList.isEmpty&&zcz p&&zcz t
abbrev zcm (len:Nat) (Pt Tx:Nat→ByteArray):Prop:=len≤8∧∀k,k<len→zbI (Pt k) (Tx k)=true∧(0<k→Op.bytesLess (Pt (k-1)).toList (Pt k).toList=true)
def zbs (len:Nat) (Pt Tx:Nat→ByteArray):Bool:=decide (zcm len Pt Tx)
theorem zjw {len:Nat} {Pt Tx:Nat→ByteArray} (h:zcm len Pt Tx):zbs len Pt Tx=true:=decide_eq_true h
theorem zdD {len:Nat} {Pt Tx:Nat→ByteArray} (h: ¬zcm len Pt Tx):zbs len Pt Tx=false:=decide_eq_false h
theorem zhs {len:Nat} {Pt Tx:Nat→ByteArray}:zbs len Pt Tx=true↔zcm len Pt Tx:=decide_eq_true_iff
abbrev zd4 (k:Nat) (Pt Tx:Nat→ByteArray):Prop:=∀j,j<k→zbI (Pt j) (Tx j)=true∧(0<j→Op.bytesLess (Pt (j-1)).toList (Pt j).toList=true)
theorem zgh {k:Nat} {Pt Tx:Nat→ByteArray} (h:zd4 k Pt Tx) (w:zbI (Pt k) (Tx k)=true) (z:0<k→Op.bytesLess (Pt (k-1)).toList (Pt k).toList=true):zd4 (k+1) Pt Tx:=by
 intro j A
 by_cases e:j=k
 ·subst e;exact⟨w,z⟩
 ·exact h j (by omega)
def zaU (p s:ByteArray):Bool:=(p.toList==s.toList)||(bt p (p.size-1)==47&&zb7 p s)
def zac (Pt:Nat→ByteArray) (s:ByteArray):Nat→Option Nat
 |0=>none
 |k+1=>match zaU (Pt k) s,zac Pt s k with
  |false,o=>o
  |true,none=>some k
  |true,some b=>if (Pt b).size<(Pt k).size then some k else some b
def zdE (o:Option Nat):Int:=match o with|none=> -1|some b=>b
theorem zgi {Pt:Nat→ByteArray} {s:ByteArray} {k:Nat} (h:zaU (Pt k) s=false):zac Pt s (k+1)=zac Pt s k:=by
 rw[zac,h]
theorem zgj {Pt:Nat→ByteArray} {s:ByteArray} {k:Nat} (h:zaU (Pt k) s=true) (j:zac Pt s k=none):zac Pt s (k+1)=some k:=by
 rw[zac,h,j]
theorem zgk {Pt:Nat→ByteArray} {s:ByteArray} {k b:Nat} (h:zaU (Pt k) s=true) (w:zac Pt s k=some b) (j:(Pt b).size<(Pt k).size):zac Pt s (k+1)=some k:=by
 rw[zac,h,w]
 exact if_pos j
theorem zht {Pt:Nat→ByteArray} {s:ByteArray} {k b:Nat} (h:zaU (Pt k) s=true) (w:zac Pt s k=some b) (j: ¬(Pt b).size<(Pt k).size):zac Pt s (k+1)=some b:=by
 rw[zac,h,w]
 exact if_neg j
theorem zgl {p s:ByteArray} (h:zaU p s=true):p.size≤s.size:=by
 rw[zaU,Bool.or_eq_true,Bool.and_eq_true] at h
 rcases h with h|⟨_,h⟩
 ·rw[(zin p s).1 h]
  exact Nat.le_refl _
 ·rw[zb7,Bool.and_eq_true] at h
  exact of_decide_eq_true h.1
theorem zdY {Pt:Nat→ByteArray} {s:ByteArray} {k b:Nat} (h:zac Pt s k=some b):b<k∧zaU (Pt b) s=true:=by
 induction k with
 |zero=>cases h
 |succ k z=>
  cases j:zaU (Pt k) s with
  |false=>
   rw[zgi j] at h
   have:=z h
   exact⟨by omega,this.2⟩
  |true=>
   cases w:zac Pt s k with
   |none=>
    rw[zgj j w] at h
    cases h
    exact⟨by omega,j⟩
   |some c=>
    by_cases A:(Pt c).size<(Pt k).size
    ·rw[zgk j w A] at h
     cases h
     exact⟨by omega,j⟩
    ·rw[zht j w A] at h
     cases h
     have:=z w
     exact⟨by omega,this.2⟩
def zZ (len:Nat) (Pt Tx:Nat→ByteArray) (s:ByteArray):ByteArray:=
 match zbs len Pt Tx,zac Pt s len with
 |true,some b=>if 40<((Tx b).size:Int)+s.size-(Pt b).size then s else Tx b++s.extract (Pt b).size s.size
 |_,_=>s
theorem zgm {len:Nat} {Pt Tx:Nat→ByteArray} {s:ByteArray} (h:zbs len Pt Tx=false):zZ len Pt Tx s=s:=by
 rw[zZ,h]
theorem zgn {len:Nat} {Pt Tx:Nat→ByteArray} {s:ByteArray} (h:zac Pt s len=none):zZ len Pt Tx s=s:=by
 rw[zZ,h]
 cases zbs len Pt Tx<;>rfl
theorem zhu {len b:Nat} {Pt Tx:Nat→ByteArray} {s:ByteArray} (h:zac Pt s len=some b) (j:40<((Tx b).size:Int)+s.size-(Pt b).size):zZ len Pt Tx s=s:=by
 rw[zZ,h]
 cases zbs len Pt Tx with
 |false=>rfl
 |true=>exact if_pos j
theorem zhv {len b:Nat} {Pt Tx:Nat→ByteArray} {s:ByteArray} (w:zbs len Pt Tx=true) (h:zac Pt s len=some b) (j: ¬40<((Tx b).size:Int)+s.size-(Pt b).size):zZ len Pt Tx s=Tx b++s.extract (Pt b).size s.size:=by
 rw[zZ,h,w]
 exact if_neg j
theorem zhw {len k:Nat} {Pt Tx:Nat→ByteArray} (h:zbs len Pt Tx=true) (z:k<len):0<(Pt k).size:=by
 have w:=((zhs.1 h).2 k z).1
 rw[zbI,Bool.and_eq_true,Bool.and_eq_true] at w
 rcases Nat.eq_zero_or_pos (Pt k).size with e|e
 ·have j:=w.1.1
  rw[show Pt k={data:=#[]} from zgP (List.eq_nil_of_length_eq_zero (by rw[Array.length_toList];exact e)),Lib.toList_data] at j
  cases j
 ·exact e
def zcn (acc:List ByteArray) (s:ByteArray):List ByteArray:=if zaJ acc s=true then acc else acc++[s]
def zbJ (F:ByteArray→ByteArray) (l:List ByteArray) (k:Nat):List ByteArray:=(l.take k).foldl (fun acc s=>zcn acc (F s)) []
theorem zjx {F:ByteArray→ByteArray} {l:List ByteArray} {k:Nat} {x:ByteArray} (h:l[k]? =some x):zbJ F l (k+1)=zcn (zbJ F l k) (F x):=by
 obtain⟨j,rfl⟩:=List.getElem?_eq_some_iff.1 h
 rw[zbJ,List.take_succ_eq_append_getElem j,List.foldl_append]
 rfl
theorem zhx {acc:List ByteArray} {s:ByteArray} (h:zaJ acc s=true):zcn acc s=acc:=if_pos h
theorem zhy {acc:List ByteArray} {s:ByteArray} (h:zaJ acc s=false):zcn acc s=acc++[s]:=if_neg (by rw[h];exact Bool.false_ne_true)
def imM (F:ByteArray→ByteArray) (x:Im):Im:=⟨F x.spec,x.first,x.loc⟩
def epM (F:ByteArray→ByteArray) (x:Ep):Ep:=⟨x.kind,x.name,x.loc,F x.spec⟩
def zaV {α:Type} (f:α→α) (l:List α) (k:Nat):List α:=(l.take k).map f++l.drop k
theorem zgo {α:Type} (f:α→α) (l:List α):zaV f l 0=l:=by simp[zaV]
theorem zgp {α:Type} (f:α→α) (l:List α):zaV f l l.length=l.map f:=by simp[zaV]
theorem zfo {α:Type} {f:α→α} {l:List α} {k:Nat} {x:α} (h:l[k]? =some x):(zaV f l k)[k]? =some x:=by
 have j:=(List.getElem?_eq_some_iff.1 h).1
 rw[zaV,List.getElem?_append_right (by rw[List.length_map,List.length_take];omega),List.length_map,List.length_take,Nat.min_eq_left (by omega),Nat.sub_self,List.getElem?_drop,Nat.add_zero]
 exact h
theorem zfp {α:Type} {f:α→α} {l:List α} {k:Nat} {x:α} (h:l[k]? =some x):zaV f l (k+1)=(zaV f l k).set k (f x):=by
 obtain⟨j,rfl⟩:=List.getElem?_eq_some_iff.1 h
 have e:((l.take k).map f).length=k:=by rw[List.length_map,List.length_take];omega
 rw[zaV,zaV,List.take_succ_eq_append_getElem j,List.map_append,List.set_append_right _ _ (by rw[e];exact Nat.le_refl _),e,Nat.sub_self,List.drop_eq_getElem_cons j,List.set_cons_zero,List.append_assoc]
 rfl
theorem zok {α:Type} {f:α→α} {l:List α} {k:Nat} {x:α} (h:l[k]? =some x) (j:f x=x):zaV f l (k+1)=zaV f l k:=by
 rw[zfp h,j]
 have:=zfo (f:=f) h
 obtain⟨w,e⟩:=List.getElem?_eq_some_iff.1 this
 rw[←e]
 exact List.set_getElem_self w
def zaM (F:ByteArray→ByteArray) (m:Md):Md:=⟨zbJ F m.rq m.rq.length,m.im.map (imM F),m.ep.map (epM F),m.st,m.ex⟩
theorem zhz (F:ByteArray→ByteArray) (l:List ByteArray) (k:Nat):(zbJ F l k).length≤l.length:=by
 have H: ∀(l acc:List ByteArray),(l.foldl (fun acc s=>zcn acc (F s)) acc).length≤acc.length+l.length:=by
  intro l
  induction l with
  |nil=>intro acc;exact Nat.le_refl _
  |cons x l h=>
   intro acc
   refine Nat.le_trans (h _) ?_
   rw[List.length_cons]
   have:((fun acc s=>zcn acc (F s)) acc x).length≤acc.length+1:=by
    show (zcn acc (F x)).length≤_
    rw[zcn]
    split
    ·omega
    ·rw[List.length_append];exact Nat.le_refl _
   omega
 have:=H (l.take k) []
 rw[List.length_take] at this
 exact Nat.le_trans this (by rw[List.length_nil];omega)
theorem zol {F:ByteArray→ByteArray} (j: ∀s,(F s).size≤s.size+40) (l:List ByteArray):zq za2 (zbJ F l l.length)≤zq za2 l+40*l.length:=by
 have H: ∀(l acc:List ByteArray),zq za2 (l.foldl (fun acc s=>zcn acc (F s)) acc)≤zq za2 acc+zq za2 l+40*l.length:=by
  intro l
  induction l with
  |nil=>intro acc;exact Nat.le_refl _
  |cons x l h=>
   intro acc
   refine Nat.le_trans (h _) ?_
   have w:zq za2 ((fun acc s=>zcn acc (F s)) acc x)≤zq za2 acc+(x.size+40):=by
    show zq za2 (zcn acc (F x))≤_
    rw[zcn]
    split
    ·omega
    ·have e:zq za2 (acc++[F x])=zq za2 acc+(F x).size:=by simp[zq,za2]
     have:=j x
     omega
   have z:zq za2 (x::l)=x.size+zq za2 l:=by simp[zq,za2]
   rw[List.length_cons]
   omega
 have:=H l []
 rw[zbJ,List.take_length]
 have e:zq za2 ([]:List ByteArray)=0:=rfl
 omega
theorem zjy {α:Type} {c:α→Nat} {f:α→α} (h: ∀x,c (f x)≤c x+40) (l:List α):zq c (l.map f)≤zq c l+40*l.length:=by
 induction l with
 |nil=>exact Nat.le_refl _
 |cons x l w=>
  have z:zq c ((x::l).map f)=c (f x)+zq c (l.map f):=by simp[zq]
  have j:zq c (x::l)=c x+zq c l:=by simp[zq]
  have:=h x
  rw[List.length_cons]
  omega
theorem zjz {F:ByteArray→ByteArray} (h: ∀s,(F s).size≤s.size+40) (m:Md):zbb (zaM F m)≤41*zbb m:=by
 have a:=zhz F m.rq m.rq.length
 have b:=zol h m.rq
 have c:=zjy (c:=zbi) (f:=imM F) (fun x=>by have:=h x.spec;show (F x.spec).size+x.first.size+x.loc.size≤x.spec.size+x.first.size+x.loc.size+40;omega) m.im
 have d:=zjy (c:=zbj) (f:=epM F) (fun x=>by have:=h x.spec;show x.name.size+x.loc.size+(F x.spec).size≤x.name.size+x.loc.size+x.spec.size+40;omega) m.ep
 have e:zbb (zaM F m)=((zbJ F m.rq m.rq.length).length+zq za2 (zbJ F m.rq m.rq.length))+((m.im.map (imM F)).length+zq zbi (m.im.map (imM F)))+((m.ep.map (epM F)).length+zq zbj (m.ep.map (epM F)))+(m.st.length+zq zbZ m.st)+(m.ex.length+zq zcl m.ex):=rfl
 have g:zbb m=(m.rq.length+zq za2 m.rq)+(m.im.length+zq zbi m.im)+(m.ep.length+zq zbj m.ep)+(m.st.length+zq zbZ m.st)+(m.ex.length+zq zcl m.ex):=rfl
 rw[e,g,List.length_map,List.length_map]
 omega
theorem zj0 {len:Nat} {Pt Tx:Nat→ByteArray} (s:ByteArray):(zZ len Pt Tx s).size≤s.size+40:=by
 cases w:zbs len Pt Tx with
 |false=>rw[zgm w];omega
 |true=>
  cases h:zac Pt s len with
  |none=>rw[zgn h];omega
  |some b=>
   by_cases j:40<((Tx b).size:Int)+s.size-(Pt b).size
   ·rw[zhu h j];omega
   ·rw[zhv w h j,ByteArray.size_append,ByteArray.size_extract]
    have:=zgl (zdY h).2
    omega
theorem zom {len:Nat} {Pt Tx:Nat→ByteArray}:zZ len Pt Tx sNone=sNone:=by
 cases h:zbs len Pt Tx with
 |false=>exact zgm h
 |true=>
  cases j:zac Pt sNone len with
  |none=>exact zgn j
  |some b=>
   obtain⟨z,w⟩:=zdY j
   have H:=zgl w
   have A:=zhw h z
   have:sNone.size=0:=rfl
   omega
theorem zon {len:Nat} {Pt Tx:Nat→ByteArray} {x:Ep} (h:ze6 x) (j:x.kind=1):epM (zZ len Pt Tx) x=x:=by
 have e:=h j
 cases x
 simp only at e
 subst e
 rw[epM,zom]
def zj1 (F:ByteArray→ByteArray) (m:Md) (w:World) (e:Ending) (w':World):Prop:=
 ∃(b:Bool) (S:Sv),e= .returned (.tuple #[zh S (if b=true then zaM F m else md0),.bool b])∧OwnMd w' w.heap.size S (if b=true then zaM F m else md0)∧(b=true↔MOk m∧MOk (zaM F m))∧Below w.heap.size w w'
theorem zoo {len:Nat} {Pt Tx:Nat→ByteArray} {m:Md} (w:zbb m≤1048576) (j:zaR m.ex):Small (zaM (zZ len Pt Tx) m)∧(Tree (zaM (zZ len Pt Tx) m)→(zbr (zaM (zZ len Pt Tx) m)).size≤4294967296)∧(Tree (zaM (zZ len Pt Tx) m)→(zbY (zaM (zZ len Pt Tx) m)).size≤4294967296):=by
 have h:=zjz (F:=zZ len Pt Tx) zj0 m
 exact⟨zhp (by omega) j,fun t=>by have:=(zgg t j).2;omega,fun t=>by have:=(zgg t j).1;omega⟩
theorem zeA {m:Md} (j:zbb m≤1048576):(∀x∈m.rq,x.size≤1048576)∧(∀x∈m.im,x.spec.size≤1048576)∧∀x∈m.ep,x.spec.size≤1048576:=by
 have e:zbb m=(m.rq.length+zq za2 m.rq)+(m.im.length+zq zbi m.im)+(m.ep.length+zq zbj m.ep)+(m.st.length+zq zbZ m.st)+(m.ex.length+zq zcl m.ex):=rfl
 refine⟨fun x h=>?_,fun x h=>?_,fun x h=>?_⟩
 ·have:=zdW (c:=za2) h
  have e:za2 x=x.size:=rfl
  omega
 ·have:=zdW (c:=zbi) h
  have e:zbi x=x.spec.size+x.first.size+x.loc.size:=rfl
  omega
 ·have:=zdW (c:=zbj) h
  have e:zbj x=x.name.size+x.loc.size+x.spec.size:=rfl
  omega
def OkC (f:FuncId):Prop:=∀(base:Nat) (S:Sv) (m:Md) (w:World),OwnMd w base S m→zbb m≤67108864→zaR m.ex→Calls Tryz.prog f #[zh S m,.bool false] w fun e w'=>zbX (MOk m) e∧Below w.heap.size w w'
def zc0:Nat→Nat→ByteArray→ByteArray
 |0,_,o=>o
 |f+1,k,o=>if k=0 then o else zc0 f (k/10) (strOfNums [48+(k:Int)%10]++o)
def mtS (k:Nat):ByteArray:={data:=#[109]}++zc0 k k {data:=#[]}
theorem zop (f:Nat) (o:ByteArray):zc0 f 0 o=o:=by cases f<;>rfl
theorem zoq {f k:Nat} {o:ByteArray} (h:k≤f) (w:0<k): ∃j,k/10≤j∧zc0 f k o=zc0 j (k/10) (strOfNums [48+(k:Int)%10]++o):=by
 match f,h with
 |0,h=>omega
 |f+1,h=>exact⟨f,by omega,by rw[zc0,if_neg (by omega)]⟩
theorem zc1 (h:Nat) (w:World) (_:0<h) (X:h≤8000000):
  Calls Tryz.prog 52 #[.int .i64 h] w fun e w'=>e= .returned (.string (mtS h))∧Below w.heap.size w w':=by
 go_enter Tryz.func52,Tryz.ntmps52
 go_wp2
 go_loopw [0,3] (fun i o wr=>∃(k f m:Nat) (x:ByteArray),i= .int .i64 k∧o= .string x∧k≤f∧k≤8000000∧zc0 f k x=zc0 h h {data:=#[]}∧x.size≤m∧k+m≤8000000∧Below w.heap.size w wr) (fun i _ _=>(intOf i).toNat)
 case atStart=>exact⟨h,h,0,_,rfl,rfl,Nat.le_refl _,X,rfl,Nat.le_refl _,by omega,Below.refl _ _⟩
 case round=>
  obtain⟨k,f,m,x,rfl,rfl,I,U,J,hx,N,H⟩:=hrel
  have M:Hid (zc0 f k x=zc0 h h {data:=#[]}):=J
  clear J
  by_cases O:0<k
  ·obtain⟨L,A,j⟩:=zoq (o:=x) I O
   have Y:Hid (zc0 L (k/10) (strOfNums [48+(k:Int)%10]++x)=zc0 h h {data:=#[]}):=j.symm.trans M.out
   have j:=fun (w:World) (x:Int)=>zgL (P:=Tryz.prog) (src:=50) (dst:=9) Tryz.underlying50 Tryz.underlying5 Tryz.underlying9 w x
   have z:=fun x=>strOfNums_size [x]
   have V:k/10+1≤k:=by omega
   go_wp2
   go_roundw
   case rel=>exact⟨k/10,L,m+1,_,by go_num,rfl,A,by omega,Y.out,by rw[ByteArray.size_append,z];simp;omega,by omega,H.alloc H.size _⟩
   case measure=>simp[intOf];omega
  ·obtain rfl:k=0:=by omega
   have Z:Hid (x=zc0 h h {data:=#[]}):=by have:=M.out;rw[zop] at this;exact this
   go_wp2
   go_ret
   exact⟨za1 (by rw[Z.out];rfl),H⟩
theorem zdl (h:Nat) (w:World) (j:0<h) (z:h≤100000):
  Calls Tryz.prog 52 #[.int .i64 h] w fun e w'=>e= .returned (.string (mtS h))∧Below w.heap.size w w':=zc1 h w j (by omega)
end Go.Proofs.YtjdddblpfbmpaaaGreat
