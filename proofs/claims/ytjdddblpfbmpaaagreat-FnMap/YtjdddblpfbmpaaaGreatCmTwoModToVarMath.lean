/-
  Two programs in memory side by side. No program is spoken of but for the numbers of its types.
  Lines of a program's text,as plain functions. No program is spoken of.
  A program's text: its lines,one behind the other. No program is spoken of.
  What a program declares,as plain functions. No program is spoken of.
  What each step of reading keeps,the whole reading keeps; so a program that was read has no request twice. No program is spoken of.
  A program that was read has no statement of DefaultName that is no let. No program is spoken of.
  What a Print and a Parse tell,as a ModOk takes it. No program is spoken of but for the numbers of its types.
  What ModOk of both sides tells. No program is spoken of but for the numbers of its types.
  What the laws count of a program,as plain functions. No program is spoken of.
  A program that is small has a text that is small. No program is spoken of.
  Paths,and what Clean makes of them,as plain functions; a row of texts in memory. No program is spoken of.
  A row of files in memory,each a path and a text,and when files are right: plain facts. No program is spoken of.
  The directories that a path is in,as a plain function. No program is spoken of.
  When rules are right: plain facts. No program is spoken of.
  What an import map tells of a name: plain facts. No program is spoken of.
  A program whose requests are mapped: plain facts. No program is spoken of.
  What a MapMod hands back. No program is spoken of but for the numbers of its types.
  The order of texts. No program is spoken of.
  The last of rules that rise and are for a name is the longest one. No program is spoken of.
  What laws.FnMap says of import maps,as plain facts. No program is spoken of.
  Plain facts on numbers of seven bits a byte. No program is spoken of.
-/
import Derived.Deep.Cut
import Derived.Test.YtjdddblpfbmpaaaGreatCmImplParseJToEqRow
namespace Go.Proofs.YtjdddblpfbmpaaaGreat
open Go.RowKit Go.PlainAid Go.Sort
theorem zeD (l:List ByteArray):l.map Value.string=l.flatMap (fun x=>[Value.string x]):=by
 induction l with
 |nil=>rfl
 |cons x l j=>rw[List.map_cons,List.flatMap_cons,j];rfl
def TwoM (w0:World) (b1 b2:Nat) (S1 S2:Sv) (m1 m2:Md) (w:World):Prop:=
 w.heap[w0.heap.size]? =some (.cells #[.slice S1.rq.a m1.rq.length S1.rq.cap,.slice S1.im.a m1.im.length S1.im.cap,.slice S1.ep.a m1.ep.length S1.ep.cap,.slice S1.st.a m1.st.length S1.st.cap,.slice S1.ex.a m1.ex.length S1.ex.cap] 36 (0,0))∧w.heap[w0.heap.size+1]? =some (.cells #[.slice S2.rq.a m2.rq.length S2.rq.cap,.slice S2.im.a m2.im.length S2.im.cap,.slice S2.ep.a m2.ep.length S2.ep.cap,.slice S2.st.a m2.st.length S2.st.cap,.slice S2.ex.a m2.ex.length S2.ex.cap] 36 (0,0))∧OwnMd w b1 S1 m1∧OwnMd w b2 S2 m2∧Below w0.heap.size w0 w
theorem TwoM.later {w0 w w':World} {z b2:Nat} {H q:Sv} {I A:Md} (h:TwoM w0 z b2 H q I A w) (j:Below w.heap.size w w'):TwoM w0 z b2 H q I A w':=
 ⟨(j.block _ (Array.getElem?_eq_some_iff.1 h.1).1).trans h.1,(j.block _ (Array.getElem?_eq_some_iff.1 h.2.1).1).trans h.2.1,h.2.2.1.later j,h.2.2.2.1.later j,h.2.2.2.2.trans (j.mono h.2.2.2.2.size)⟩
theorem zh9 (w:World) (J b2:Nat) (j q:Sv) (z A:Md) (M:OwnMd w J j z) (L:OwnMd w b2 q A):TwoM w J b2 j q z A ((w.alloc (.cells #[.slice j.rq.a z.rq.length j.rq.cap,.slice j.im.a z.im.length j.im.cap,.slice j.ep.a z.ep.length j.ep.cap,.slice j.st.a z.st.length j.st.cap,.slice j.ex.a z.ex.length j.ex.cap] 36)).alloc (.cells #[.slice q.rq.a A.rq.length q.rq.cap,.slice q.im.a A.im.length q.im.cap,.slice q.ep.a A.ep.length q.ep.cap,.slice q.st.a A.st.length q.st.cap,.slice q.ex.a A.ex.length q.ex.cap] 36)):=by
 have I:Below w.heap.size w (w.alloc (.cells #[.slice j.rq.a z.rq.length j.rq.cap,.slice j.im.a z.im.length j.im.cap,.slice j.ep.a z.ep.length j.ep.cap,.slice j.st.a z.st.length j.st.cap,.slice j.ex.a z.ex.length j.ex.cap] 36)):=(Below.refl _ _).alloc (Nat.le_refl _) _
 have H:Below (w.alloc (.cells #[.slice j.rq.a z.rq.length j.rq.cap,.slice j.im.a z.im.length j.im.cap,.slice j.ep.a z.ep.length j.ep.cap,.slice j.st.a z.st.length j.st.cap,.slice j.ex.a z.ex.length j.ex.cap] 36)).heap.size (w.alloc (.cells #[.slice j.rq.a z.rq.length j.rq.cap,.slice j.im.a z.im.length j.im.cap,.slice j.ep.a z.ep.length j.ep.cap,.slice j.st.a z.st.length j.st.cap,.slice j.ex.a z.ex.length j.ex.cap] 36)) ((w.alloc (.cells #[.slice j.rq.a z.rq.length j.rq.cap,.slice j.im.a z.im.length j.im.cap,.slice j.ep.a z.ep.length j.ep.cap,.slice j.st.a z.st.length j.st.cap,.slice j.ex.a z.ex.length j.ex.cap] 36)).alloc (.cells #[.slice q.rq.a A.rq.length q.rq.cap,.slice q.im.a A.im.length q.im.cap,.slice q.ep.a A.ep.length q.ep.cap,.slice q.st.a A.st.length q.st.cap,.slice q.ex.a A.ex.length q.ex.cap] 36)):=(Below.refl _ _).alloc (Nat.le_refl _) _
 refine⟨(H.block _ (by rw[zl];omega)).trans (heap_alloc_new w _),?_,(M.later I).later H,(L.later I).later H,I.trans (H.mono (by rw[zl];omega))⟩
 have:=heap_alloc_new (w.alloc (.cells #[.slice j.rq.a z.rq.length j.rq.cap,.slice j.im.a z.im.length j.im.cap,.slice j.ep.a z.ep.length j.ep.cap,.slice j.st.a z.st.length j.st.cap,.slice j.ex.a z.ex.length j.ex.cap] 36)) (.cells #[.slice q.rq.a A.rq.length q.rq.cap,.slice q.im.a A.im.length q.im.cap,.slice q.ep.a A.ep.length q.ep.cap,.slice q.st.a A.st.length q.st.cap,.slice q.ex.a A.ex.length q.ex.cap] 36)
 rw[zl] at this
 exact this
def zee (m:Md):Prop:=m.rq.length≤4294967296∧m.im.length≤4294967296∧m.ep.length≤4294967296∧m.st.length≤4294967296∧m.ex.length≤4294967296
theorem zj1 {a b:Md} (z:a.rq=b.rq) (j:a.im=b.im) (H:a.ep=b.ep) (q:a.st=b.st) (A:a.ex=b.ex):a=b:=by
 cases a
 cases b
 simp only at z j H q A
 rw[z,j,H,q,A]
def za2 (s:ByteArray):ByteArray:=({data:=#[34]}:ByteArray)++s++({data:=#[34]}:ByteArray)
def asT (a b:ByteArray):ByteArray:=if a.toList==b.toList then a else a++({data:=#[32,97,115,32]}:ByteArray)++b
def zad (x:Im):ByteArray:=
 if x.first.toList==[42] then ({data:=#[105,109,112,111,114,116,32,42,32,97,115,32]}:ByteArray)++x.loc++({data:=#[32,102,114,111,109,32]}:ByteArray)++za2 x.spec++({data:=#[59,10]}:ByteArray)
 else if x.first.toList==[100,101,102,97,117,108,116] then ({data:=#[105,109,112,111,114,116,32]}:ByteArray)++x.loc++({data:=#[32,102,114,111,109,32]}:ByteArray)++za2 x.spec++({data:=#[59,10]}:ByteArray)
 else ({data:=#[105,109,112,111,114,116,32,123,32]}:ByteArray)++asT x.first x.loc++({data:=#[32,125,32,102,114,111,109,32]}:ByteArray)++za2 x.spec++({data:=#[59,10]}:ByteArray)
def zbw (x:Ep):ByteArray:=
 if x.kind==3 then ({data:=#[101,120,112,111,114,116,32,42,32,102,114,111,109,32]}:ByteArray)++za2 x.spec++({data:=#[59,10]}:ByteArray)
 else if x.kind==2 then ({data:=#[101,120,112,111,114,116,32,123,32]}:ByteArray)++asT x.loc x.name++({data:=#[32,125,32,102,114,111,109,32]}:ByteArray)++za2 x.spec++({data:=#[59,10]}:ByteArray)
 else ({data:=#[101,120,112,111,114,116,32,123,32]}:ByteArray)++asT x.loc x.name++({data:=#[32,125,59,10]}:ByteArray)
def za7 (k:Int) (n e:ByteArray):ByteArray:=
 if k==1 then (if n.toList==[42,100,101,102,97,117,108,116] then ({data:=#[101,120,112,111,114,116,32,100,101,102,97,117,108,116,32]}:ByteArray)++e++({data:=#[59,10]}:ByteArray) else ({data:=#[108,101,116,32]}:ByteArray)++n++({data:=#[32,61,32]}:ByteArray)++e++({data:=#[59,10]}:ByteArray))
 else if k==2 then ({data:=#[102,117,110,99,116,105,111,110,32]}:ByteArray)++n++({data:=#[40,41,32,123,32,114,101,116,117,114,110,32]}:ByteArray)++e++({data:=#[59,32,125,10]}:ByteArray)
 else if k==3 then n++({data:=#[32,61,32]}:ByteArray)++e++({data:=#[59,10]}:ByteArray)
 else if k==4 then ({data:=#[112,114,105,110,116,40]}:ByteArray)++e++({data:=#[41,59,10]}:ByteArray)
 else if k==5 then ({data:=#[116,104,114,111,119,32]}:ByteArray)++e++({data:=#[59,10]}:ByteArray)
 else ({data:=#[102,97,105,108,32]}:ByteArray)++e++({data:=#[59,10]}:ByteArray)
def zdo (k:Int) (n e:ByteArray):ByteArray:=if n.toList==[42,100,101,102,97,117,108,116] then ({data:=#[101,120,112,111,114,116,32,100,101,102,97,117,108,116,32]}:ByteArray)++e++({data:=#[59,10]}:ByteArray) else za7 k n e
def rqT (s:ByteArray):ByteArray:=({data:=#[105,109,112,111,114,116,32]}:ByteArray)++za2 s++({data:=#[59,10]}:ByteArray)
def acc {α:Type} (f:α→ByteArray) (l:List α) (t:ByteArray):ByteArray:=l.foldl (fun t x=>t++f x) t
theorem zcz {α:Type} (f:α→ByteArray) {l:List α} {j:Nat} {x:α} (h:l[j]? =some x) (t:ByteArray):acc f (l.take (j+1)) t=acc f (l.take j) t++f x:=by
 obtain⟨q,rfl⟩:=List.getElem?_eq_some_iff.1 h
 rw[List.take_succ_eq_append_getElem q,acc,List.foldl_append]
 rfl
theorem zef {α:Type} (f:α→ByteArray) (l:List α): ∀t:ByteArray,t.size≤(acc f l t).size:=by
 induction l with
 |nil=>intro t;exact Nat.le_refl _
 |cons x l j=>
  intro t
  refine Nat.le_trans ?_ (j (t++f x))
  rw[ByteArray.size_append]
  omega
theorem zoi {α:Type} (f:α→ByteArray) (a b:List α) (t:ByteArray):acc f (a++b) t=acc f b (acc f a t):=by rw[acc,List.foldl_append];rfl
theorem zdJ {α:Type} (f:α→ByteArray) (l:List α) (j:Nat) (t:ByteArray):(acc f (l.take j) t).size≤(acc f l t).size:=by
 have:acc f l t=acc f (l.drop j) (acc f (l.take j) t):=by rw[←zoi,List.take_append_drop]
 rw[this]
 exact zef f _ _
def epF (x:Ep):ByteArray:=if x.loc.toList==[42,100,101,102,97,117,108,116] then sNone else zbw x
def stF (ex:List Ex) (s:Sm):ByteArray:=za7 s.kind s.name (prX ex s.expr.toNat)
def zcH (ex:List Ex) (s:Sm):ByteArray:=zdo s.kind s.name (prX ex s.expr.toNat)
def zce (m:Md):ByteArray:=acc epF m.ep (acc zad m.im (acc rqT m.rq sNone))
def zbO (m:Md):ByteArray:=acc (stF m.ex) m.st (zce m)
def zbj (m:Md):ByteArray:=acc (zcH m.ex) m.st (zce m)
def PrintOut (T:ByteArray) (m:Md) (e:Ending):Prop:=(Tree m∧e= .returned (.string T))∨(¬Tree m∧e= .returned (.string sNone))
structure Small (m:Md):Prop where
 rq: ∀x∈m.rq,x.size≤4294967296
 im: ∀x∈m.im,x.spec.size≤4294967296∧x.first.size≤4294967296∧x.loc.size≤4294967296
 ep: ∀x∈m.ep,x.spec.size≤4294967296∧x.name.size≤4294967296∧x.loc.size≤4294967296
 st: ∀x∈m.st,x.name.size≤4294967296
 nums:zaW m.ex
 few:m.rq.length≤4294967296∧m.im.length≤4294967296∧m.ep.length≤4294967296∧m.st.length≤4294967296∧m.ex.length≤4294967296
abbrev dN:List UInt8:=[42,100,101,102,97,117,108,116]
def zoj (s:Sm):Bool:=(s.kind==1||s.kind==2)&& !(s.name.toList==dN)
def stN (l:List Sm):List ByteArray:=(l.filter zoj).map (·.name)
def imN (l:List Im):List ByteArray:=l.map (·.loc)
def zuJ (m:Md):List ByteArray:=stN m.st++imN m.im
def KG {α:Type} (R:PS→PS→Prop) (p:α→PS) (x:Except Nat α) (q:PS):Prop:=∀a,x= .ok a→R q (p a)
def zj2 (C:Cx) (k:Int) (n:ByteArray):Prop:=n=sNone∨k=1∨∃i o,zH C i o=true∧n=(ze C i).text
def zeE (x:Ep):Prop:=x.kind=1→x.spec=sNone
structure Kept (C:Cx) (R:PS→PS→Prop):Prop where
 rfl': ∀q,R q q
 tr: ∀{a b c},R a b→R b c→R a c
 adv: ∀q,R q (adv q)
 ex: ∀x q,KG R id (zQ C x q) q
 im: ∀x q,KG R id (zal C x q) q
 ep: ∀x q,zeE x→KG R id (zq C x q) q
 sp: ∀q,KG R Prod.fst (zF C q) q
 st: ∀k n q,zj2 C k n→KG R id (zU C k n q) q
theorem KG.bd {C:Cx} {R:PS→PS→Prop} {α β:Type} (H:Kept C R) {p:α→PS} {r:β→PS} {x:Except Nat α} {f:α→Except Nat β} {q:PS} (h:KG R p x q) (k: ∀a,x= .ok a→KG R r (f a) (p a)):KG R r (bd x f) q:=by
 intro b A
 obtain⟨a,j,z⟩:=zf A
 exact H.tr (h a j) (k a j b z)
theorem KG.after {C:Cx} {R:PS→PS→Prop} (H:Kept C R) {α:Type} {r:α→PS} {y:Except Nat α} {q q':PS} (h:R q q') (k:KG R r y q'):KG R r y q:=fun b j=>H.tr h (k b j)
theorem KG.ok {C:Cx} {R:PS→PS→Prop} (H:Kept C R) {α:Type} {p:α→PS} {a:α}:KG R p (.ok a) (p a):=fun b j=>by cases j;exact H.rfl' _
theorem KG.err {R:PS→PS→Prop} {α:Type} {p:α→PS} {e:Nat} {q:PS}:KG R p (.error e) q:=fun b j=>by cases j
theorem zaw {C:Cx} {R:PS→PS→Prop} (H:Kept C R) (k:Int) (x:ByteArray) (q:PS):KG R id (zd C k x q) q:=fun a h=>by obtain⟨rfl,_⟩:=zbL h;exact H.adv q
theorem zd4 {C:Cx} {R:PS→PS→Prop} (H:Kept C R) (o:Bool) (q:PS):KG R Prod.fst (zo C o q) q:=fun a h=>by obtain⟨rfl,_⟩:=zbq h;exact H.adv q
theorem zj3 {C:Cx} {R:PS→PS→Prop} (H:Kept C R) (n:ByteArray) (q:PS):KG R id (zbp C n q) q:=by
 unfold zbp
 split
 ·exact .bd H (.bd H (zaw H _ _ _) fun _ _=>zaw H _ _ _) fun _ _=>H.ex _ _
 ·exact H.ex _ _
theorem zok {C:Cx} {R:PS→PS→Prop} (H:Kept C R) (n f:ByteArray) (q:PS):KG R id (zbG C n f q) q:=by
 unfold zbG
 split
 ·exact .bd H (.bd H (zaw H _ _ _) fun _ _=>zaw H _ _ _) fun _ _=>H.ex _ _
 ·exact H.ex _ _
theorem zol {C:Cx} {R:PS→PS→Prop} (H:Kept C R) (f:Nat): ∀(z:NT) (d:Nat) (q:PS),KG R id (ev C f z d q) q:=by
 induction f with
 |zero=>intro z d q;cases z using NT.elim<;>exact .err
 |succ f j=>
  intro z d q
  cases z using NT.elim<;>rw[ev]
  ·exact .bd H (j _ _ _) fun _ _=>j _ _ _
  ·split
   ·exact .bd H (.bd H (.after H (H.adv q) (j _ _ _)) fun _ _=>H.ex _ _) fun _ _=>j _ _ _
   ·exact .ok (p:=id) H
  ·exact .bd H (j _ _ _) fun _ _=>j _ _ _
  ·split
   ·exact .bd H (.bd H (.after H (H.adv q) (j _ _ _)) fun _ _=>H.ex _ _) fun _ _=>j _ _ _
   ·exact .ok (p:=id) H
  ·split
   ·exact .after H (H.adv q) (H.ex _ _)
   ·split
    ·split
     ·exact .err
     ·exact .bd H (.after H (H.adv q) (j _ _ _)) fun _ _=>zaw H _ _ _
    ·split
     ·exact .after H (H.adv q) (zj3 H _ _)
     ·refine .bd H (zd4 H _ _) fun a _=>?_
      split
      ·exact .bd H (.after H (H.adv _) (zd4 H _ _)) fun _ _=>zok H _ _ _
      ·exact zj3 H _ _
theorem zeF {C:Cx} {R:PS→PS→Prop} (H:Kept C R) (j:NT) (d:Nat) (q:PS):KG R id (pE C j d q) q:=zol H _ _ _ _
theorem zj4 {C:Cx} {R:PS→PS→Prop} (H:Kept C R) {y:PRN} {F:PR→ByteArray→PR} {q:PS} (h:KG R Prod.fst y q) (k: ∀a,y= .ok a→KG R id (F (.ok a.1) a.2) a.1):KG R Prod.fst (withN y F) q:=
 .bd H h fun a j=>.bd (r:=Prod.fst) H (k a j) fun b _=>.ok (p:=Prod.fst) (a:=(b,a.2)) H
theorem zj5 {C:Cx} {R:PS→PS→Prop} (H:Kept C R) (q:PS):KG R Prod.fst (zc9 C q) q:=
 zj4 H (.bd H (zaw H _ _ _) fun _ _=>zd4 H _ _) fun _ _=>.bd H (.bd H (.bd H (.bd (p:=id) H (.ok (p:=id) H) fun _ _=>zaw H _ _ _) fun _ _=>zeF H _ _ _) fun _ _=>zaw H _ _ _) fun _ _=>H.st _ _ _ (.inr (.inl rfl))
theorem zj6 {C:Cx} {k:Int} {o:Bool} {q:PS} {a:PS×ByteArray} (h:zo C o q= .ok a):zj2 C k a.2:=by
 obtain⟨rfl,j⟩:=zbq h
 exact .inr (.inr ⟨_,_,j,rfl⟩)
theorem zj7 {C:Cx} {R:PS→PS→Prop} (H:Kept C R) (q:PS):KG R Prod.fst (fnP C q) q:=
 zj4 H (.bd H (zaw H _ _ _) fun _ _=>zd4 H _ _) fun a j=>.bd H (.bd H (.bd H (.bd H (.bd H (.bd H (.bd H (.bd (p:=id) H (.ok (p:=id) H) fun _ _=>zaw H _ _ _) fun _ _=>zaw H _ _ _) fun _ _=>zaw H _ _ _) fun _ _=>zaw H _ _ _) fun _ _=>zeF H _ _ _) fun _ _=>zaw H _ _ _) fun _ _=>zaw H _ _ _) fun _ _=>H.st _ _ _ (by
  obtain⟨b,_,z⟩:=zf j
  exact zj6 z)
theorem zom {C:Cx} {R:PS→PS→Prop} (H:Kept C R) (e:Bool) (a:PS×ByteArray):KG R Prod.fst (asP C e a) a.1:=by
 unfold asP
 split
 ·exact .after H (H.adv _) (zd4 H _ _)
 ·split
  ·exact .err
  ·exact .ok (p:=Prod.fst) H
theorem zon {C:Cx} {R:PS→PS→Prop} (H:Kept C R) (e:Bool) (f:Nat): ∀(q:PS) (acc:List Ep),KG R Prod.fst (zcL C e f q acc) q:=by
 induction f with
 |zero=>intro q acc;exact .err
 |succ f j=>
  intro q acc
  rw[zcL]
  refine .bd H (zd4 H _ _) fun a _=>.bd H (zom H _ _) fun b _=>?_
  split
  ·exact .after H (H.adv _) (j _ _)
  ·exact .bd (r:=Prod.fst) H (zaw H _ _ _) fun c _=>.ok (p:=Prod.fst) (a:=(c,_)) H
theorem zj8 {C:Cx} {R:PS→PS→Prop} (H:Kept C R) (e:Bool) (q:PS):KG R Prod.fst (zcM C e q) q:=.bd H (zaw H _ _ _) fun _ _=>zon H _ _ _ _
theorem zfy {C:Cx} {R:PS→PS→Prop} (H:Kept C R) {x:PR} {q:PS} (h:KG R id x q):KG R Prod.fst (zba C (zaI C x)) q:=
 .bd H (.bd H (.bd H h fun _ _=>zaw H _ _ _) fun _ _=>H.sp _) fun a _=>.bd (r:=Prod.fst) H (zaw H _ _ _) fun c _=>.ok (p:=Prod.fst) (a:=(c,a.2)) H
theorem zhA {C:Cx} {R:PS→PS→Prop} (H:Kept C R) {α:Type} {f:α→PS→PR} (z: ∀a q,KG R id (f a q) q) (l:List α): ∀(x:PR) (q:PS),KG R id x q→KG R id (zV f l x) q:=by
 induction l with
 |nil=>intro x q h;exact h
 |cons a l j=>intro x q h;exact j _ _ (.bd H h fun _ _=>z _ _)
theorem zoo {C:Cx} {R:PS→PS→Prop} (H:Kept C R) (q:PS):KG R id (zaX C q) q:=by
 refine .bd H (zaw H _ _ _) fun j _=>?_
 split
 ·exact .bd H (zj8 H _ _) fun a _=>.bd H (zfy H (.ok (p:=id) H)) fun b _=>zhA H (fun _ _=>H.im _ _) _ _ _ (.ok (p:=id) H)
 ·split
  ·exact .bd H (.bd H (.bd H (zaw H _ _ _) fun _ _=>zaw H _ _ _) fun _ _=>zd4 H _ _) fun a _=>.bd H (zfy H (.ok (p:=id) H)) fun _ _=>H.im _ _
  ·split
   ·exact .bd H (zd4 H _ _) fun a _=>.bd H (zfy H (.ok (p:=id) H)) fun _ _=>H.im _ _
   ·exact .bd H (H.sp _) fun _ _=>zaw H _ _ _
theorem zop {C:Cx} {R:PS→PS→Prop} (H:Kept C R) (q:PS):KG R id (zam C q) q:=by
 refine .bd H (zaw H _ _ _) fun j _=>?_
 split
 ·refine .bd H (zj8 H _ _) fun a _=>?_
  split
  ·exact .bd H (zaw H _ _ _) fun _ _=>zhA H (fun _ _=>H.ep _ _ (by first|exact fun _=>rfl|exact fun h=>absurd (show (2:Int)=1 from h) (by decide)|exact fun h=>absurd (show (3:Int)=1 from h) (by decide))) _ _ _ (.ok (p:=id) H)
  ·exact .bd H (zfy H (.ok (p:=id) H)) fun _ _=>zhA H (fun _ _=>H.ep _ _ (by first|exact fun _=>rfl|exact fun h=>absurd (show (2:Int)=1 from h) (by decide)|exact fun h=>absurd (show (3:Int)=1 from h) (by decide))) _ _ _ (.ok (p:=id) H)
 ·split
  ·exact .bd H (zfy H (zaw H _ _ _)) fun _ _=>H.ep _ _ (by first|exact fun _=>rfl|exact fun h=>absurd (show (2:Int)=1 from h) (by decide)|exact fun h=>absurd (show (3:Int)=1 from h) (by decide))
  ·split
   ·exact .bd H (.bd H (.bd H (.bd H (zaw H _ _ _) fun _ _=>zeF H _ _ _) fun _ _=>zaw H _ _ _) fun _ _=>H.st _ _ _ (.inr (.inl rfl))) fun _ _=>H.ep _ _ (by first|exact fun _=>rfl|exact fun h=>absurd (show (2:Int)=1 from h) (by decide)|exact fun h=>absurd (show (3:Int)=1 from h) (by decide))
   ·split
    ·exact .bd H (zj5 H _) fun _ _=>H.ep _ _ (by first|exact fun _=>rfl|exact fun h=>absurd (show (2:Int)=1 from h) (by decide)|exact fun h=>absurd (show (3:Int)=1 from h) (by decide))
    ·split
     ·exact .bd H (zj7 H _) fun _ _=>H.ep _ _ (by first|exact fun _=>rfl|exact fun h=>absurd (show (2:Int)=1 from h) (by decide)|exact fun h=>absurd (show (3:Int)=1 from h) (by decide))
     ·exact .err
theorem zj9 {C:Cx} {R:PS→PS→Prop} (H:Kept C R) (s:ByteArray) (k:Int) (q:PS):KG R id (bd (bd (bd (zd C 1 s q) (pE C .sum 0)) (zd C 4 cSemi)) (zU C k sNone)) q:=
 .bd H (.bd H (.bd H (zaw H _ _ _) fun _ _=>zeF H _ _ _) fun _ _=>zaw H _ _ _) fun _ _=>H.st _ _ _ (.inl rfl)
theorem zoq {C:Cx} {R:PS→PS→Prop} (H:Kept C R) (q:PS):KG R id (zA C q) q:=by
 unfold zA
 split
 ·exact zoo H q
 ·split
  ·exact zop H q
  ·split
   ·exact .bd H (zj5 H q) fun a _=>.ok (p:=id) H
   ·split
    ·exact .bd H (zj7 H q) fun a _=>.ok (p:=id) H
    ·split
     ·exact .bd H (.bd H (.bd H (.bd H (.bd H (zaw H _ _ _) fun _ _=>zaw H _ _ _) fun _ _=>zeF H _ _ _) fun _ _=>zaw H _ _ _) fun _ _=>zaw H _ _ _) fun _ _=>H.st _ _ _ (.inl rfl)
     ·split
      ·exact zj9 H _ _ _
      ·split
       ·exact zj9 H _ _ _
       ·exact .bd H (zd4 H _ _) fun a j=>.bd H (.bd H (.bd H (zaw H _ _ _) fun _ _=>zeF H _ _ _) fun _ _=>zaw H _ _ _) fun _ _=>H.st _ _ _ (zj6 j)
theorem zor {C:Cx} {R:PS→PS→Prop} (H:Kept C R) (f:Nat): ∀q,KG R id (zcN C f q) q:=by
 induction f with
 |zero=>intro q;exact .err
 |succ f j=>
  intro q
  rw[zcN]
  split
  ·exact .bd H (zoq H q) fun _ _=>j _
  ·exact .ok (p:=id) H
theorem zgt {R:PS→PS→Prop} {s:ByteArray} {j:Bool} {q:PS} (h:zbs s j (.ok q)) (H: ∀z,zai s j (.ok z)→Kept ⟨z,s.size,j⟩ R):R zbS q:=by
 obtain⟨r,A,e⟩:=h
 cases r with
 |error p=>cases e
 |ok z=>exact zor (H z A) _ zbS q e.symm
theorem zos {l:List ByteArray} {x:ByteArray} (h: ¬zak l x=true):x∉l:=fun j=>h (List.any_eq_true.2 ⟨x,j,beq_self_eq_true _⟩)
theorem zot {s:ByteArray} {z:Bool} {q:PS} (h:zbs s z (.ok q)):q.rq.Nodup:=by
 refine zgt (R:=fun a b=>a.rq.Nodup→b.rq.Nodup) h (fun J _=>?_) List.nodup_nil
 refine⟨fun _ h=>h,fun h k x=>k (h x),fun _ h=>h,?_,?_,?_,?_,?_⟩
 ·intro x q a h j
  obtain⟨rfl,_⟩:=zbr h
  exact j
 ·intro x q a h j
  unfold zal at h
  split at h<;>cases h
  exact j
 ·intro x q _ a h j
  unfold zq at h
  split at h
  ·cases h
  ·split at h<;>cases h<;>exact j
 ·intro q a h j
  unfold zF at h
  split at h
  ·split at h
   ·cases h;exact j
   ·next H=>
    split at h<;>cases h
    show (q.rq++[_]).Nodup
    rw[List.nodup_append]
    refine⟨j,by simp,fun a A b I e=>zos H ?_⟩
    rw[List.mem_singleton.1 I] at e
    exact e▸A
  ·cases h
 ·intro k n q _ a h j
  unfold zU at h
  split at h<;>cases h
  exact j
theorem zou {s:ByteArray} {H:Bool} {q:PS} (h:zbs s H (.ok q)): ∀x∈q.ep++q.la,zeE x:=by
 refine zgt (R:=fun a b=>(∀x∈a.ep++a.la,zeE x)→∀x∈b.ep++b.la,zeE x) h (fun I _=>?_) (fun x A=>by cases A)
 refine⟨fun _ h=>h,fun h k x=>k (h x),fun _ h=>h,?_,?_,?_,?_,?_⟩
 ·intro x q a h j
  obtain⟨rfl,_⟩:=zbr h
  exact j
 ·intro x q a h j
  unfold zal at h
  split at h<;>cases h
  exact j
 ·intro x q A a h j
  unfold zq at h
  split at h
  ·cases h
  ·split at h<;>cases h
   all_goals
    intro y z
    simp only[id,List.mem_append,List.mem_singleton] at z j
    rcases z with z|z
    ·first
     |exact j y (.inl z)
     |(rcases z with z|rfl
       ·exact j y (.inl z)
       ·exact A)
    ·first
     |exact j y (.inr z)
     |(rcases z with z|rfl
       ·exact j y (.inr z)
       ·exact A)
 ·intro q a h j
  unfold zF at h
  split at h
  ·split at h
   ·cases h;exact j
   ·split at h<;>cases h
    exact j
  ·cases h
 ·intro k n q _ a h j
  unfold zU at h
  split at h<;>cases h
  exact j
def zd5 (st:List Sm):Prop:=∀s∈st,s.name.toList=dN→s.kind=1
def zjA (ts:List Tk):Prop:=∀t∈ts,t.kind=1→t.text.toList≠dN
theorem zov {s:ByteArray} {j:Bool} {a e:Nat} {t:Tk} (q:a<s.size) (h:Tok s j a t e):t.kind=1→t.text.toList≠dN:=by
 have J:=(zex q h).1
 have H:=(zex q h).2.1
 cases h using Tok.elim with
 |name z _=>
  intro _ k
  have A:bt (s.extract a e) 0=42:=by
   rw[zdy,←Lib.toList_data,k]
   rfl
  have I:bt (s.extract a e) 0=bt s a:=by
   rw[zdy,zdy,ByteArray.data_extract]
   simp only[List.getD,List.getElem?_map,Array.getElem?_toList,Array.getElem?_extract]
   rw[if_pos (by have:s.data.size=s.size:=rfl;omega),Nat.add_zero]
  rw[←I,A] at z
  cases j<;>revert z<;>decide
 |num _ _=>intro k;cases k
 |str _ _=>intro k;cases k
 |sign _=>intro k;cases k
theorem zow {s:ByteArray} {q:Bool} {a n:Nat} {r:Except Nat (List Tk)} (h:Lx s q a n r): ∀j,r= .ok j→zjA j:=by
 induction h using Lx.ind with
 |done=>intro j k;cases k;intro t A;cases A
 |bad _ _=>intro j k;cases k
 | @tok a n e b t r h L A J I H=>
  intro j k
  cases r with
  |error p=>cases k
  |ok l=>
   cases k
   intro u z
   rcases List.mem_cons.1 z with rfl|z
   ·exact zov h A
   ·exact H l rfl u z
theorem zox {C:Cx} (q:zjA C.ts) {i:Nat} {o:Bool} (h:zH C i o=true):(ze C i).text.toList≠dN:=by
 have j:=zfa h
 have e:ze C i=C.ts[i]:=by simp[ze,List.getD,List.getElem?_eq_getElem j]
 simp only[zH,Bool.and_eq_true,beq_iff_eq] at h
 rw[e] at h ⊢
 exact q _ (List.getElem_mem j) h.1
theorem zoy {k:Int} (h:sNone.toList=dN):k=1:=by
 rw[Lib.toList_data] at h
 cases h
theorem zhB {s:ByteArray} {I:Bool} {q:PS} (h:zbs s I (.ok q)):zd5 q.st:=by
 refine zgt (R:=fun a b=>zd5 a.st→zd5 b.st) h (fun N H=>?_) (fun s z=>by cases z)
 obtain⟨_,_,H⟩:=H
 have M:=zow H N rfl
 refine⟨fun _ h=>h,fun h k x=>k (h x),fun _ h=>h,?_,?_,?_,?_,?_⟩
 ·intro x q a h j
  obtain⟨rfl,_⟩:=zbr h
  exact j
 ·intro x q a h j
  unfold zal at h
  split at h<;>cases h
  exact j
 ·intro x q _ a h j
  unfold zq at h
  split at h
  ·cases h
  ·split at h<;>cases h<;>exact j
 ·intro q a h j
  unfold zF at h
  split at h
  ·split at h
   ·cases h;exact j
   ·split at h<;>cases h
    exact j
  ·cases h
 ·intro k n q A a h j
  unfold zU at h
  split at h<;>cases h
  intro s z
  rcases List.mem_append.1 z with z|z
  ·exact j s z
  ·rw[List.mem_singleton.1 z]
   intro J
   rcases A with rfl|A|⟨i,o,L,rfl⟩
   ·exact zoy J
   ·exact A
   ·exact absurd J (zox M L)
def PrOf (T:ByteArray) (m:Md) (t:ByteArray):Prop:=(Tree m∧t=T)∨(¬Tree m∧t=sNone)
theorem PrintOut.form {T:ByteArray} {m:Md} {e:Ending} (h:PrintOut T m e): ∃t,PrOf T m t∧e= .returned (.string t):=by
 rcases h with ⟨j,q⟩|⟨j,q⟩
 ·exact⟨T,.inl ⟨j,rfl⟩,q⟩
 ·exact⟨sNone,.inr ⟨j,rfl⟩,q⟩
theorem PrOf.size {T t:ByteArray} {m:Md} {n:Nat} (h:PrOf T m t) (q:Tree m→T.size≤n):t.size≤n:=by
 rcases h with ⟨j,rfl⟩|⟨_,rfl⟩
 ·exact q j
 ·exact Nat.zero_le _
def zd6 (t:ByteArray) (scr:Bool) (m:Md):Prop:=∃q,zbs t scr (.ok q)∧zdT q=m
def zgu (T:ByteArray) (m:Md) (scr:Bool) (e:Ending):Prop:=∃t,PrOf T m t∧zbV (zd6 t scr m) e
theorem zjB {t:ByteArray} {j:Bool} {m:Md} {p:Nat} (h:zbs t j (.error p)): ¬zd6 t j m:=by
 rintro⟨q,z,_⟩
 cases ziX h z
theorem zjC {t:ByteArray} {j:Bool} {m n:Md} {q:PS} (h:zbs t j (.ok q)) (z:n=zdT q):zd6 t j m↔n=m:=by
 constructor
 ·rintro⟨I,A,H⟩
  cases ziX h A
  rw[z]
  exact H
 ·intro e
  exact⟨q,h,by rw[←z];exact e⟩
theorem ParseOut.md {s:ByteArray} {j:Bool} {w w':World} {e:Ending} (h:ParseOut s j w e w'):
  (∃(q:PS) (S:Sv) (n:Md),zbs s j (.ok q)∧n=zdT q∧e= .returned (.tuple #[zp S n,.int .i64 (-1)])∧OwnMd w' w.heap.size S n∧zee n)∨∃p:Nat,zbs s j (.error p)∧e= .returned (.tuple #[.agg #[.slice none 0 0,.slice none 0 0,.slice none 0 0,.slice none 0 0,.slice none 0 0],.int .i64 p]):=by
 obtain⟨y,H,z⟩:=h
 cases y with
 |ok q=>
  obtain⟨S,I,A⟩:=z
  refine .inl ⟨q,S,zdT q,H,rfl,I,A.md,?_⟩
  have L:=A.inv
  have J:(zdT q).ep.length=q.ep.length+q.la.length:=by show (q.ep++q.la).length=_;rw[List.length_append]
  refine⟨?_,?_,by rw[J];omega,?_,?_⟩
  ·show q.rq.length≤_;omega
  ·show q.im.length≤_;omega
  ·show q.st.length≤_;omega
  ·show q.ex.length≤_;omega
 |error p=>exact .inr ⟨p,H,z⟩
theorem zoz {k:Int} {n e:ByteArray} (h:n.toList=dN→k=1):zdo k n e=za7 k n e:=by
 unfold zdo
 split
 ·next j=>
  have q:=eq_of_beq j
  rw[h q,za7,if_pos (by decide),if_pos j]
 ·rfl
theorem zo0 {α:Type} {f g:α→ByteArray} (l:List α): ∀t,(∀x∈l,f x=g x)→acc f l t=acc g l t:=by
 induction l with
 |nil=>intro t _;rfl
 |cons x l j=>
  intro t h
  show acc f l (t++f x)=acc g l (t++g x)
  rw[h x (List.mem_cons_self ..)]
  exact j _ fun y q=>h y (List.mem_cons_of_mem _ q)
theorem zo1 {m:Md} (h:zd5 m.st):zbj m=zbO m:=zo0 _ _ fun s j=>zoz (h s j)
theorem zjD {m:Md} {j:Bool} {H z:ByteArray} (N:PrOf (zbO m) m H) (I:PrOf (zbj m) m z):zd6 H j m↔zd6 z j m:=by
 by_cases A:zd5 m.st
 ·have:H=z:=by
   rw[zo1 A] at I
   rcases N with ⟨a,rfl⟩|⟨a,rfl⟩<;>rcases I with ⟨b,rfl⟩|⟨b,rfl⟩
   ·rfl
   ·exact absurd a b
   ·exact absurd b a
   ·rfl
  rw[this]
 ·have J: ∀t,¬zd6 t j m:=by
   rintro t ⟨q,L,M⟩
   have:=zhB L
   rw[←M] at A
   exact A this
  exact⟨fun h=>absurd h (J _),fun h=>absurd h (J _)⟩
def MOk (m:Md):Prop:=∃t,PrOf (zbO m) m t∧zd6 t false m
theorem zjE {T:ByteArray} {m:Md} {t u:ByteArray} (h:PrOf T m t) (k:PrOf T m u):t=u:=by
 rcases h with ⟨a,rfl⟩|⟨a,rfl⟩<;>rcases k with ⟨b,rfl⟩|⟨b,rfl⟩
 ·rfl
 ·exact absurd a b
 ·exact absurd b a
 ·rfl
theorem zo2 {m:Md} {e:Ending} (h:zgu (zbO m) m false e):zbV (MOk m) e:=by
 obtain⟨t,j,b,rfl,z⟩:=h
 exact⟨b,rfl,z.trans ⟨fun k=>⟨t,j,k⟩,fun⟨u,q,k⟩=>zjE q j▸k⟩⟩
theorem zjF {m:Md} {e:Ending} (h:zgu (zbj m) m false e):zbV (MOk m) e:=by
 obtain⟨t,z,b,rfl,I⟩:=h
 have A: ∃s,PrOf (zbO m) m s:=by
  by_cases q:Tree m
  ·exact⟨_,.inl ⟨q,rfl⟩⟩
  ·exact⟨_,.inr ⟨q,rfl⟩⟩
 obtain⟨s,j⟩:=A
 exact⟨b,rfl,I.trans ⟨fun k=>⟨s,j,(zjD j z).2 k⟩,fun⟨u,H,k⟩=>(zjD j z).1 (zjE H j▸k)⟩⟩
structure FewP (q:PS):Prop where
 rq:q.rq.length≤40
 im:q.im.length≤40
 ep:q.ep.length+q.la.length≤40
 st:q.st.length≤80
 ex:q.ex.length≤300
theorem zo3 {s:ByteArray} {z:Bool} {q:PS} (h:zbs s z (.ok q)):FewP q:=by
 refine zgt (R:=fun a b=>FewP a→FewP b) h (fun A _=>?_) ⟨by decide,by decide,by decide,by decide,by decide⟩
 refine⟨fun _ h=>h,fun h k x=>k (h x),fun _ h=>⟨h.rq,h.im,h.ep,h.st,h.ex⟩,?_,?_,?_,?_,?_⟩
 ·intro x q a h j
  obtain⟨rfl,_⟩:=zbr h
  exact⟨j.rq,j.im,j.ep,j.st,by show (q.ex++[x]).length≤300;rw[List.length_append];simp;omega⟩
 ·intro x q a h j
  unfold zal at h
  split at h<;>cases h
  exact⟨j.rq,by show (q.im++[x]).length≤40;rw[List.length_append];simp;omega,j.ep,j.st,j.ex⟩
 ·intro x q _ a h j
  unfold zq at h
  split at h
  ·cases h
  ·split at h<;>cases h
   ·exact⟨j.rq,j.im,by show q.ep.length+(q.la++[x]).length≤40;rw[List.length_append];simp;omega,j.st,j.ex⟩
   ·exact⟨j.rq,j.im,by show (q.ep++[x]).length+q.la.length≤40;rw[List.length_append];simp;omega,j.st,j.ex⟩
 ·intro q a h j
  unfold zF at h
  split at h
  ·split at h
   ·cases h;exact⟨j.rq,j.im,j.ep,j.st,j.ex⟩
   ·split at h<;>cases h
    exact⟨by show (q.rq++[_]).length≤40;rw[List.length_append];simp;omega,j.im,j.ep,j.st,j.ex⟩
  ·cases h
 ·intro k n q _ a h j
  unfold zU at h
  split at h<;>cases h
  exact⟨j.rq,j.im,j.ep,by show (q.st++[_]).length≤80;rw[List.length_append];simp;omega,j.ex⟩
structure MOkP (m:Md):Prop where
 rq:m.rq.length≤40
 fit: ∀x∈m.ep,zeE x
 nd:m.rq.Nodup
 im:m.im.length≤10000
 ep:m.ep.length≤10000
 st:m.st.length≤10000
 ex:m.ex.length≤10000
 fair:zd5 m.st
theorem MOk.parts {m:Md} (h:MOk m):MOkP m:=by
 obtain⟨t,_,q,z,rfl⟩:=h
 have j:=zo3 z
 refine⟨j.rq,zou z,zot z,by have:=j.im;show q.im.length≤_;omega,?_,by have:=j.st;show q.st.length≤_;omega,by have:=j.ex;show q.ex.length≤_;omega,zhB z⟩
 have:=j.ep
 show (q.ep++q.la).length≤_
 rw[List.length_append]
 omega
def zB {α:Type} (c:α→Nat) (l:List α):Nat:=(l.map c).sum
def zaL (x:ByteArray):Nat:=x.size
def zcf (x:Im):Nat:=x.spec.size+x.first.size+x.loc.size
def zcg (x:Ep):Nat:=x.name.size+x.loc.size+x.spec.size
def zcR (x:Sm):Nat:=x.name.size
def zdp (x:Ex):Nat:=x.name.size+x.field.size
def zbW (m:Md):Nat:=(m.rq.length+zB zaL m.rq)+(m.im.length+zB zcf m.im)+(m.ep.length+zB zcg m.ep)+(m.st.length+zB zcR m.st)+(m.ex.length+zB zdp m.ex)
theorem zfz {α:Type} (f:α→ByteArray) (l:List α): ∀t:ByteArray,(acc f l t).size=t.size+(l.map fun x=>(f x).size).sum:=by
 induction l with
 |nil=>intro t;rfl
 |cons x l j=>
  intro t
  show (acc f l (t++f x)).size=_
  rw[j,ByteArray.size_append,List.map_cons,List.sum_cons,Nat.add_assoc]
theorem zgv {α:Type} {f c:α→Nat} (l:List α) (h: ∀x∈l,f x≤40+c x):(l.map f).sum≤40*l.length+zB c l:=by
 induction l with
 |nil=>exact Nat.le_refl _
 |cons x l j=>
  have z:=h x (List.mem_cons_self ..)
  have A:=j fun y q=>h y (List.mem_cons_of_mem _ q)
  unfold zB at*
  rw[List.map_cons,List.sum_cons,List.map_cons,List.sum_cons,List.length_cons]
  omega
theorem zjG {α:Type} {f c g:α→Nat} (l:List α) (h: ∀x∈l,f x≤40+c x+g x):(l.map f).sum≤40*l.length+zB c l+(l.map g).sum:=by
 induction l with
 |nil=>exact Nat.le_refl _
 |cons x l j=>
  have z:=h x (List.mem_cons_self ..)
  have A:=j fun y q=>h y (List.mem_cons_of_mem _ q)
  unfold zB at*
  rw[List.map_cons,List.sum_cons,List.map_cons,List.sum_cons,List.map_cons,List.sum_cons,List.length_cons]
  omega
theorem zgw {α:Type} {c:α→Nat} {l:List α} {x:α} (h:x∈l):c x≤zB c l:=by
 induction l with
 |nil=>cases h
 |cons y l j=>
  unfold zB at*
  rw[List.map_cons,List.sum_cons]
  rcases List.mem_cons.1 h with rfl|h
  ·omega
  ·have:=j h
   omega
theorem zcS (a:Array UInt8):(⟨a⟩:ByteArray).size=a.size:=rfl
theorem zeG (s:ByteArray):(za2 s).size=s.size+2:=by
 rw[za2,ByteArray.size_append,ByteArray.size_append,zcS]
 show 1+s.size+1=_
 omega
theorem zjH (a b:ByteArray):(asT a b).size≤a.size+b.size+4:=by
 unfold asT
 split
 ·omega
 ·have z:(({data:=#[32,97,115,32]}:ByteArray)).size=4:=rfl
  rw[ByteArray.size_append,ByteArray.size_append,z]
  omega
theorem zo4 (s:ByteArray):(rqT s).size≤40+zaL s:=by
 rw[rqT,ByteArray.size_append,ByteArray.size_append,zeG,zcS,zcS]
 show 7+(s.size+2)+2≤40+s.size
 omega
theorem zo5 (x:Im):(zad x).size≤40+zcf x:=by
 have j:=zjH x.first x.loc
 unfold zad zcf
 split
 ·simp only[ByteArray.size_append,zeG,zcS]
  simp only[List.size_toArray,List.length_cons,List.length_nil]
  omega
 ·split
  ·simp only[ByteArray.size_append,zeG,zcS]
   simp only[List.size_toArray,List.length_cons,List.length_nil]
   omega
  ·simp only[ByteArray.size_append,zeG,zcS]
   simp only[List.size_toArray,List.length_cons,List.length_nil]
   omega
theorem zo6 (x:Ep):(epF x).size≤40+zcg x:=by
 have j:=zjH x.loc x.name
 unfold epF
 split
 ·exact Nat.zero_le _
 ·unfold zbw zcg
  split
  ·simp only[ByteArray.size_append,zeG,zcS]
   simp only[List.size_toArray,List.length_cons,List.length_nil]
   omega
  ·split
   ·simp only[ByteArray.size_append,zeG,zcS]
    simp only[List.size_toArray,List.length_cons,List.length_nil]
    omega
   ·simp only[ByteArray.size_append,zcS]
    simp only[List.size_toArray,List.length_cons,List.length_nil]
    omega
theorem zjI (k:Int) (n e:ByteArray):(za7 k n e).size≤40+n.size+e.size:=by
 unfold za7
 repeat' split
 all_goals
  simp only[ByteArray.size_append,zcS]
  simp only[List.size_toArray,List.length_cons,List.length_nil]
  omega
theorem zo7 (k:Int) (n e:ByteArray):(zdo k n e).size≤40+n.size+e.size:=by
 unfold zdo
 split
 ·simp only[ByteArray.size_append,zcS]
  simp only[List.size_toArray,List.length_cons,List.length_nil]
  omega
 ·exact zjI k n e
theorem zo8 (l:List Ex):(l.map cost).sum≤40*l.length+zB zdp l:=zgv l fun x _=>by unfold cost zdp;omega
theorem zo9 (m:Md):(zce m).size≤40*m.rq.length+zB zaL m.rq+(40*m.im.length+zB zcf m.im)+(40*m.ep.length+zB zcg m.ep):=by
 have j:=zgv (c:=zaL) m.rq fun x _=>zo4 x
 have q:=zgv (c:=zcf) m.im fun x _=>zo5 x
 have z:=zgv (c:=zcg) m.ep fun x _=>zo6 x
 rw[zce,zfz,zfz,zfz]
 have:sNone.size=0:=rfl
 omega
theorem zf0 {m:Md} (t:Tree m) (j:zaW m.ex):(zbO m).size≤40*zbW m∧(zbj m).size≤40*zbW m:=by
 have H:=zo9 m
 have A:=zmG t j
 have J:=zo8 m.ex
 have z:=zjG (c:=zcR) (g:=fun s=>wt m.ex s.expr.toNat) (f:=fun s=>(stF m.ex s).size) m.st fun s _=>zjI s.kind s.name _
 have q:=zjG (c:=zcR) (g:=fun s=>wt m.ex s.expr.toNat) (f:=fun s=>(zcH m.ex s).size) m.st fun s _=>zo7 s.kind s.name _
 have I:zbW m=(m.rq.length+zB zaL m.rq)+(m.im.length+zB zcf m.im)+(m.ep.length+zB zcg m.ep)+(m.st.length+zB zcR m.st)+(m.ex.length+zB zdp m.ex):=rfl
 constructor
 ·rw[zbO,zfz]
  omega
 ·rw[zbj,zfz]
  omega
theorem zhC {m:Md} (h:zbW m≤67108864) (q:zaW m.ex):Small m:=by
 have z:zbW m=(m.rq.length+zB zaL m.rq)+(m.im.length+zB zcf m.im)+(m.ep.length+zB zcg m.ep)+(m.st.length+zB zcR m.st)+(m.ex.length+zB zdp m.ex):=rfl
 refine⟨fun x j=>?_,fun x j=>?_,fun x j=>?_,fun x j=>?_,q,?_,?_,?_,?_,?_⟩
 ·have e:zaL x=x.size:=rfl
  have:=zgw (c:=zaL) j
  omega
 ·have:=zgw (c:=zcf) j
  have e:zcf x=x.spec.size+x.first.size+x.loc.size:=rfl
  omega
 ·have:=zgw (c:=zcg) j
  have e:zcg x=x.name.size+x.loc.size+x.spec.size:=rfl
  omega
 ·have:=zgw (c:=zcR) j
  have e:zcR x=x.name.size:=rfl
  omega
 all_goals omega
abbrev okc (c:Int):Prop:=(97≤c∧c≤122)∨(48≤c∧c≤57)∨c=46∨c=95∨c=45∨c=47
abbrev zoA (s:ByteArray):Prop:=1≤s.size∧s.size≤40∧bt s 0=47∧∀j,j<s.size→okc (bt s j)
def zhD (s:ByteArray):Bool:=decide (zoA s)
def upd (p:ByteArray) (l:List ByteArray):List ByteArray:=
 if p.toList.isEmpty=true∨(p.toList==[46])=true then l else if (p.toList==[46,46])=false then l++[p] else l.dropLast
def zoB (s:ByteArray) (i:Nat) (st:Nat×List ByteArray):Nat×List ByteArray:=
 if i<s.size∧bt s i≠47 then st else (i+1,upd (s.extract st.1 i) st.2)
def zjJ (s:ByteArray):Nat→Nat×List ByteArray
 |0=>(0,[])
 |k+1=>zoB s k (zjJ s k)
def parts (s:ByteArray):List ByteArray:=(zjJ s (s.size+1)).2
def zjK (l:List ByteArray):Nat→ByteArray
 |0=>{data:=#[]}
 |k+1=>zjK l k++{data:=#[47]}++l.getD k {data:=#[]}
def zf1 (s:ByteArray):ByteArray:=if zhD s then (if (parts s).length=0 then {data:=#[47]} else zjK (parts s) (parts s).length) else {data:=#[]}
def zuK (w:World) (base:Nat) (e:TypeId) (g n cap:Nat) (xs:List ByteArray):Prop:=w.ownsRow base e 1 (.slice (some ⟨g,0,none⟩) n cap) n (xs.map Value.string)∧n=xs.length
def zb7 (a s:ByteArray):Bool:=decide (a.size≤s.size)&&((s.extract 0 a.size).toList==a.toList)
structure FilesAt (w:World) (a:Option Addr) (b off len:Nat) (Pt Tx:Nat→ByteArray):Prop where
 addr:0<len→a=some ⟨b,off,none⟩
 lt:0<len→b<w.heap.size
 path: ∀j,j<len→w.cell? ⟨b,off+j*2,none⟩=some (.string (Pt j))
 text: ∀j,j<len→w.cell? ⟨b,off+j*2+1,none⟩=some (.string (Tx j))
theorem FilesAt.later {w w':World} {a:Option Addr} {b q len:Nat} {Pt Tx:Nat→ByteArray} (h:FilesAt w a b q len Pt Tx) (z:Below w.heap.size w w'):FilesAt w' a b q len Pt Tx:=
 ⟨h.addr,fun k=>Nat.lt_of_lt_of_le (h.lt k) z.size,fun j A=>by rw[z.cell (h.lt (by omega))];exact h.path j A,fun j A=>by rw[z.cell (h.lt (by omega))];exact h.text j A⟩
def OwnF (w:World) (base:Nat) (e:TypeId) (g len k:Nat) (Pt Tx:Nat→ByteArray):Prop:=
 ∃xs,w.ownsRow base e 2 (.slice (some ⟨g,0,none⟩) len len) len xs∧∀j,j<k→xs[j*2]? =some (.string (Pt j))∧xs[j*2+1]? =some (.string (Tx j))
theorem OwnF.has {w:World} {q g len k:Nat} {e:TypeId} {Pt Tx:Nat→ByteArray} (h:OwnF w q e g len k Pt Tx) (j:Nat) (A:j<len*2): ∃v,w.cell? ⟨g,j,none⟩=some v:=by
 obtain⟨I,z,_⟩:=h
 have H:=z.1
 rw[z.cellAt j A]
 exact⟨_,List.getElem?_eq_getElem (by omega)⟩
theorem OwnF.free {w:World} {q g len k:Nat} {e:TypeId} {Pt Tx:Nat→ByteArray} (h:OwnF w q e g len k Pt Tx) (j:Nat):w.frozen? ⟨g,j,none⟩=false:=by
 obtain⟨A,z,_⟩:=h
 exact z.frozenAt j
theorem OwnF.lt {w:World} {j g len k:Nat} {e:TypeId} {Pt Tx:Nat→ByteArray} (h:OwnF w j e g len k Pt Tx):g<w.heap.size∧j≤g:=by
 obtain⟨L,H,_⟩:=h
 rcases H.2 with ⟨q,_⟩|⟨M,z,A,q,I,J,_⟩
 ·simp at q
 ·simp only[Value.slice.injEq,Option.some.injEq,Addr.mk.injEq,and_true,true_and] at q
  obtain⟨rfl,rfl⟩:=q
  exact⟨(Array.getElem?_eq_some_iff.1 J).1,I⟩
theorem OwnF.files {w:World} {q g len:Nat} {e:TypeId} {Pt Tx:Nat→ByteArray} (h:OwnF w q e g len len Pt Tx):FilesAt w (some ⟨g,0,none⟩) g 0 len Pt Tx:=by
 have z:=h.lt.1
 obtain⟨J,I,H⟩:=h
 refine⟨fun _=>rfl,fun _=>z,fun j A=>?_,fun j A=>?_⟩
 ·rw[Nat.zero_add,I.cellAt _ (by omega)]
  exact (H j A).1
 ·rw[Nat.zero_add,I.cellAt _ (by omega)]
  exact (H j A).2
theorem OwnF.later {w w':World} {j g len k:Nat} {e:TypeId} {Pt Tx:Nat→ByteArray} (h:OwnF w j e g len k Pt Tx) (O:Below w.heap.size w w'):OwnF w' j e g len k Pt Tx:=by
 have A:=h.lt.1
 obtain⟨N,I,L⟩:=h
 refine⟨N,⟨I.1,?_⟩,L⟩
 rcases I.2 with k|⟨V,J,z,H,q,U,M⟩
 ·exact .inl k
 ·simp only[Value.slice.injEq,Option.some.injEq,Addr.mk.injEq,and_true,true_and] at H
  obtain⟨rfl,rfl⟩:=H
  exact .inr ⟨g,len,z,rfl,q,(O.block g A).trans U,M⟩
theorem zoC {w j:World} {p t:ByteArray} {e:TypeId} (q:Below (w.alloc (.cells #[.string p,.string t] e)).heap.size (w.alloc (.cells #[.string p,.string t] e)) j):
  j.cell? ⟨w.heap.size,0,none⟩=some (.string p)∧j.cell? ⟨w.heap.size,1,none⟩=some (.string t)∧Below w.heap.size w j:=by
 have A:(w.alloc (.cells #[.string p,.string t] e)).heap.size=w.heap.size+1:=by show (w.heap.push _).size=_;simp
 have z:Below w.heap.size w (w.alloc (.cells #[.string p,.string t] e)):=(Below.refl _ _).alloc (Nat.le_refl _) _
 refine⟨?_,?_,z.trans (q.mono z.size)⟩
 ·rw[q.cell (by show w.heap.size<_;omega),World.cell?_alloc_new];rfl
 ·rw[q.cell (by show w.heap.size<_;omega),World.cell?_alloc_new];rfl
def fpB (p:ByteArray):Bool:=zhD p&& !(p.toList==[47])&&((zf1 p).toList==p.toList)
def zjL (p t:ByteArray):Bool:=fpB p&&decide ((t.size:Int)≤1500)
abbrev zoD (len:Nat) (Pt Tx:Nat→ByteArray):Prop:=len≤8∧∀k,k<len→zjL (Pt k) (Tx k)=true∧(0<k→Op.bytesLess (Pt (k-1)).toList (Pt k).toList=true)
def zoE (len:Nat) (Pt Tx:Nat→ByteArray):Bool:=decide (zoD len Pt Tx)
abbrev zuL (k:Nat) (Pt Tx:Nat→ByteArray):Prop:=∀j,j<k→zjL (Pt j) (Tx j)=true∧(0<j→Op.bytesLess (Pt (j-1)).toList (Pt j).toList=true)
def zhE (Pt Tx:Nat→ByteArray) (q:ByteArray):Nat→ByteArray×Bool
 |0=>({data:=#[]},false)
 |k+1=>if (zhE Pt Tx q k).2=true then zhE Pt Tx q k else if Pt k=q then (Tx k,true) else ({data:=#[]},false)
def zuM (len:Nat) (Pt Tx:Nat→ByteArray) (q:ByteArray):ByteArray×Bool:=if zoE len Pt Tx=true then zhE Pt Tx q len else ({data:=#[]},false)
def zjM (c:ByteArray):Nat→List ByteArray
 |0=>[]
 |k+1=>(if bt c (k+1)=47 then [c.extract 0 (k+1)] else [])++zjM c k
def upC (c:ByteArray):List ByteArray:=zjM c (c.size-1)++if 1<c.size then [{data:=#[47]}] else []
def upL (p:ByteArray):List ByteArray:=upC (zf1 p)
theorem zan {p:Prop} (h:p):Hid p:=h
abbrev zb8 (c:Int):Prop:=32≤c∧c≤126∧c≠34∧c≠92
abbrev zdq (s:ByteArray):Prop:=s.size≤40∧∀j,j<s.size→zb8 (bt s j)
def zcn (s:ByteArray):Bool:=decide (zdq s)
theorem zjN {s:ByteArray} (h:zdq s):zcn s=true:=decide_eq_true h
theorem zeg {s:ByteArray} (h: ¬zdq s):zcn s=false:=decide_eq_false h
theorem zoF {s:ByteArray}:zcn s=true↔zdq s:=decide_eq_true_iff
def zb9 (p t:ByteArray):Bool:=!p.toList.isEmpty&&zcn p&&zcn t
abbrev zco (len:Nat) (Pt Tx:Nat→ByteArray):Prop:=len≤8∧∀k,k<len→zb9 (Pt k) (Tx k)=true∧(0<k→Op.bytesLess (Pt (k-1)).toList (Pt k).toList=true)
def zaY (len:Nat) (Pt Tx:Nat→ByteArray):Bool:=decide (zco len Pt Tx)
theorem zjO {len:Nat} {Pt Tx:Nat→ByteArray} (h:zco len Pt Tx):zaY len Pt Tx=true:=decide_eq_true h
theorem zdK {len:Nat} {Pt Tx:Nat→ByteArray} (h: ¬zco len Pt Tx):zaY len Pt Tx=false:=decide_eq_false h
theorem zgx {len:Nat} {Pt Tx:Nat→ByteArray}:zaY len Pt Tx=true↔zco len Pt Tx:=decide_eq_true_iff
abbrev zd7 (k:Nat) (Pt Tx:Nat→ByteArray):Prop:=∀j,j<k→zb9 (Pt j) (Tx j)=true∧(0<j→Op.bytesLess (Pt (j-1)).toList (Pt j).toList=true)
theorem zgy {k:Nat} {Pt Tx:Nat→ByteArray} (h:zd7 k Pt Tx) (q:zb9 (Pt k) (Tx k)=true) (z:0<k→Op.bytesLess (Pt (k-1)).toList (Pt k).toList=true):zd7 (k+1) Pt Tx:=by
 intro j A
 by_cases e:j=k
 ·subst e;exact⟨q,z⟩
 ·exact h j (by omega)
def zaM (p s:ByteArray):Bool:=(p.toList==s.toList)||(bt p (p.size-1)==47&&zb7 p s)
def zZ (Pt:Nat→ByteArray) (s:ByteArray):Nat→Option Nat
 |0=>none
 |k+1=>match zaM (Pt k) s,zZ Pt s k with
  |false,o=>o
  |true,none=>some k
  |true,some b=>if (Pt b).size<(Pt k).size then some k else some b
def zdL (o:Option Nat):Int:=match o with|none=> -1|some b=>b
theorem zf2 {Pt:Nat→ByteArray} {s:ByteArray} {k:Nat} (h:zaM (Pt k) s=false):zZ Pt s (k+1)=zZ Pt s k:=by
 rw[zZ,h]
theorem zgz {Pt:Nat→ByteArray} {s:ByteArray} {k:Nat} (h:zaM (Pt k) s=true) (j:zZ Pt s k=none):zZ Pt s (k+1)=some k:=by
 rw[zZ,h,j]
theorem zg0 {Pt:Nat→ByteArray} {s:ByteArray} {k b:Nat} (h:zaM (Pt k) s=true) (q:zZ Pt s k=some b) (j:(Pt b).size<(Pt k).size):zZ Pt s (k+1)=some k:=by
 rw[zZ,h,q]
 exact if_pos j
theorem zg1 {Pt:Nat→ByteArray} {s:ByteArray} {k b:Nat} (h:zaM (Pt k) s=true) (q:zZ Pt s k=some b) (j: ¬(Pt b).size<(Pt k).size):zZ Pt s (k+1)=some b:=by
 rw[zZ,h,q]
 exact if_neg j
theorem zf3 {p s:ByteArray} (h:zaM p s=true):p.size≤s.size:=by
 rw[zaM,Bool.or_eq_true,Bool.and_eq_true] at h
 rcases h with h|⟨_,h⟩
 ·rw[(zfV p s).1 h]
  exact Nat.le_refl _
 ·rw[zb7,Bool.and_eq_true] at h
  exact of_decide_eq_true h.1
theorem zeh {Pt:Nat→ByteArray} {s:ByteArray} {k b:Nat} (h:zZ Pt s k=some b):b<k∧zaM (Pt b) s=true:=by
 induction k with
 |zero=>cases h
 |succ k z=>
  cases j:zaM (Pt k) s with
  |false=>
   rw[zf2 j] at h
   have:=z h
   exact⟨by omega,this.2⟩
  |true=>
   cases q:zZ Pt s k with
   |none=>
    rw[zgz j q] at h
    cases h
    exact⟨by omega,j⟩
   |some c=>
    by_cases A:(Pt c).size<(Pt k).size
    ·rw[zg0 j q A] at h
     cases h
     exact⟨by omega,j⟩
    ·rw[zg1 j q A] at h
     cases h
     have:=z q
     exact⟨by omega,this.2⟩
def zT (len:Nat) (Pt Tx:Nat→ByteArray) (s:ByteArray):ByteArray:=
 match zaY len Pt Tx,zZ Pt s len with
 |true,some b=>if 40<((Tx b).size:Int)+s.size-(Pt b).size then s else Tx b++s.extract (Pt b).size s.size
 |_,_=>s
theorem zf4 {len:Nat} {Pt Tx:Nat→ByteArray} {s:ByteArray} (h:zaY len Pt Tx=false):zT len Pt Tx s=s:=by
 rw[zT,h]
theorem zf5 {len:Nat} {Pt Tx:Nat→ByteArray} {s:ByteArray} (h:zZ Pt s len=none):zT len Pt Tx s=s:=by
 rw[zT,h]
 cases zaY len Pt Tx<;>rfl
theorem zhF {len b:Nat} {Pt Tx:Nat→ByteArray} {s:ByteArray} (h:zZ Pt s len=some b) (j:40<((Tx b).size:Int)+s.size-(Pt b).size):zT len Pt Tx s=s:=by
 rw[zT,h]
 cases zaY len Pt Tx with
 |false=>rfl
 |true=>exact if_pos j
theorem zg2 {len b:Nat} {Pt Tx:Nat→ByteArray} {s:ByteArray} (q:zaY len Pt Tx=true) (h:zZ Pt s len=some b) (j: ¬40<((Tx b).size:Int)+s.size-(Pt b).size):zT len Pt Tx s=Tx b++s.extract (Pt b).size s.size:=by
 rw[zT,h,q]
 exact if_neg j
theorem zhG {len k:Nat} {Pt Tx:Nat→ByteArray} (h:zaY len Pt Tx=true) (z:k<len):0<(Pt k).size:=by
 have q:=((zgx.1 h).2 k z).1
 rw[zb9,Bool.and_eq_true,Bool.and_eq_true] at q
 rcases Nat.eq_zero_or_pos (Pt k).size with e|e
 ·have j:=q.1.1
  rw[show Pt k={data:=#[]} from zhh (List.eq_nil_of_length_eq_zero (by rw[Array.length_toList];exact e)),Lib.toList_data] at j
  cases j
 ·exact e
def zbX (acc:List ByteArray) (s:ByteArray):List ByteArray:=if zak acc s=true then acc else acc++[s]
def zbd (F:ByteArray→ByteArray) (l:List ByteArray) (k:Nat):List ByteArray:=(l.take k).foldl (fun acc s=>zbX acc (F s)) []
theorem zf6 {F:ByteArray→ByteArray} {l:List ByteArray} {k:Nat} {x:ByteArray} (h:l[k]? =some x):zbd F l (k+1)=zbX (zbd F l k) (F x):=by
 obtain⟨j,rfl⟩:=List.getElem?_eq_some_iff.1 h
 rw[zbd,List.take_succ_eq_append_getElem j,List.foldl_append]
 rfl
theorem zf7 {acc:List ByteArray} {s:ByteArray} (h:zak acc s=true):zbX acc s=acc:=if_pos h
theorem zeH {acc:List ByteArray} {s:ByteArray} (h:zak acc s=false):zbX acc s=acc++[s]:=if_neg (by rw[h];exact Bool.false_ne_true)
def imM (F:ByteArray→ByteArray) (x:Im):Im:=⟨F x.spec,x.first,x.loc⟩
def epM (F:ByteArray→ByteArray) (x:Ep):Ep:=⟨x.kind,x.name,x.loc,F x.spec⟩
def zaU {α:Type} (f:α→α) (l:List α) (k:Nat):List α:=(l.take k).map f++l.drop k
theorem zg3 {α:Type} (f:α→α) (l:List α):zaU f l 0=l:=by simp[zaU]
theorem zg4 {α:Type} (f:α→α) (l:List α):zaU f l l.length=l.map f:=by simp[zaU]
theorem zf8 {α:Type} {f:α→α} {l:List α} {k:Nat} {x:α} (h:l[k]? =some x):(zaU f l k)[k]? =some x:=by
 have j:=(List.getElem?_eq_some_iff.1 h).1
 rw[zaU,List.getElem?_append_right (by rw[List.length_map,List.length_take];omega),List.length_map,List.length_take,Nat.min_eq_left (by omega),Nat.sub_self,List.getElem?_drop,Nat.add_zero]
 exact h
theorem zf9 {α:Type} {f:α→α} {l:List α} {k:Nat} {x:α} (h:l[k]? =some x):zaU f l (k+1)=(zaU f l k).set k (f x):=by
 obtain⟨j,rfl⟩:=List.getElem?_eq_some_iff.1 h
 have e:((l.take k).map f).length=k:=by rw[List.length_map,List.length_take];omega
 rw[zaU,zaU,List.take_succ_eq_append_getElem j,List.map_append,List.set_append_right _ _ (by rw[e];exact Nat.le_refl _),e,Nat.sub_self,List.drop_eq_getElem_cons j,List.set_cons_zero,List.append_assoc]
 rfl
theorem zoG {α:Type} {f:α→α} {l:List α} {k:Nat} {x:α} (h:l[k]? =some x) (j:f x=x):zaU f l (k+1)=zaU f l k:=by
 rw[zf9 h,j]
 have:=zf8 (f:=f) h
 obtain⟨q,e⟩:=List.getElem?_eq_some_iff.1 this
 rw[←e]
 exact List.set_getElem_self q
def zaZ (F:ByteArray→ByteArray) (m:Md):Md:=⟨zbd F m.rq m.rq.length,m.im.map (imM F),m.ep.map (epM F),m.st,m.ex⟩
theorem zg5 (F:ByteArray→ByteArray) (l:List ByteArray) (k:Nat):(zbd F l k).length≤l.length:=by
 have H: ∀(l acc:List ByteArray),(l.foldl (fun acc s=>zbX acc (F s)) acc).length≤acc.length+l.length:=by
  intro l
  induction l with
  |nil=>intro acc;exact Nat.le_refl _
  |cons x l j=>
   intro acc
   refine Nat.le_trans (j _) ?_
   rw[List.length_cons]
   have:((fun acc s=>zbX acc (F s)) acc x).length≤acc.length+1:=by
    show (zbX acc (F x)).length≤_
    rw[zbX]
    split
    ·omega
    ·rw[List.length_append];exact Nat.le_refl _
   omega
 have:=H (l.take k) []
 rw[List.length_take] at this
 exact Nat.le_trans this (by rw[List.length_nil];omega)
theorem zoH {F:ByteArray→ByteArray} (q: ∀s,(F s).size≤s.size+40) (l:List ByteArray):zB zaL (zbd F l l.length)≤zB zaL l+40*l.length:=by
 have H: ∀(l acc:List ByteArray),zB zaL (l.foldl (fun acc s=>zbX acc (F s)) acc)≤zB zaL acc+zB zaL l+40*l.length:=by
  intro l
  induction l with
  |nil=>intro acc;exact Nat.le_refl _
  |cons x l j=>
   intro acc
   refine Nat.le_trans (j _) ?_
   have z:zB zaL ((fun acc s=>zbX acc (F s)) acc x)≤zB zaL acc+(x.size+40):=by
    show zB zaL (zbX acc (F x))≤_
    rw[zbX]
    split
    ·omega
    ·have e:zB zaL (acc++[F x])=zB zaL acc+(F x).size:=by simp[zB,zaL]
     have:=q x
     omega
   have A:zB zaL (x::l)=x.size+zB zaL l:=by simp[zB,zaL]
   rw[List.length_cons]
   omega
 have:=H l []
 rw[zbd,List.take_length]
 have e:zB zaL ([]:List ByteArray)=0:=rfl
 omega
theorem zjP {α:Type} {c:α→Nat} {f:α→α} (j: ∀x,c (f x)≤c x+40) (l:List α):zB c (l.map f)≤zB c l+40*l.length:=by
 induction l with
 |nil=>exact Nat.le_refl _
 |cons x l z=>
  have A:zB c ((x::l).map f)=c (f x)+zB c (l.map f):=by simp[zB]
  have q:zB c (x::l)=c x+zB c l:=by simp[zB]
  have:=j x
  rw[List.length_cons]
  omega
theorem zhH {F:ByteArray→ByteArray} (j: ∀s,(F s).size≤s.size+40) (m:Md):zbW (zaZ F m)≤zbW m+40*(m.rq.length+m.im.length+m.ep.length):=by
 have a:=zg5 F m.rq m.rq.length
 have b:=zoH j m.rq
 have c:=zjP (c:=zcf) (f:=imM F) (fun x=>by have:=j x.spec;show (F x.spec).size+x.first.size+x.loc.size≤x.spec.size+x.first.size+x.loc.size+40;omega) m.im
 have d:=zjP (c:=zcg) (f:=epM F) (fun x=>by have:=j x.spec;show x.name.size+x.loc.size+(F x.spec).size≤x.name.size+x.loc.size+x.spec.size+40;omega) m.ep
 have e:zbW (zaZ F m)=((zbd F m.rq m.rq.length).length+zB zaL (zbd F m.rq m.rq.length))+((m.im.map (imM F)).length+zB zcf (m.im.map (imM F)))+((m.ep.map (epM F)).length+zB zcg (m.ep.map (epM F)))+(m.st.length+zB zcR m.st)+(m.ex.length+zB zdp m.ex):=rfl
 have g:zbW m=(m.rq.length+zB zaL m.rq)+(m.im.length+zB zcf m.im)+(m.ep.length+zB zcg m.ep)+(m.st.length+zB zcR m.st)+(m.ex.length+zB zdp m.ex):=rfl
 rw[e,g,List.length_map,List.length_map]
 omega
theorem zhI {len:Nat} {Pt Tx:Nat→ByteArray} (s:ByteArray):(zT len Pt Tx s).size≤s.size+40:=by
 cases z:zaY len Pt Tx with
 |false=>rw[zf4 z];omega
 |true=>
  cases j:zZ Pt s len with
  |none=>rw[zf5 j];omega
  |some b=>
   by_cases q:40<((Tx b).size:Int)+s.size-(Pt b).size
   ·rw[zhF j q];omega
   ·rw[zg2 z j q,ByteArray.size_append,ByteArray.size_extract]
    have:=zf3 (zeh j).2
    omega
theorem zoI {len:Nat} {Pt Tx:Nat→ByteArray}:zT len Pt Tx sNone=sNone:=by
 cases j:zaY len Pt Tx with
 |false=>exact zf4 j
 |true=>
  cases q:zZ Pt sNone len with
  |none=>exact zf5 q
  |some b=>
   obtain⟨A,z⟩:=zeh q
   have I:=zf3 z
   have H:=zhG j A
   have:sNone.size=0:=rfl
   omega
theorem zoJ {len:Nat} {Pt Tx:Nat→ByteArray} {x:Ep} (h:zeE x) (j:x.kind=1):epM (zT len Pt Tx) x=x:=by
 have e:=h j
 cases x
 simp only at e
 subst e
 rw[epM,zoI]
def zjQ (F:ByteArray→ByteArray) (m:Md) (w:World) (e:Ending) (w':World):Prop:=
 ∃(b:Bool) (S:Sv),e= .returned (.tuple #[zp S (if b=true then zaZ F m else md0),.bool b])∧OwnMd w' w.heap.size S (if b=true then zaZ F m else md0)∧(b=true↔MOk m∧MOk (zaZ F m))∧Below w.heap.size w w'
structure MapFit (m:Md):Prop where
 big:zbW m+40*(m.rq.length+m.im.length+m.ep.length)≤67108864
 parts:(∀x∈m.rq,x.size≤1048576)∧(∀x∈m.im,x.spec.size≤1048576)∧∀x∈m.ep,x.spec.size≤1048576
theorem MapFit.cost {m:Md} (h:MapFit m):zbW m≤67108864:=by have:=h.big;omega
theorem zoK {len:Nat} {Pt Tx:Nat→ByteArray} {m:Md} (q:MapFit m) (j:zaW m.ex):Small (zaZ (zT len Pt Tx) m)∧(Tree (zaZ (zT len Pt Tx) m)→(zbj (zaZ (zT len Pt Tx) m)).size≤4294967296)∧(Tree (zaZ (zT len Pt Tx) m)→(zbO (zaZ (zT len Pt Tx) m)).size≤4294967296):=by
 have h:=zhH (F:=zT len Pt Tx) zhI m
 have z:=q.big
 exact⟨zhC (by omega) j,fun t=>by have:=(zf0 t j).2;omega,fun t=>by have:=(zf0 t j).1;omega⟩
def OkC (f:FuncId):Prop:=∀(base:Nat) (S:Sv) (m:Md) (w:World),OwnMd w base S m→zbW m≤67108864→zaW m.ex→Calls Tryz.prog f #[zp S m,.bool false] w fun e w'=>zbV (MOk m) e∧Below w.heap.size w w'
theorem zoL: ∀a b c:List UInt8,Op.bytesLess a b=true→Op.bytesLess b c=true→Op.bytesLess a c=true:=by
 intro a
 induction a with
 |nil=>intro b c q j;cases b with
  |nil=>simp[Op.bytesLess] at q
  |cons y b=>cases c with
   |nil=>simp[Op.bytesLess] at j
   |cons z c=>rfl
 |cons x a A=>
  intro b c q j
  cases b with
  |nil=>simp[Op.bytesLess] at q
  |cons y b=>cases c with
   |nil=>simp[Op.bytesLess] at j
   |cons z c=>
    simp only[Op.bytesLess,Bool.or_eq_true,Bool.and_eq_true,decide_eq_true_eq,beq_iff_eq] at q j ⊢
    rcases q with q|⟨rfl,q⟩
    ·rcases j with j|⟨rfl,j⟩
     ·exact .inl (UInt8.lt_trans q j)
     ·exact .inl q
    ·rcases j with j|⟨rfl,j⟩
     ·exact .inl j
     ·exact .inr ⟨rfl,A b c q j⟩
theorem zoM {P:Nat→ByteArray} {len:Nat} (h: ∀k,0<k→k<len→Op.bytesLess (P (k-1)).toList (P k).toList=true): ∀i j,i<j→j<len→Op.bytesLess (P i).toList (P j).toList=true:=by
 intro i j
 induction j with
 |zero=>intro z;omega
 |succ j A=>
  intro z H
  have q:=h (j+1) (by omega) H
  rw[Nat.add_sub_cancel] at q
  rcases Nat.lt_or_ge i j with g|g
  ·exact zoL _ _ _ (A g (by omega)) q
  ·have:i=j:=by omega
   subst this
   exact q
theorem zoN: ∀a b:List UInt8,Op.bytesLess (a++b) a=false:=by
 intro a b
 induction a with
 |nil=>cases b<;>rfl
 |cons x a j=>simp[Op.bytesLess,j]
theorem zoO {p s:ByteArray} (h:zb7 p s=true):p.toList=s.toList.take p.size:=by
 rw[zb7,Bool.and_eq_true,beq_iff_eq] at h
 rw[←h.2,Lib.extract_toList,List.drop_zero,Nat.sub_zero,Lib.toList_data]
theorem zjR {p s:ByteArray} (h:zaM p s=true):p.toList=s.toList.take p.size:=by
 have j:p.toList.length=p.size:=by rw[Lib.toList_data,Array.length_toList];rfl
 rw[zaM,Bool.or_eq_true,Bool.and_eq_true] at h
 rcases h with h|⟨_,h⟩
 ·rw[beq_iff_eq] at h
  rw[←h,←j,List.take_length]
 ·exact zoO h
theorem zoP {p q s:ByteArray} (j:zaM p s=true) (z:zaM q s=true) (h:Op.bytesLess p.toList q.toList=true):p.size<q.size:=by
 rcases Nat.lt_or_ge p.size q.size with g|g
 ·exact g
 ·have e:p.toList=q.toList++(s.toList.take p.size).drop q.size:=by
   have A:q.toList=(s.toList.take p.size).take q.size:=by rw[List.take_take,Nat.min_eq_left g];exact zjR z
   rw[A,List.take_append_drop]
   exact zjR j
  rw[e,zoN] at h
  cases h
theorem zjS {len k:Nat} {Pt Tx:Nat→ByteArray} {s:ByteArray} (I:zaY len Pt Tx=true) (z:k<len) (h:zaM (Pt k) s=true):zZ Pt s (k+1)=some k:=by
 cases q:zZ Pt s k with
 |none=>exact zgz h q
 |some b=>
  obtain⟨L,H⟩:=zeh q
  exact zg0 h q (zoP H h (zoM (fun j J A=>((zgx.1 I).2 j A).2 J) b k L z))
def zfA (Pt Tx:Nat→ByteArray):Option Nat→ByteArray×ByteArray
 |none=>({data:=#[]},{data:=#[]})
 |some b=>(Pt b,Tx b)
theorem zoQ {p:ByteArray} (h:0<p.size):Lib.hasSuffix p.data.toList [47]=(bt p (p.size-1)==47):=by
 have q:p.data.toList.length=p.size:=by rw[Array.length_toList];rfl
 have z:=Lib.hasSuffix_of_drop p.data.toList [47]
 rw[←z,zdy,decide_eq_true (by rw[q];exact h),Bool.true_and]
 obtain⟨j,x,e⟩: ∃j x,p.data.toList=j++[x]:=by
  rcases List.eq_nil_or_concat p.data.toList with e|⟨j,x,e⟩
  ·rw[e] at q;simp at q;omega
  ·exact⟨j,x,by rw[e,List.concat_eq_append]⟩
 have I:p.size=j.length+1:=by rw[←q,e,List.length_append];rfl
 rw[e,I,show [(47:UInt8)].length=1 from rfl,List.length_append,show [x].length=1 from rfl,Nat.add_sub_cancel,List.drop_left]
 have H:((j++[x]).map (fun b=>(b.toNat:Int))).getD j.length 0=(x.toNat:Int):=by simp
 rw[H]
 show ([x]==[47])=((x.toNat:Int)==47)
 rw[Bool.eq_iff_iff,beq_iff_eq,beq_iff_eq]
 constructor
 ·intro h;cases h;rfl
 ·intro h
  have:x.toNat=(47:UInt8).toNat:=by have A:(47:UInt8).toNat=47:=rfl;omega
  rw[UInt8.toNat_inj.1 this]
theorem zoR {len k:Nat} {Pt Tx:Nat→ByteArray} {s:ByteArray} (z:zaY len Pt Tx=true) (A:k<len) (h:Pt k=s):zT len Pt Tx s=Tx k:=by
 have J:zaM (Pt k) s=true:=by rw[zaM,h];simp
 have L: ∀j,zZ Pt s (k+1+j)=some k:=by
  intro j
  induction j with
  |zero=>exact zjS z A J
  |succ j H=>
   cases q:zaM (Pt (k+1+j)) s with
   |false=>rw[show k+1+(j+1)=(k+1+j)+1 from rfl,zf2 q];exact H
   |true=>
    have:=zf3 q
    rw[show k+1+(j+1)=(k+1+j)+1 from rfl]
    exact zg1 q H (by rw[h];omega)
 have M:zZ Pt s len=some k:=by
  have:=L (len-(k+1))
  rwa[show k+1+(len-(k+1))=len from by omega] at this
 have N:(Tx k).size≤40:=by
  have I:=((zgx.1 z).2 k A).1
  rw[zb9,Bool.and_eq_true,Bool.and_eq_true] at I
  exact (zoF.1 I.2).1
 rw[zg2 z M (by rw[h];omega),h,show s.extract s.size s.size=ByteArray.empty from by
  apply ByteArray.ext
  simp]
 simp
theorem zjT {Pt Tx:Nat→ByteArray} (s:ByteArray):zT 0 Pt Tx s=s:=zf5 rfl
theorem zoS {acc:List ByteArray} {s:ByteArray}:zak (zbX acc s) s=true:=by
 cases h:zak acc s with
 |true=>rw[zf7 h];exact h
 |false=>rw[zeH h,zak,List.any_append];simp
theorem zoT {acc:List ByteArray} {s x:ByteArray} (h:zak acc x=true):zak (zbX acc s) x=true:=by
 cases j:zak acc s with
 |true=>rw[zf7 j];exact h
 |false=>rw[zeH j,zak,List.any_append,←zak,h];rfl
theorem zoU {F:ByteArray→ByteArray} {l:List ByteArray} {j:Nat} {x:ByteArray} (h:l[j]? =some x):zak (zbd F l l.length) (F x)=true:=by
 have I:=(List.getElem?_eq_some_iff.1 h).1
 have H: ∀d,j+1+d≤l.length→zak (zbd F l (j+1+d)) (F x)=true:=by
  intro d
  induction d with
  |zero=>intro _;rw[Nat.add_zero,zf6 h];exact zoS
  |succ d z=>
   intro A
   obtain⟨y,q⟩: ∃y,l[j+1+d]? =some y:=⟨_,List.getElem?_eq_getElem (by omega)⟩
   rw[show j+1+(d+1)=(j+1+d)+1 from rfl,zf6 q]
   exact zoT (z (by omega))
 have:=H (l.length-(j+1)) (by omega)
 rwa[show j+1+(l.length-(j+1))=l.length from by omega] at this
theorem zoV {l:List ByteArray} {x:ByteArray} (h:x∉l):zak l x=false:=by
 rw[zak,List.any_eq_false]
 intro y j e
 exact h ((zfV y x).1 e▸j)
theorem zoW {F:ByteArray→ByteArray} (I: ∀s,F s=s) {l:List ByteArray} (h:l.Nodup):zbd F l l.length=l:=by
 have H: ∀k,k≤l.length→zbd F l k=l.take k:=by
  intro k
  induction k with
  |zero=>intro _;rfl
  |succ k A=>
   intro J
   obtain⟨y,q⟩: ∃y,l[k]? =some y:=⟨_,List.getElem?_eq_getElem (by omega)⟩
   obtain⟨j,rfl⟩:=List.getElem?_eq_some_iff.1 q
   rw[zf6 q,A (by omega),I,zeH (zoV ?_),List.take_succ_eq_append_getElem j]
   intro z
   obtain⟨i,L,e⟩:=List.mem_take_iff_getElem.1 z
   exact List.pairwise_iff_getElem.1 h i k (by omega) j (by omega) e
 rw[H l.length (Nat.le_refl _),List.take_length]
theorem zjU {F:ByteArray→ByteArray} (j: ∀s,F s=s) {m:Md} (h:MOk m):zaZ F m=m:=by
 have nd:=h.parts.nd
 have z:m.im.map (imM F)=m.im:=by
  rw[show imM F=id from funext fun x=>by show Im.mk (F x.spec) x.first x.loc=x;rw[j],List.map_id]
 have q:m.ep.map (epM F)=m.ep:=by
  rw[show epM F=id from funext fun x=>by show Ep.mk x.kind x.name x.loc (F x.spec)=x;rw[j],List.map_id]
 rw[zaZ,zoW j nd,z,q]
def vl:Nat→Int→List Int
 |0,q=>[q]
 |f+1,q=>if q<128 then [q] else (q%128+128)::vl f (q/128)
def zuN (n:Int) (k:Nat) (acc:List Int) (q:Int):Prop:=
 k≤6∧acc.length=k∧0≤q∧q≤n∧q*128^k≤n∧acc++vl (6-k) q=vl 6 n
def zoX (n:Int):List Int:=if inB n 0 562949953421311 then vl 6 n else []
end Go.Proofs.YtjdddblpfbmpaaaGreat
