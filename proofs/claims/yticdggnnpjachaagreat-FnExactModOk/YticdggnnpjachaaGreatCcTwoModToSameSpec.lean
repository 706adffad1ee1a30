/-
  Two programs in memory side by side. No program is spoken of but for the numbers of its types.
  Lines of a program's text,as plain functions. No program is spoken of.
  A program's text: its lines,one behind the other. No program is spoken of.
  What each step of reading keeps,the whole reading keeps; so a program that was read has no request twice. No program is spoken of.
  A program that was read has no statement of DefaultName that is no let. No program is spoken of.
  What a Print and a Parse tell,as a ModOk takes it. No program is spoken of but for the numbers of its types.
  What l4Same of the specification answers,the model's != handed in: the walk.
-/
import Derived.Deep.Cut
import Derived.Test.YticdggnnpjachaaGreatCcImplParseJToEqRow
namespace Go.Proofs.YticdggnnpjachaaGreat
set_option maxRecDepth 100000
set_option maxHeartbeats 12800000
open Go.RowKit Go.PlainAid Go.Sort
theorem zdL (l:List ByteArray):l.map Value.string=l.flatMap (fun x=>[Value.string x]):=by
 induction l with
 |nil=>rfl
 |cons x l h=>rw[List.map_cons,List.flatMap_cons,h];rfl
def TwoM (w0:World) (b1 b2:Nat) (S1 S2:Sv) (m1 m2:Md) (w:World):Prop:=
 w.heap[w0.heap.size]? =some (.cells #[.slice S1.rq.a m1.rq.length S1.rq.cap,.slice S1.im.a m1.im.length S1.im.cap,.slice S1.ep.a m1.ep.length S1.ep.cap,.slice S1.st.a m1.st.length S1.st.cap,.slice S1.ex.a m1.ex.length S1.ex.cap] 28 (0,0))∧w.heap[w0.heap.size+1]? =some (.cells #[.slice S2.rq.a m2.rq.length S2.rq.cap,.slice S2.im.a m2.im.length S2.im.cap,.slice S2.ep.a m2.ep.length S2.ep.cap,.slice S2.st.a m2.st.length S2.st.cap,.slice S2.ex.a m2.ex.length S2.ex.cap] 28 (0,0))∧OwnMd w b1 S1 m1∧OwnMd w b2 S2 m2∧Below w0.heap.size w0 w
theorem TwoM.later {w0 w o:World} {z b2:Nat} {n D:Sv} {q A:Md} (h:TwoM w0 z b2 n D q A w) (j:Below w.heap.size w o):TwoM w0 z b2 n D q A o:=
 ⟨(j.block _ (Array.getElem?_eq_some_iff.1 h.1).1).trans h.1,(j.block _ (Array.getElem?_eq_some_iff.1 h.2.1).1).trans h.2.1,h.2.2.1.later j,h.2.2.2.1.later j,h.2.2.2.2.trans (j.mono h.2.2.2.2.size)⟩
theorem zfY (w:World) (A b2:Nat) (h n:Sv) (j o:Md) (D:OwnMd w A h j) (E:OwnMd w b2 n o):TwoM w A b2 h n j o ((w.alloc (.cells #[.slice h.rq.a j.rq.length h.rq.cap,.slice h.im.a j.im.length h.im.cap,.slice h.ep.a j.ep.length h.ep.cap,.slice h.st.a j.st.length h.st.cap,.slice h.ex.a j.ex.length h.ex.cap] 28)).alloc (.cells #[.slice n.rq.a o.rq.length n.rq.cap,.slice n.im.a o.im.length n.im.cap,.slice n.ep.a o.ep.length n.ep.cap,.slice n.st.a o.st.length n.st.cap,.slice n.ex.a o.ex.length n.ex.cap] 28)):=by
 have z:Below w.heap.size w (w.alloc (.cells #[.slice h.rq.a j.rq.length h.rq.cap,.slice h.im.a j.im.length h.im.cap,.slice h.ep.a j.ep.length h.ep.cap,.slice h.st.a j.st.length h.st.cap,.slice h.ex.a j.ex.length h.ex.cap] 28)):=(Below.refl _ _).alloc (Nat.le_refl _) _
 have q:Below (w.alloc (.cells #[.slice h.rq.a j.rq.length h.rq.cap,.slice h.im.a j.im.length h.im.cap,.slice h.ep.a j.ep.length h.ep.cap,.slice h.st.a j.st.length h.st.cap,.slice h.ex.a j.ex.length h.ex.cap] 28)).heap.size (w.alloc (.cells #[.slice h.rq.a j.rq.length h.rq.cap,.slice h.im.a j.im.length h.im.cap,.slice h.ep.a j.ep.length h.ep.cap,.slice h.st.a j.st.length h.st.cap,.slice h.ex.a j.ex.length h.ex.cap] 28)) ((w.alloc (.cells #[.slice h.rq.a j.rq.length h.rq.cap,.slice h.im.a j.im.length h.im.cap,.slice h.ep.a j.ep.length h.ep.cap,.slice h.st.a j.st.length h.st.cap,.slice h.ex.a j.ex.length h.ex.cap] 28)).alloc (.cells #[.slice n.rq.a o.rq.length n.rq.cap,.slice n.im.a o.im.length n.im.cap,.slice n.ep.a o.ep.length n.ep.cap,.slice n.st.a o.st.length n.st.cap,.slice n.ex.a o.ex.length n.ex.cap] 28)):=(Below.refl _ _).alloc (Nat.le_refl _) _
 refine⟨(q.block _ (by rw[zj];omega)).trans (heap_alloc_new w _),?_,(D.later z).later q,(E.later z).later q,z.trans (q.mono (by rw[zj];omega))⟩
 have:=heap_alloc_new (w.alloc (.cells #[.slice h.rq.a j.rq.length h.rq.cap,.slice h.im.a j.im.length h.im.cap,.slice h.ep.a j.ep.length h.ep.cap,.slice h.st.a j.st.length h.st.cap,.slice h.ex.a j.ex.length h.ex.cap] 28)) (.cells #[.slice n.rq.a o.rq.length n.rq.cap,.slice n.im.a o.im.length n.im.cap,.slice n.ep.a o.ep.length n.ep.cap,.slice n.st.a o.st.length n.st.cap,.slice n.ex.a o.ex.length n.ex.cap] 28)
 rw[zj] at this
 exact this
def zdM (m:Md):Prop:=m.rq.length≤4294967296∧m.im.length≤4294967296∧m.ep.length≤4294967296∧m.st.length≤4294967296∧m.ex.length≤4294967296
theorem zhw {a b:Md} (o:a.rq=b.rq) (q:a.im=b.im) (h:a.ep=b.ep) (n:a.st=b.st) (j:a.ex=b.ex):a=b:=by
 cases a
 cases b
 simp only at o q h n j
 rw[o,q,h,n,j]
def zar (s:ByteArray):ByteArray:=({data:=#[34]}:ByteArray)++s++({data:=#[34]}:ByteArray)
def asT (a b:ByteArray):ByteArray:=if a.toList==b.toList then a else a++({data:=#[32,97,115,32]}:ByteArray)++b
def zV (x:Im):ByteArray:=
 if x.first.toList==[42] then ({data:=#[105,109,112,111,114,116,32,42,32,97,115,32]}:ByteArray)++x.loc++({data:=#[32,102,114,111,109,32]}:ByteArray)++zar x.spec++({data:=#[59,10]}:ByteArray)
 else if x.first.toList==[100,101,102,97,117,108,116] then ({data:=#[105,109,112,111,114,116,32]}:ByteArray)++x.loc++({data:=#[32,102,114,111,109,32]}:ByteArray)++zar x.spec++({data:=#[59,10]}:ByteArray)
 else ({data:=#[105,109,112,111,114,116,32,123,32]}:ByteArray)++asT x.first x.loc++({data:=#[32,125,32,102,114,111,109,32]}:ByteArray)++zar x.spec++({data:=#[59,10]}:ByteArray)
def zaY (x:Ep):ByteArray:=
 if x.kind==3 then ({data:=#[101,120,112,111,114,116,32,42,32,102,114,111,109,32]}:ByteArray)++zar x.spec++({data:=#[59,10]}:ByteArray)
 else if x.kind==2 then ({data:=#[101,120,112,111,114,116,32,123,32]}:ByteArray)++asT x.loc x.name++({data:=#[32,125,32,102,114,111,109,32]}:ByteArray)++zar x.spec++({data:=#[59,10]}:ByteArray)
 else ({data:=#[101,120,112,111,114,116,32,123,32]}:ByteArray)++asT x.loc x.name++({data:=#[32,125,59,10]}:ByteArray)
def zax (k:Int) (n e:ByteArray):ByteArray:=
 if k==1 then (if n.toList==[42,100,101,102,97,117,108,116] then ({data:=#[101,120,112,111,114,116,32,100,101,102,97,117,108,116,32]}:ByteArray)++e++({data:=#[59,10]}:ByteArray) else ({data:=#[108,101,116,32]}:ByteArray)++n++({data:=#[32,61,32]}:ByteArray)++e++({data:=#[59,10]}:ByteArray))
 else if k==2 then ({data:=#[102,117,110,99,116,105,111,110,32]}:ByteArray)++n++({data:=#[40,41,32,123,32,114,101,116,117,114,110,32]}:ByteArray)++e++({data:=#[59,32,125,10]}:ByteArray)
 else if k==3 then n++({data:=#[32,61,32]}:ByteArray)++e++({data:=#[59,10]}:ByteArray)
 else if k==4 then ({data:=#[112,114,105,110,116,40]}:ByteArray)++e++({data:=#[41,59,10]}:ByteArray)
 else if k==5 then ({data:=#[116,104,114,111,119,32]}:ByteArray)++e++({data:=#[59,10]}:ByteArray)
 else ({data:=#[102,97,105,108,32]}:ByteArray)++e++({data:=#[59,10]}:ByteArray)
def zcB (k:Int) (n e:ByteArray):ByteArray:=if n.toList==[42,100,101,102,97,117,108,116] then ({data:=#[101,120,112,111,114,116,32,100,101,102,97,117,108,116,32]}:ByteArray)++e++({data:=#[59,10]}:ByteArray) else zax k n e
def rqT (s:ByteArray):ByteArray:=({data:=#[105,109,112,111,114,116,32]}:ByteArray)++zar s++({data:=#[59,10]}:ByteArray)
def acc {α:Type} (f:α→ByteArray) (l:List α) (t:ByteArray):ByteArray:=l.foldl (fun t x=>t++f x) t
theorem zbS {α:Type} (f:α→ByteArray) {l:List α} {j:Nat} {x:α} (h:l[j]? =some x) (t:ByteArray):acc f (l.take (j+1)) t=acc f (l.take j) t++f x:=by
 obtain⟨n,rfl⟩:=List.getElem?_eq_some_iff.1 h
 rw[List.take_succ_eq_append_getElem n,acc,List.foldl_append]
 rfl
theorem zdp {α:Type} (f:α→ByteArray) (l:List α): ∀t:ByteArray,t.size≤(acc f l t).size:=by
 induction l with
 |nil=>intro t;exact Nat.le_refl _
 |cons x l h=>
  intro t
  refine Nat.le_trans ?_ (h (t++f x))
  rw[ByteArray.size_append]
  omega
theorem zlw {α:Type} (f:α→ByteArray) (a b:List α) (t:ByteArray):acc f (a++b) t=acc f b (acc f a t):=by rw[acc,List.foldl_append];rfl
theorem zcX {α:Type} (f:α→ByteArray) (l:List α) (j:Nat) (t:ByteArray):(acc f (l.take j) t).size≤(acc f l t).size:=by
 have:acc f l t=acc f (l.drop j) (acc f (l.take j) t):=by rw[←zlw,List.take_append_drop]
 rw[this]
 exact zdp f _ _
def epF (x:Ep):ByteArray:=if x.loc.toList==[42,100,101,102,97,117,108,116] then sNone else zaY x
def stF (ex:List Ex) (s:Sm):ByteArray:=zax s.kind s.name (prX ex s.expr.toNat)
def zch (ex:List Ex) (s:Sm):ByteArray:=zcB s.kind s.name (prX ex s.expr.toNat)
def zbB (m:Md):ByteArray:=acc epF m.ep (acc zV m.im (acc rqT m.rq sNone))
def zbT (m:Md):ByteArray:=acc (stF m.ex) m.st (zbB m)
def zb6 (m:Md):ByteArray:=acc (zch m.ex) m.st (zbB m)
def PrintOut (T:ByteArray) (m:Md) (e:Ending):Prop:=(Tree m∧e= .returned (.string T))∨(¬Tree m∧e= .returned (.string sNone))
structure Small (m:Md):Prop where
 rq: ∀x∈m.rq,x.size≤4294967296
 im: ∀x∈m.im,x.spec.size≤4294967296∧x.first.size≤4294967296∧x.loc.size≤4294967296
 ep: ∀x∈m.ep,x.spec.size≤4294967296∧x.name.size≤4294967296∧x.loc.size≤4294967296
 st: ∀x∈m.st,x.name.size≤4294967296
 nums:zbg m.ex
 few:m.rq.length≤4294967296∧m.im.length≤4294967296∧m.ep.length≤4294967296∧m.st.length≤4294967296∧m.ex.length≤4294967296
def KG {α:Type} (R:PS→PS→Prop) (p:α→PS) (x:Except Nat α) (q:PS):Prop:=∀a,x= .ok a→R q (p a)
def zhx (C:Cx) (k:Int) (n:ByteArray):Prop:=n=sNone∨k=1∨∃i o,zB C i o=true∧n=(ze C i).text
structure Kept (C:Cx) (R:PS→PS→Prop):Prop where
 rfl': ∀q,R q q
 tr: ∀{a b c},R a b→R b c→R a c
 adv: ∀q,R q (adv q)
 ex: ∀x q,KG R id (zM C x q) q
 im: ∀x q,KG R id (zao C x q) q
 ep: ∀x q,KG R id (zn C x q) q
 sp: ∀q,KG R Prod.fst (zG C q) q
 st: ∀k n q,zhx C k n→KG R id (zX C k n q) q
theorem KG.bd {C:Cx} {R:PS→PS→Prop} {α β:Type} (H:Kept C R) {p:α→PS} {r:β→PS} {x:Except Nat α} {f:α→Except Nat β} {q:PS} (h:KG R p x q) (k: ∀a,x= .ok a→KG R r (f a) (p a)):KG R r (bd x f) q:=by
 intro b o
 obtain⟨a,j,n⟩:=zi o
 exact H.tr (h a j) (k a j b n)
theorem KG.after {C:Cx} {R:PS→PS→Prop} (H:Kept C R) {α:Type} {r:α→PS} {y:Except Nat α} {q q':PS} (h:R q q') (k:KG R r y q'):KG R r y q:=fun b j=>H.tr h (k b j)
theorem KG.ok {C:Cx} {R:PS→PS→Prop} (H:Kept C R) {α:Type} {p:α→PS} {a:α}:KG R p (.ok a) (p a):=fun b h=>by cases h;exact H.rfl' _
theorem KG.err {R:PS→PS→Prop} {α:Type} {p:α→PS} {e:Nat} {q:PS}:KG R p (.error e) q:=fun b h=>by cases h
theorem zam {C:Cx} {R:PS→PS→Prop} (H:Kept C R) (k:Int) (x:ByteArray) (q:PS):KG R id (zd C k x q) q:=fun a h=>by obtain⟨rfl,_⟩:=zb0 h;exact H.adv q
theorem zcO {C:Cx} {R:PS→PS→Prop} (H:Kept C R) (o:Bool) (q:PS):KG R Prod.fst (zh C o q) q:=fun a h=>by obtain⟨rfl,_⟩:=zbe h;exact H.adv q
theorem zhy {C:Cx} {R:PS→PS→Prop} (H:Kept C R) (n:ByteArray) (q:PS):KG R id (zbq C n q) q:=by
 unfold zbq
 split
 ·exact .bd H (.bd H (zam H _ _ _) fun _ _=>zam H _ _ _) fun _ _=>H.ex _ _
 ·exact H.ex _ _
theorem zlx {C:Cx} {R:PS→PS→Prop} (H:Kept C R) (n f:ByteArray) (q:PS):KG R id (zbz C n f q) q:=by
 unfold zbz
 split
 ·exact .bd H (.bd H (zam H _ _ _) fun _ _=>zam H _ _ _) fun _ _=>H.ex _ _
 ·exact H.ex _ _
theorem zly {C:Cx} {R:PS→PS→Prop} (H:Kept C R) (f:Nat): ∀(j:NT) (d:Nat) (q:PS),KG R id (ev C f j d q) q:=by
 induction f with
 |zero=>intro j d q;cases j using NT.elim<;>exact .err
 |succ f h=>
  intro j d q
  cases j using NT.elim<;>rw[ev]
  ·exact .bd H (h _ _ _) fun _ _=>h _ _ _
  ·split
   ·exact .bd H (.bd H (.after H (H.adv q) (h _ _ _)) fun _ _=>H.ex _ _) fun _ _=>h _ _ _
   ·exact .ok (p:=id) H
  ·exact .bd H (h _ _ _) fun _ _=>h _ _ _
  ·split
   ·exact .bd H (.bd H (.after H (H.adv q) (h _ _ _)) fun _ _=>H.ex _ _) fun _ _=>h _ _ _
   ·exact .ok (p:=id) H
  ·split
   ·exact .after H (H.adv q) (H.ex _ _)
   ·split
    ·split
     ·exact .err
     ·exact .bd H (.after H (H.adv q) (h _ _ _)) fun _ _=>zam H _ _ _
    ·split
     ·exact .after H (H.adv q) (zhy H _ _)
     ·refine .bd H (zcO H _ _) fun a _=>?_
      split
      ·exact .bd H (.after H (H.adv _) (zcO H _ _)) fun _ _=>zlx H _ _ _
      ·exact zhy H _ _
theorem zdN {C:Cx} {R:PS→PS→Prop} (H:Kept C R) (h:NT) (d:Nat) (q:PS):KG R id (pE C h d q) q:=zly H _ _ _ _
theorem zhz {C:Cx} {R:PS→PS→Prop} (H:Kept C R) {y:PRN} {F:PR→ByteArray→PR} {q:PS} (h:KG R Prod.fst y q) (k: ∀a,y= .ok a→KG R id (F (.ok a.1) a.2) a.1):KG R Prod.fst (withN y F) q:=
 .bd H h fun a j=>.bd (r:=Prod.fst) H (k a j) fun b _=>.ok (p:=Prod.fst) (a:=(b,a.2)) H
theorem zh0 {C:Cx} {R:PS→PS→Prop} (H:Kept C R) (q:PS):KG R Prod.fst (zcm C q) q:=
 zhz H (.bd H (zam H _ _ _) fun _ _=>zcO H _ _) fun _ _=>.bd H (.bd H (.bd H (.bd (p:=id) H (.ok (p:=id) H) fun _ _=>zam H _ _ _) fun _ _=>zdN H _ _ _) fun _ _=>zam H _ _ _) fun _ _=>H.st _ _ _ (.inr (.inl rfl))
theorem zh1 {C:Cx} {k:Int} {o:Bool} {q:PS} {a:PS×ByteArray} (h:zh C o q= .ok a):zhx C k a.2:=by
 obtain⟨rfl,j⟩:=zbe h
 exact .inr (.inr ⟨_,_,j,rfl⟩)
theorem zh2 {C:Cx} {R:PS→PS→Prop} (H:Kept C R) (q:PS):KG R Prod.fst (fnP C q) q:=
 zhz H (.bd H (zam H _ _ _) fun _ _=>zcO H _ _) fun a j=>.bd H (.bd H (.bd H (.bd H (.bd H (.bd H (.bd H (.bd (p:=id) H (.ok (p:=id) H) fun _ _=>zam H _ _ _) fun _ _=>zam H _ _ _) fun _ _=>zam H _ _ _) fun _ _=>zam H _ _ _) fun _ _=>zdN H _ _ _) fun _ _=>zam H _ _ _) fun _ _=>zam H _ _ _) fun _ _=>H.st _ _ _ (by
  obtain⟨b,_,h⟩:=zi j
  exact zh1 h)
theorem zlz {C:Cx} {R:PS→PS→Prop} (H:Kept C R) (e:Bool) (a:PS×ByteArray):KG R Prod.fst (asP C e a) a.1:=by
 unfold asP
 split
 ·exact .after H (H.adv _) (zcO H _ _)
 ·split
  ·exact .err
  ·exact .ok (p:=Prod.fst) H
theorem zl0 {C:Cx} {R:PS→PS→Prop} (H:Kept C R) (e:Bool) (f:Nat): ∀(q:PS) (acc:List Ep),KG R Prod.fst (zcJ C e f q acc) q:=by
 induction f with
 |zero=>intro q acc;exact .err
 |succ f h=>
  intro q acc
  rw[zcJ]
  refine .bd H (zcO H _ _) fun a _=>.bd H (zlz H _ _) fun b _=>?_
  split
  ·exact .after H (H.adv _) (h _ _)
  ·exact .bd (r:=Prod.fst) H (zam H _ _ _) fun c _=>.ok (p:=Prod.fst) (a:=(c,_)) H
theorem zh3 {C:Cx} {R:PS→PS→Prop} (H:Kept C R) (e:Bool) (q:PS):KG R Prod.fst (zcz C e q) q:=.bd H (zam H _ _ _) fun _ _=>zl0 H _ _ _ _
theorem zex {C:Cx} {R:PS→PS→Prop} (H:Kept C R) {x:PR} {q:PS} (h:KG R id x q):KG R Prod.fst (zaQ C (zaA C x)) q:=
 .bd H (.bd H (.bd H h fun _ _=>zam H _ _ _) fun _ _=>H.sp _) fun a _=>.bd (r:=Prod.fst) H (zam H _ _ _) fun c _=>.ok (p:=Prod.fst) (a:=(c,a.2)) H
theorem zfZ {C:Cx} {R:PS→PS→Prop} (H:Kept C R) {α:Type} {f:α→PS→PR} (n: ∀a q,KG R id (f a q) q) (l:List α): ∀(x:PR) (q:PS),KG R id x q→KG R id (zR f l x) q:=by
 induction l with
 |nil=>intro x q h;exact h
 |cons a l j=>intro x q h;exact j _ _ (.bd H h fun _ _=>n _ _)
theorem zl1 {C:Cx} {R:PS→PS→Prop} (H:Kept C R) (q:PS):KG R id (zaK C q) q:=by
 refine .bd H (zam H _ _ _) fun h _=>?_
 split
 ·exact .bd H (zh3 H _ _) fun a _=>.bd H (zex H (.ok (p:=id) H)) fun b _=>zfZ H (fun _ _=>H.im _ _) _ _ _ (.ok (p:=id) H)
 ·split
  ·exact .bd H (.bd H (.bd H (zam H _ _ _) fun _ _=>zam H _ _ _) fun _ _=>zcO H _ _) fun a _=>.bd H (zex H (.ok (p:=id) H)) fun _ _=>H.im _ _
  ·split
   ·exact .bd H (zcO H _ _) fun a _=>.bd H (zex H (.ok (p:=id) H)) fun _ _=>H.im _ _
   ·exact .bd H (H.sp _) fun _ _=>zam H _ _ _
theorem zl2 {C:Cx} {R:PS→PS→Prop} (H:Kept C R) (q:PS):KG R id (zaf C q) q:=by
 refine .bd H (zam H _ _ _) fun h _=>?_
 split
 ·refine .bd H (zh3 H _ _) fun a _=>?_
  split
  ·exact .bd H (zam H _ _ _) fun _ _=>zfZ H (fun _ _=>H.ep _ _) _ _ _ (.ok (p:=id) H)
  ·exact .bd H (zex H (.ok (p:=id) H)) fun _ _=>zfZ H (fun _ _=>H.ep _ _) _ _ _ (.ok (p:=id) H)
 ·split
  ·exact .bd H (zex H (zam H _ _ _)) fun _ _=>H.ep _ _
  ·split
   ·exact .bd H (.bd H (.bd H (.bd H (zam H _ _ _) fun _ _=>zdN H _ _ _) fun _ _=>zam H _ _ _) fun _ _=>H.st _ _ _ (.inr (.inl rfl))) fun _ _=>H.ep _ _
   ·split
    ·exact .bd H (zh0 H _) fun _ _=>H.ep _ _
    ·split
     ·exact .bd H (zh2 H _) fun _ _=>H.ep _ _
     ·exact .err
theorem zh4 {C:Cx} {R:PS→PS→Prop} (H:Kept C R) (s:ByteArray) (k:Int) (q:PS):KG R id (bd (bd (bd (zd C 1 s q) (pE C .sum 0)) (zd C 4 cSemi)) (zX C k sNone)) q:=
 .bd H (.bd H (.bd H (zam H _ _ _) fun _ _=>zdN H _ _ _) fun _ _=>zam H _ _ _) fun _ _=>H.st _ _ _ (.inl rfl)
theorem zl3 {C:Cx} {R:PS→PS→Prop} (H:Kept C R) (q:PS):KG R id (zy C q) q:=by
 unfold zy
 split
 ·exact zl1 H q
 ·split
  ·exact zl2 H q
  ·split
   ·exact .bd H (zh0 H q) fun a _=>.ok (p:=id) H
   ·split
    ·exact .bd H (zh2 H q) fun a _=>.ok (p:=id) H
    ·split
     ·exact .bd H (.bd H (.bd H (.bd H (.bd H (zam H _ _ _) fun _ _=>zam H _ _ _) fun _ _=>zdN H _ _ _) fun _ _=>zam H _ _ _) fun _ _=>zam H _ _ _) fun _ _=>H.st _ _ _ (.inl rfl)
     ·split
      ·exact zh4 H _ _ _
      ·split
       ·exact zh4 H _ _ _
       ·exact .bd H (zcO H _ _) fun a h=>.bd H (.bd H (.bd H (zam H _ _ _) fun _ _=>zdN H _ _ _) fun _ _=>zam H _ _ _) fun _ _=>H.st _ _ _ (zh1 h)
theorem zl4 {C:Cx} {R:PS→PS→Prop} (H:Kept C R) (f:Nat): ∀q,KG R id (zcK C f q) q:=by
 induction f with
 |zero=>intro q;exact .err
 |succ f h=>
  intro q
  rw[zcK]
  split
  ·exact .bd H (zl3 H q) fun _ _=>h _
  ·exact .ok (p:=id) H
theorem zl5 {R:PS→PS→Prop} {s:ByteArray} {j:Bool} {q:PS} (h:zb4 s j (.ok q)) (H: ∀n,zac s j (.ok n)→Kept ⟨n,s.size,j⟩ R):R zb3 q:=by
 obtain⟨r,o,e⟩:=h
 cases r with
 |error p=>cases e
 |ok n=>exact zl4 (H n o) _ zb3 q e.symm
abbrev dN:List UInt8:=[42,100,101,102,97,117,108,116]
def zey (st:List Sm):Prop:=∀s∈st,s.name.toList=dN→s.kind=1
def zh5 (ts:List Tk):Prop:=∀t∈ts,t.kind=1→t.text.toList≠dN
theorem zl6 {s:ByteArray} {j:Bool} {a e:Nat} {t:Tk} (n:a<s.size) (h:Tok s j a t e):t.kind=1→t.text.toList≠dN:=by
 have A:=(zd5 n h).1
 have z:=(zd5 n h).2.1
 cases h using Tok.elim with
 |name o _=>
  intro _ k
  have q:bt (s.extract a e) 0=42:=by
   rw[zcS,←Lib.toList_data,k]
   rfl
  have w:bt (s.extract a e) 0=bt s a:=by
   rw[zcS,zcS,ByteArray.data_extract]
   simp only[List.getD,List.getElem?_map,Array.getElem?_toList,Array.getElem?_extract]
   rw[if_pos (by have:s.data.size=s.size:=rfl;omega),Nat.add_zero]
  rw[←w,q] at o
  cases j<;>revert o<;>decide
 |num _ _=>intro k;cases k
 |str _ _=>intro k;cases k
 |sign _=>intro k;cases k
theorem zl7 {s:ByteArray} {w:Bool} {a n:Nat} {r:Except Nat (List Tk)} (h:Lx s w a n r): ∀j,r= .ok j→zh5 j:=by
 induction h using Lx.ind with
 |done=>intro j k;cases k;intro t o;cases o
 |bad _ _=>intro j k;cases k
 | @tok a n e b t r h A o D E z=>
  intro j k
  cases r with
  |error p=>cases k
  |ok l=>
   cases k
   intro u q
   rcases List.mem_cons.1 q with rfl|q
   ·exact zl6 h o
   ·exact z l rfl u q
theorem zl8 {C:Cx} (n:zh5 C.ts) {i:Nat} {o:Bool} (h:zB C i o=true):(ze C i).text.toList≠dN:=by
 have j:=zed h
 have e:ze C i=C.ts[i]:=by simp[ze,List.getD,List.getElem?_eq_getElem j]
 simp only[zB,Bool.and_eq_true,beq_iff_eq] at h
 rw[e] at h ⊢
 exact n _ (List.getElem_mem j) h.1
theorem zl9 {k:Int} (h:sNone.toList=dN):k=1:=by
 rw[Lib.toList_data] at h
 cases h
theorem zlA {s:ByteArray} {D:Bool} {q:PS} (h:zb4 s D (.ok q)):zey q.st:=by
 refine zl5 (R:=fun a b=>zey a.st→zey b.st) h (fun I A=>?_) (fun s w=>by cases w)
 obtain⟨_,_,A⟩:=A
 have H:=zl7 A I rfl
 refine⟨fun _ h=>h,fun h k x=>k (h x),fun _ h=>h,?_,?_,?_,?_,?_⟩
 ·intro x q a h j
  obtain⟨rfl,_⟩:=zb1 h
  exact j
 ·intro x q a h j
  unfold zao at h
  split at h<;>cases h
  exact j
 ·intro x q a h j
  unfold zn at h
  split at h
  ·cases h
  ·split at h<;>cases h<;>exact j
 ·intro q a h j
  unfold zG at h
  split at h
  ·split at h
   ·cases h;exact j
   ·split at h<;>cases h
    exact j
  ·cases h
 ·intro k n q z a h j
  unfold zX at h
  split at h<;>cases h
  intro s w
  rcases List.mem_append.1 w with w|w
  ·exact j s w
  ·rw[List.mem_singleton.1 w]
   intro E
   rcases z with rfl|z|⟨i,o,J,rfl⟩
   ·exact zl9 E
   ·exact z
   ·exact absurd E (zl8 H J)
def PrOf (T:ByteArray) (m:Md) (t:ByteArray):Prop:=(Tree m∧t=T)∨(¬Tree m∧t=sNone)
theorem PrintOut.form {T:ByteArray} {m:Md} {e:Ending} (h:PrintOut T m e): ∃t,PrOf T m t∧e= .returned (.string t):=by
 rcases h with ⟨j,n⟩|⟨j,n⟩
 ·exact⟨T,.inl ⟨j,rfl⟩,n⟩
 ·exact⟨sNone,.inr ⟨j,rfl⟩,n⟩
theorem PrOf.size {T t:ByteArray} {m:Md} {n:Nat} (h:PrOf T m t) (o:Tree m→T.size≤n):t.size≤n:=by
 rcases h with ⟨j,rfl⟩|⟨_,rfl⟩
 ·exact o j
 ·exact Nat.zero_le _
def zdO (t:ByteArray) (scr:Bool) (m:Md):Prop:=∃q,zb4 t scr (.ok q)∧zdA q=m
def zh6 (T:ByteArray) (m:Md) (scr:Bool) (e:Ending):Prop:=∃t,PrOf T m t∧zbR (zdO t scr m) e
theorem zh7 {t:ByteArray} {j:Bool} {m:Md} {p:Nat} (h:zb4 t j (.error p)): ¬zdO t j m:=by
 rintro⟨q,n,_⟩
 cases zgU h n
theorem zh8 {t:ByteArray} {j:Bool} {m n:Md} {q:PS} (h:zb4 t j (.ok q)) (o:n=zdA q):zdO t j m↔n=m:=by
 constructor
 ·rintro⟨A,z,w⟩
  cases zgU h z
  rw[o]
  exact w
 ·intro e
  exact⟨q,h,by rw[←o];exact e⟩
theorem ParseOut.md {s:ByteArray} {j:Bool} {w o:World} {e:Ending} (h:ParseOut s j w e o):
  (∃(q:PS) (S:Sv) (n:Md),zb4 s j (.ok q)∧n=zdA q∧e= .returned (.tuple #[zt S n,.int .i64 (-1)])∧OwnMd o w.heap.size S n∧zdM n)∨∃p:Nat,zb4 s j (.error p)∧e= .returned (.tuple #[.agg #[.slice none 0 0,.slice none 0 0,.slice none 0 0,.slice none 0 0,.slice none 0 0],.int .i64 p]):=by
 obtain⟨y,D,z⟩:=h
 cases y with
 |ok q=>
  obtain⟨S,E,A⟩:=z
  refine .inl ⟨q,S,zdA q,D,rfl,E,A.md,?_⟩
  have I:=A.inv
  have H:(zdA q).ep.length=q.ep.length+q.la.length:=by show (q.ep++q.la).length=_;rw[List.length_append]
  refine⟨?_,?_,by rw[H];omega,?_,?_⟩
  ·show q.rq.length≤_;omega
  ·show q.im.length≤_;omega
  ·show q.st.length≤_;omega
  ·show q.ex.length≤_;omega
 |error p=>exact .inr ⟨p,D,z⟩
theorem zlB {k:Int} {n e:ByteArray} (h:n.toList=dN→k=1):zcB k n e=zax k n e:=by
 unfold zcB
 split
 ·next j=>
  have o:=eq_of_beq j
  rw[h o,zax,if_pos (by decide),if_pos j]
 ·rfl
theorem zlC {α:Type} {f g:α→ByteArray} (l:List α): ∀t,(∀x∈l,f x=g x)→acc f l t=acc g l t:=by
 induction l with
 |nil=>intro t _;rfl
 |cons x l n=>
  intro t h
  show acc f l (t++f x)=acc g l (t++g x)
  rw[h x (List.mem_cons_self ..)]
  exact n _ fun y j=>h y (List.mem_cons_of_mem _ j)
theorem zlD {m:Md} (h:zey m.st):zb6 m=zbT m:=zlC _ _ fun s j=>zlB (h s j)
theorem zlE {m:Md} {j:Bool} {n o:ByteArray} (H:PrOf (zbT m) m n) (A:PrOf (zb6 m) m o):zdO n j m↔zdO o j m:=by
 by_cases w:zey m.st
 ·have:n=o:=by
   rw[zlD w] at A
   rcases H with ⟨a,rfl⟩|⟨a,rfl⟩<;>rcases A with ⟨b,rfl⟩|⟨b,rfl⟩
   ·rfl
   ·exact absurd a b
   ·exact absurd b a
   ·rfl
  rw[this]
 ·have z: ∀t,¬zdO t j m:=by
   rintro t ⟨q,E,D⟩
   have:=zlA E
   rw[←D] at w
   exact w this
  exact⟨fun h=>absurd h (z _),fun h=>absurd h (z _)⟩
theorem zlF (af: ∀(x y:Im) (W:World),Sem.run Tryz.prog (binOp .neq 100 (.agg #[.string x.spec,.string x.first,.string x.loc]) (.agg #[.string y.spec,.string y.first,.string y.loc])) W= .ok (.bool (!zc7 x y)) W) (aj: ∀(K:BinOp) (a b:Operand) (x y:Im) (W:World),Sem.run Tryz.prog (eqGuard K 100 a b (.agg #[.string x.spec,.string x.first,.string x.loc]) (.agg #[.string y.spec,.string y.first,.string y.loc])) W= .ok () W) (ae: ∀(x y:Ep) (W:World),Sem.run Tryz.prog (binOp .neq 102 (.agg #[.int .i64 x.kind,.string x.name,.string x.loc,.string x.spec]) (.agg #[.int .i64 y.kind,.string y.name,.string y.loc,.string y.spec])) W= .ok (.bool (!zc8 x y)) W) (ah: ∀(K:BinOp) (a b:Operand) (x y:Ep) (W:World),Sem.run Tryz.prog (eqGuard K 102 a b (.agg #[.int .i64 x.kind,.string x.name,.string x.loc,.string x.spec]) (.agg #[.int .i64 y.kind,.string y.name,.string y.loc,.string y.spec])) W= .ok () W) (ad: ∀(x y:Sm) (W:World),Sem.run Tryz.prog (binOp .neq 106 (.agg #[.int .i64 x.kind,.string x.name,.int .i64 x.expr]) (.agg #[.int .i64 y.kind,.string y.name,.int .i64 y.expr])) W= .ok (.bool (!zc9 x y)) W) (ac: ∀(K:BinOp) (a b:Operand) (x y:Sm) (W:World),Sem.run Tryz.prog (eqGuard K 106 a b (.agg #[.int .i64 x.kind,.string x.name,.int .i64 x.expr]) (.agg #[.int .i64 y.kind,.string y.name,.int .i64 y.expr])) W= .ok () W) (ag: ∀(x y:Ex) (W:World),Sem.run Tryz.prog (binOp .neq 108 (.agg #[.int .i64 x.kind,.int .i64 x.num,.string x.name,.string x.field,.int .i64 x.l,.int .i64 x.r]) (.agg #[.int .i64 y.kind,.int .i64 y.num,.string y.name,.string y.field,.int .i64 y.l,.int .i64 y.r])) W= .ok (.bool (!zcA x y)) W) (ak: ∀(K:BinOp) (a b:Operand) (x y:Ex) (W:World),Sem.run Tryz.prog (eqGuard K 108 a b (.agg #[.int .i64 x.kind,.int .i64 x.num,.string x.name,.string x.field,.int .i64 x.l,.int .i64 x.r]) (.agg #[.int .i64 y.kind,.int .i64 y.num,.string y.name,.string y.field,.int .i64 y.l,.int .i64 y.r])) W= .ok () W) (b1 b2:Nat) (S1 S2:Sv) (n A:Md) (w:World) (I:OwnMd w b1 S1 n) (E:OwnMd w b2 S2 A) (hf:zdM n):
  Calls Tryz.prog 45 #[zt S1 n,zt S2 A] w fun e w'=>zbR (n=A) e∧Below w.heap.size w w':=by
 have H1:=zc I
 have H2:=zc E
 obtain⟨f1,f2,f3,f4,f5⟩:=hf
 clear I E
 unfold zt
 go_enter Tryz.func45,Tryz.ntmps45
 go_upto_region 1 with fail
 refine zah (R:=TwoM w b1 b2 S1 S2 n A) (zfY w b1 b2 S1 S2 n A H1.out H2.out) ?_
 clear H1 H2
 intro w0 h
 have T:=zc h
 clear h
 obtain⟨c0,Y,c2,X,Z,cf⟩:=zk T.out.1
 obtain⟨d0,d1,d2,d3,V,df⟩:=zk T.out.2.1
 by_cases q0:(n.rq.length:Int)=(A.rq.length:Int)
 case neg=>
  go_wp2
  go_ret
  exact⟨⟨false,rfl,⟨fun k=>(by cases k),fun k=>absurd (by rw[k]) q0⟩⟩,T.out.2.2.2.2⟩
 by_cases q1:(n.im.length:Int)=(A.im.length:Int)
 case neg=>
  go_wp2
  go_ret
  exact⟨⟨false,rfl,⟨fun k=>(by cases k),fun k=>absurd (by rw[k]) q1⟩⟩,T.out.2.2.2.2⟩
 by_cases q2:(n.ep.length:Int)=(A.ep.length:Int)
 case neg=>
  go_wp2
  go_ret
  exact⟨⟨false,rfl,⟨fun k=>(by cases k),fun k=>absurd (by rw[k]) q2⟩⟩,T.out.2.2.2.2⟩
 by_cases q3:(n.st.length:Int)=(A.st.length:Int)
 case neg=>
  go_wp2
  go_ret
  exact⟨⟨false,rfl,⟨fun k=>(by cases k),fun k=>absurd (by rw[k]) q3⟩⟩,T.out.2.2.2.2⟩
 by_cases q4:(n.ex.length:Int)=(A.ex.length:Int)
 case neg=>
  go_wp2
  go_ret
  exact⟨⟨false,rfl,⟨fun k=>(by cases k),fun k=>absurd (by rw[k]) q4⟩⟩,T.out.2.2.2.2⟩
 go_wp2
 go_loopg [5] n.rq.length (fun k i wr=>∃j:Nat,i= .int .i64 j∧j+k=n.rq.length∧n.rq.take j=A.rq.take j∧TwoM w b1 b2 S1 S2 n A wr)
 case atStart=>exact⟨0,rfl,by omega,rfl,T.out⟩
 case round=>
  obtain⟨j,rfl,hj,ht,hT⟩:=hrel
  clear T c0 Y c2 X Z cf d0 d1 d2 d3 V df
  have T:=zc hT
  have L:=zc ht
  clear hT ht
  obtain⟨c0,Y,c2,X,Z,cf⟩:=zk T.out.1
  obtain⟨d0,d1,d2,d3,V,df⟩:=zk T.out.2.1
  by_cases H:j<n.rq.length
  ·have z:(j:Int)<(n.rq.length:Int):=by omega
   have aa:(j:Int)<(A.rq.length:Int):=by omega
   obtain⟨x,U⟩:=zaX H
   obtain⟨y,O⟩:=zaX (show j<A.rq.length by omega)
   obtain⟨g1,ga,I⟩:=OwnR.elem (f:=(fun x=>[Value.string x])) (m:=1) (fun _=>rfl) (show OwnR wr b1 9 1 S1.rq n.rq.length (n.rq.flatMap (fun x=>[Value.string x])) by rw[←zdL];exact T.out.2.2.1.rq) U
   obtain⟨g2,gb,E⟩:=OwnR.elem (f:=(fun x=>[Value.string x])) (m:=1) (fun _=>rfl) (show OwnR wr b2 9 1 S2.rq A.rq.length (A.rq.flatMap (fun x=>[Value.string x])) by rw[←zdL];exact T.out.2.2.2.1.rq) O
   rw[ga] at c0
   rw[gb] at d0
   have C0:=zc (I 0 (by omega))
   have D0:=zc (E 0 (by omega))
   have HX:=zc U
   have HY:=zc O
   clear I E ga gb U O
   obtain⟨J,D⟩: ∃J,J=j+1:=⟨_,rfl⟩
   have ej:(j:Int)+1=(J:Int):=by omega
   have HJ:=zc D
   clear D
   obtain⟨b,o⟩: ∃b,zfX x y=b:=⟨_,rfl⟩
   have al:(x.toList==y.toList)=b:=o
   go_wp2
   have kc:=cell_regrown c0
   have kd:=cell_regrown d0
   have k0:=cell_regrown C0.out
   have v0:=cell_regrown D0.out
   simp only[Nat.add_zero,Nat.mul_one] at k0 v0
   refine wp_region_quiet_below (by kernel_rfl) (by kernel_rfl) ?_
   repeat (go_big_quiet_step (fail))
   refine wpQuiet_nil ?_
   intro w2 M
   obtain⟨⟨dq,N⟩,q⟩:=M
   have T2:Hid (TwoM w b1 b2 S1 S2 n A w2):=by show TwoM _ _ _ _ _ _ _ _;rw[q];exact T.out.later (below_regrown wr dq N)
   clear q kc kd c0 Y c2 X Z cf d0 d1 d2 d3 V df k0 v0 C0 D0
   cases b with
   |true=>
    go_wp2
    go_roundg (gk-1)
    case rel=>exact⟨J,rfl,by have:=HJ.out;omega,by rw[HJ.out];have e:=zfc.1 o;exact zc5 L.out HX.out (by rw[e];exact HY.out),T2.out⟩
    case measure=>omega
   |false=>
    go_wp2
    go_ret
    exact⟨⟨false,rfl,⟨fun k=>(by cases k),fun k=>(by have e:=HX.out;rw[k,HY.out] at e;cases e;rw[zfc.2 rfl] at o;cases o)⟩⟩,T2.out.2.2.2.2⟩
  ·have z: ¬(j:Int)<(n.rq.length:Int):=by omega
   obtain rfl:j=n.rq.length:=by omega
   have A0:=zc (zc6 (by omega) L.out)
   clear L z H hj
   go_wp2
   go_loopg [6] n.im.length (fun k i wr=>∃j:Nat,i= .int .i64 j∧j+k=n.im.length∧n.im.take j=A.im.take j∧TwoM w b1 b2 S1 S2 n A wr)
   case atStart=>exact⟨0,rfl,by omega,rfl,T.out⟩
   case round=>
    obtain⟨j,rfl,hj,ht,hT⟩:=hrel
    clear T c0 Y c2 X Z cf d0 d1 d2 d3 V df
    have T:=zc hT
    have L:=zc ht
    clear hT ht
    obtain⟨c0,Y,c2,X,Z,cf⟩:=zk T.out.1
    obtain⟨d0,d1,d2,d3,V,df⟩:=zk T.out.2.1
    by_cases H:j<n.im.length
    ·have z:(j:Int)<(n.im.length:Int):=by omega
     have aa:(j:Int)<(A.im.length:Int):=by omega
     obtain⟨x,U⟩:=zaX H
     obtain⟨y,O⟩:=zaX (show j<A.im.length by omega)
     obtain⟨g1,ga,I⟩:=OwnR.elem (f:=imL) (m:=3) (fun _=>rfl) T.out.2.2.1.im U
     obtain⟨g2,gb,E⟩:=OwnR.elem (f:=imL) (m:=3) (fun _=>rfl) T.out.2.2.2.1.im O
     rw[ga] at Y
     rw[gb] at d1
     have C0:=zc (I 0 (by omega))
     have D0:=zc (E 0 (by omega))
     have C1:=zc (I 1 (by omega))
     have D1:=zc (E 1 (by omega))
     have C2:=zc (I 2 (by omega))
     have D2:=zc (E 2 (by omega))
     have HX:=zc U
     have HY:=zc O
     clear I E ga gb U O
     obtain⟨J,D⟩: ∃J,J=j+1:=⟨_,rfl⟩
     have ej:(j:Int)+1=(J:Int):=by omega
     have HJ:=zc D
     clear D
     obtain⟨b,o⟩: ∃b,zc7 x y=b:=⟨_,rfl⟩
     have ai: ∀W:World,Sem.run Tryz.prog (binOp .neq 100 (.agg #[.string x.spec,.string x.first,.string x.loc]) (.agg #[.string y.spec,.string y.first,.string y.loc])) W= .ok (.bool !b) W:=fun W=>by rw[af,o]
     have ab: ∀(K:BinOp) (a b:Operand) (W:World),Sem.run Tryz.prog (eqGuard K 100 a b (.agg #[.string x.spec,.string x.first,.string x.loc]) (.agg #[.string y.spec,.string y.first,.string y.loc])) W= .ok () W:=fun K a b W=>aj K a b x y W
     go_wp2
     have kc:=cell_regrown Y
     have kd:=cell_regrown d1
     have k0:=cell_regrown C0.out
     have v0:=cell_regrown D0.out
     have k1:=cell_regrown C1.out
     have v1:=cell_regrown D1.out
     have k2:=cell_regrown C2.out
     have v2:=cell_regrown D2.out
     simp only[Nat.add_zero] at k0 v0
     refine wp_region_quiet_below (by kernel_rfl) (by kernel_rfl) ?_
     repeat (go_big_quiet_step (fail))
     refine wpQuiet_nil ?_
     intro w2 M
     obtain⟨⟨dq,N⟩,q⟩:=M
     have T2:Hid (TwoM w b1 b2 S1 S2 n A w2):=by show TwoM _ _ _ _ _ _ _ _;rw[q];exact T.out.later (below_regrown wr dq N)
     clear q kc kd c0 Y c2 X Z cf d0 d1 d2 d3 V df k0 v0 C0 D0 k1 v1 C1 D1 k2 v2 C2 D2
     cases b with
     |true=>
      go_wp2
      go_roundg (gk-1)
      case rel=>exact⟨J,rfl,by have:=HJ.out;omega,by rw[HJ.out];have e:=zfd.1 o;exact zc5 L.out HX.out (by rw[e];exact HY.out),T2.out⟩
      case measure=>omega
     |false=>
      go_wp2
      go_ret
      exact⟨⟨false,rfl,⟨fun k=>(by cases k),fun k=>(by have e:=HX.out;rw[k,HY.out] at e;cases e;rw[zfd.2 rfl] at o;cases o)⟩⟩,T2.out.2.2.2.2⟩
    ·have z: ¬(j:Int)<(n.im.length:Int):=by omega
     obtain rfl:j=n.im.length:=by omega
     have A1:=zc (zc6 (by omega) L.out)
     clear L z H hj
     go_wp2
     go_loopg [7] n.ep.length (fun k i wr=>∃j:Nat,i= .int .i64 j∧j+k=n.ep.length∧n.ep.take j=A.ep.take j∧TwoM w b1 b2 S1 S2 n A wr)
     case atStart=>exact⟨0,rfl,by omega,rfl,T.out⟩
     case round=>
      obtain⟨j,rfl,hj,ht,hT⟩:=hrel
      clear T c0 Y c2 X Z cf d0 d1 d2 d3 V df
      have T:=zc hT
      have L:=zc ht
      clear hT ht
      obtain⟨c0,Y,c2,X,Z,cf⟩:=zk T.out.1
      obtain⟨d0,d1,d2,d3,V,df⟩:=zk T.out.2.1
      by_cases H:j<n.ep.length
      ·have z:(j:Int)<(n.ep.length:Int):=by omega
       have aa:(j:Int)<(A.ep.length:Int):=by omega
       obtain⟨x,U⟩:=zaX H
       obtain⟨y,O⟩:=zaX (show j<A.ep.length by omega)
       obtain⟨g1,ga,I⟩:=OwnR.elem (f:=epL) (m:=4) (fun _=>rfl) T.out.2.2.1.ep U
       obtain⟨g2,gb,E⟩:=OwnR.elem (f:=epL) (m:=4) (fun _=>rfl) T.out.2.2.2.1.ep O
       rw[ga] at c2
       rw[gb] at d2
       have C0:=zc (I 0 (by omega))
       have D0:=zc (E 0 (by omega))
       have C1:=zc (I 1 (by omega))
       have D1:=zc (E 1 (by omega))
       have C2:=zc (I 2 (by omega))
       have D2:=zc (E 2 (by omega))
       have C3:=zc (I 3 (by omega))
       have D3:=zc (E 3 (by omega))
       have HX:=zc U
       have HY:=zc O
       clear I E ga gb U O
       obtain⟨J,D⟩: ∃J,J=j+1:=⟨_,rfl⟩
       have ej:(j:Int)+1=(J:Int):=by omega
       have HJ:=zc D
       clear D
       obtain⟨b,o⟩: ∃b,zc8 x y=b:=⟨_,rfl⟩
       have ai: ∀W:World,Sem.run Tryz.prog (binOp .neq 102 (.agg #[.int .i64 x.kind,.string x.name,.string x.loc,.string x.spec]) (.agg #[.int .i64 y.kind,.string y.name,.string y.loc,.string y.spec])) W= .ok (.bool !b) W:=fun W=>by rw[ae,o]
       have ab: ∀(K:BinOp) (a b:Operand) (W:World),Sem.run Tryz.prog (eqGuard K 102 a b (.agg #[.int .i64 x.kind,.string x.name,.string x.loc,.string x.spec]) (.agg #[.int .i64 y.kind,.string y.name,.string y.loc,.string y.spec])) W= .ok () W:=fun K a b W=>ah K a b x y W
       go_wp2
       have kc:=cell_regrown c2
       have kd:=cell_regrown d2
       have k0:=cell_regrown C0.out
       have v0:=cell_regrown D0.out
       have k1:=cell_regrown C1.out
       have v1:=cell_regrown D1.out
       have k2:=cell_regrown C2.out
       have v2:=cell_regrown D2.out
       have k3:=cell_regrown C3.out
       have v3:=cell_regrown D3.out
       simp only[Nat.add_zero] at k0 v0
       refine wp_region_quiet_below (by kernel_rfl) (by kernel_rfl) ?_
       repeat (go_big_quiet_step (fail))
       refine wpQuiet_nil ?_
       intro w2 M
       obtain⟨⟨dq,N⟩,q⟩:=M
       have T2:Hid (TwoM w b1 b2 S1 S2 n A w2):=by show TwoM _ _ _ _ _ _ _ _;rw[q];exact T.out.later (below_regrown wr dq N)
       clear q kc kd c0 Y c2 X Z cf d0 d1 d2 d3 V df k0 v0 C0 D0 k1 v1 C1 D1 k2 v2 C2 D2 k3 v3 C3 D3
       cases b with
       |true=>
        go_wp2
        go_roundg (gk-1)
        case rel=>exact⟨J,rfl,by have:=HJ.out;omega,by rw[HJ.out];have e:=zfe.1 o;exact zc5 L.out HX.out (by rw[e];exact HY.out),T2.out⟩
        case measure=>omega
       |false=>
        go_wp2
        go_ret
        exact⟨⟨false,rfl,⟨fun k=>(by cases k),fun k=>(by have e:=HX.out;rw[k,HY.out] at e;cases e;rw[zfe.2 rfl] at o;cases o)⟩⟩,T2.out.2.2.2.2⟩
      ·have z: ¬(j:Int)<(n.ep.length:Int):=by omega
       obtain rfl:j=n.ep.length:=by omega
       have A2:=zc (zc6 (by omega) L.out)
       clear L z H hj
       go_wp2
       go_loopg [8] n.st.length (fun k i wr=>∃j:Nat,i= .int .i64 j∧j+k=n.st.length∧n.st.take j=A.st.take j∧TwoM w b1 b2 S1 S2 n A wr)
       case atStart=>exact⟨0,rfl,by omega,rfl,T.out⟩
       case round=>
        obtain⟨j,rfl,hj,ht,hT⟩:=hrel
        clear T c0 Y c2 X Z cf d0 d1 d2 d3 V df
        have T:=zc hT
        have L:=zc ht
        clear hT ht
        obtain⟨c0,Y,c2,X,Z,cf⟩:=zk T.out.1
        obtain⟨d0,d1,d2,d3,V,df⟩:=zk T.out.2.1
        by_cases H:j<n.st.length
        ·have z:(j:Int)<(n.st.length:Int):=by omega
         have aa:(j:Int)<(A.st.length:Int):=by omega
         obtain⟨x,U⟩:=zaX H
         obtain⟨y,O⟩:=zaX (show j<A.st.length by omega)
         obtain⟨g1,ga,I⟩:=OwnR.elem (f:=smL) (m:=3) (fun _=>rfl) T.out.2.2.1.st U
         obtain⟨g2,gb,E⟩:=OwnR.elem (f:=smL) (m:=3) (fun _=>rfl) T.out.2.2.2.1.st O
         rw[ga] at X
         rw[gb] at d3
         have C0:=zc (I 0 (by omega))
         have D0:=zc (E 0 (by omega))
         have C1:=zc (I 1 (by omega))
         have D1:=zc (E 1 (by omega))
         have C2:=zc (I 2 (by omega))
         have D2:=zc (E 2 (by omega))
         have HX:=zc U
         have HY:=zc O
         clear I E ga gb U O
         obtain⟨J,D⟩: ∃J,J=j+1:=⟨_,rfl⟩
         have ej:(j:Int)+1=(J:Int):=by omega
         have HJ:=zc D
         clear D
         obtain⟨b,o⟩: ∃b,zc9 x y=b:=⟨_,rfl⟩
         have ai: ∀W:World,Sem.run Tryz.prog (binOp .neq 106 (.agg #[.int .i64 x.kind,.string x.name,.int .i64 x.expr]) (.agg #[.int .i64 y.kind,.string y.name,.int .i64 y.expr])) W= .ok (.bool !b) W:=fun W=>by rw[ad,o]
         have ab: ∀(K:BinOp) (a b:Operand) (W:World),Sem.run Tryz.prog (eqGuard K 106 a b (.agg #[.int .i64 x.kind,.string x.name,.int .i64 x.expr]) (.agg #[.int .i64 y.kind,.string y.name,.int .i64 y.expr])) W= .ok () W:=fun K a b W=>ac K a b x y W
         go_wp2
         have kc:=cell_regrown X
         have kd:=cell_regrown d3
         have k0:=cell_regrown C0.out
         have v0:=cell_regrown D0.out
         have k1:=cell_regrown C1.out
         have v1:=cell_regrown D1.out
         have k2:=cell_regrown C2.out
         have v2:=cell_regrown D2.out
         simp only[Nat.add_zero] at k0 v0
         refine wp_region_quiet_below (by kernel_rfl) (by kernel_rfl) ?_
         repeat (go_big_quiet_step (fail))
         refine wpQuiet_nil ?_
         intro w2 M
         obtain⟨⟨dq,N⟩,q⟩:=M
         have T2:Hid (TwoM w b1 b2 S1 S2 n A w2):=by show TwoM _ _ _ _ _ _ _ _;rw[q];exact T.out.later (below_regrown wr dq N)
         clear q kc kd c0 Y c2 X Z cf d0 d1 d2 d3 V df k0 v0 C0 D0 k1 v1 C1 D1 k2 v2 C2 D2
         cases b with
         |true=>
          go_wp2
          go_roundg (gk-1)
          case rel=>exact⟨J,rfl,by have:=HJ.out;omega,by rw[HJ.out];have e:=zff.1 o;exact zc5 L.out HX.out (by rw[e];exact HY.out),T2.out⟩
          case measure=>omega
         |false=>
          go_wp2
          go_ret
          exact⟨⟨false,rfl,⟨fun k=>(by cases k),fun k=>(by have e:=HX.out;rw[k,HY.out] at e;cases e;rw[zff.2 rfl] at o;cases o)⟩⟩,T2.out.2.2.2.2⟩
        ·have z: ¬(j:Int)<(n.st.length:Int):=by omega
         obtain rfl:j=n.st.length:=by omega
         have A3:=zc (zc6 (by omega) L.out)
         clear L z H hj
         go_wp2
         go_loopg [9] n.ex.length (fun k i wr=>∃j:Nat,i= .int .i64 j∧j+k=n.ex.length∧n.ex.take j=A.ex.take j∧TwoM w b1 b2 S1 S2 n A wr)
         case atStart=>exact⟨0,rfl,by omega,rfl,T.out⟩
         case round=>
          obtain⟨j,rfl,hj,ht,hT⟩:=hrel
          clear T c0 Y c2 X Z cf d0 d1 d2 d3 V df
          have T:=zc hT
          have L:=zc ht
          clear hT ht
          obtain⟨c0,Y,c2,X,Z,cf⟩:=zk T.out.1
          obtain⟨d0,d1,d2,d3,V,df⟩:=zk T.out.2.1
          by_cases H:j<n.ex.length
          ·have z:(j:Int)<(n.ex.length:Int):=by omega
           have aa:(j:Int)<(A.ex.length:Int):=by omega
           obtain⟨x,U⟩:=zaX H
           obtain⟨y,O⟩:=zaX (show j<A.ex.length by omega)
           obtain⟨g1,ga,I⟩:=OwnR.elem (f:=exL) (m:=6) (fun _=>rfl) T.out.2.2.1.ex U
           obtain⟨g2,gb,E⟩:=OwnR.elem (f:=exL) (m:=6) (fun _=>rfl) T.out.2.2.2.1.ex O
           rw[ga] at Z
           rw[gb] at V
           have C0:=zc (I 0 (by omega))
           have D0:=zc (E 0 (by omega))
           have C1:=zc (I 1 (by omega))
           have D1:=zc (E 1 (by omega))
           have C2:=zc (I 2 (by omega))
           have D2:=zc (E 2 (by omega))
           have C3:=zc (I 3 (by omega))
           have D3:=zc (E 3 (by omega))
           have C4:=zc (I 4 (by omega))
           have D4:=zc (E 4 (by omega))
           have C5:=zc (I 5 (by omega))
           have D5:=zc (E 5 (by omega))
           have HX:=zc U
           have HY:=zc O
           clear I E ga gb U O
           obtain⟨J,D⟩: ∃J,J=j+1:=⟨_,rfl⟩
           have ej:(j:Int)+1=(J:Int):=by omega
           have HJ:=zc D
           clear D
           obtain⟨b,o⟩: ∃b,zcA x y=b:=⟨_,rfl⟩
           have ai: ∀W:World,Sem.run Tryz.prog (binOp .neq 108 (.agg #[.int .i64 x.kind,.int .i64 x.num,.string x.name,.string x.field,.int .i64 x.l,.int .i64 x.r]) (.agg #[.int .i64 y.kind,.int .i64 y.num,.string y.name,.string y.field,.int .i64 y.l,.int .i64 y.r])) W= .ok (.bool !b) W:=fun W=>by rw[ag,o]
           have ab: ∀(K:BinOp) (a b:Operand) (W:World),Sem.run Tryz.prog (eqGuard K 108 a b (.agg #[.int .i64 x.kind,.int .i64 x.num,.string x.name,.string x.field,.int .i64 x.l,.int .i64 x.r]) (.agg #[.int .i64 y.kind,.int .i64 y.num,.string y.name,.string y.field,.int .i64 y.l,.int .i64 y.r])) W= .ok () W:=fun K a b W=>ak K a b x y W
           go_wp2
           have kc:=cell_regrown Z
           have kd:=cell_regrown V
           have k0:=cell_regrown C0.out
           have v0:=cell_regrown D0.out
           have k1:=cell_regrown C1.out
           have v1:=cell_regrown D1.out
           have k2:=cell_regrown C2.out
           have v2:=cell_regrown D2.out
           have k3:=cell_regrown C3.out
           have v3:=cell_regrown D3.out
           have k4:=cell_regrown C4.out
           have v4:=cell_regrown D4.out
           have k5:=cell_regrown C5.out
           have v5:=cell_regrown D5.out
           simp only[Nat.add_zero] at k0 v0
           refine wp_region_quiet_below (by kernel_rfl) (by kernel_rfl) ?_
           repeat (go_big_quiet_step (fail))
           refine wpQuiet_nil ?_
           intro w2 M
           obtain⟨⟨dq,N⟩,q⟩:=M
           have T2:Hid (TwoM w b1 b2 S1 S2 n A w2):=by show TwoM _ _ _ _ _ _ _ _;rw[q];exact T.out.later (below_regrown wr dq N)
           clear q kc kd c0 Y c2 X Z cf d0 d1 d2 d3 V df k0 v0 C0 D0 k1 v1 C1 D1 k2 v2 C2 D2 k3 v3 C3 D3 k4 v4 C4 D4 k5 v5 C5 D5
           cases b with
           |true=>
            go_wp2
            go_roundg (gk-1)
            case rel=>exact⟨J,rfl,by have:=HJ.out;omega,by rw[HJ.out];have e:=zfg.1 o;exact zc5 L.out HX.out (by rw[e];exact HY.out),T2.out⟩
            case measure=>omega
           |false=>
            go_wp2
            go_ret
            exact⟨⟨false,rfl,⟨fun k=>(by cases k),fun k=>(by have e:=HX.out;rw[k,HY.out] at e;cases e;rw[zfg.2 rfl] at o;cases o)⟩⟩,T2.out.2.2.2.2⟩
          ·have z: ¬(j:Int)<(n.ex.length:Int):=by omega
           obtain rfl:j=n.ex.length:=by omega
           have A4:=zc (zc6 (by omega) L.out)
           clear L z H hj
           go_wp2
           go_ret
           exact⟨⟨true,rfl,⟨fun _=>zhw A0.out A1.out A2.out A3.out A4.out,fun _=>rfl⟩⟩,T.out.2.2.2.2⟩
end Go.Proofs.YticdggnnpjachaaGreat
