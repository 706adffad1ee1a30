/- Facts and walks that the theorem stands on. -/
import Derived.Deep.Cut
import Derived.Test.YtgcbmogmniahjaaGreatA15
namespace Go.Proofs.YtgcbmogmniahjaaGreat
open Go.RowKit Go.PlainAid Go.Sort
theorem zeN (l:List BA):l.map Value.string=l.flatMap (fun x=>[Value.string x]):=by
 induction l with
 |nil=>rfl
 |cons x l h=>rw[List.map_cons,List.flatMap_cons,h];rfl
def TwoM (w0:World) (b1 b2:Nat) (S1 S2:Sv) (m1 m2:Md) (w:World):Prop:=
 w.heap[w0.heap.size]? =some (.cells #[.slice S1.rq.a m1.rq.length S1.rq.cap,.slice S1.im.a m1.im.length S1.im.cap,.slice S1.ep.a m1.ep.length S1.ep.cap,.slice S1.st.a m1.st.length S1.st.cap,.slice S1.ex.a m1.ex.length S1.ex.cap] 54 (0,0))/\w.heap[w0.heap.size+1]? =some (.cells #[.slice S2.rq.a m2.rq.length S2.rq.cap,.slice S2.im.a m2.im.length S2.im.cap,.slice S2.ep.a m2.ep.length S2.ep.cap,.slice S2.st.a m2.st.length S2.st.cap,.slice S2.ex.a m2.ex.length S2.ex.cap] 54 (0,0))/\OwnMd w b1 S1 m1/\OwnMd w b2 S2 m2/\Below w0.heap.size w0 w
theorem TwoM.later {w0 w w':World} {A b2:Nat} {I z:Sv} {J H:Md} (h:TwoM w0 A b2 I z J H w) (q:Below w.heap.size w w'):TwoM w0 A b2 I z J H w':=
 ⟨(q.block _ (aLt h.1)).trans h.1,(q.block _ (aLt h.2.1)).trans h.2.1,h.2.2.1.later q,h.2.2.2.1.later q,h.2.2.2.2.trans (q.mono h.2.2.2.2.size)⟩
theorem zhG (w:World) (J b2:Nat) (h q:Sv) (z A:Md) (L:OwnMd w J h z) (K:OwnMd w b2 q A):TwoM w J b2 h q z A ((w.alloc (.cells #[.slice h.rq.a z.rq.length h.rq.cap,.slice h.im.a z.im.length h.im.cap,.slice h.ep.a z.ep.length h.ep.cap,.slice h.st.a z.st.length h.st.cap,.slice h.ex.a z.ex.length h.ex.cap] 54)).alloc (.cells #[.slice q.rq.a A.rq.length q.rq.cap,.slice q.im.a A.im.length q.im.cap,.slice q.ep.a A.ep.length q.ep.cap,.slice q.st.a A.st.length q.st.cap,.slice q.ex.a A.ex.length q.ex.cap] 54)):=by
 have I:Below w.heap.size w (w.alloc (.cells #[.slice h.rq.a z.rq.length h.rq.cap,.slice h.im.a z.im.length h.im.cap,.slice h.ep.a z.ep.length h.ep.cap,.slice h.st.a z.st.length h.st.cap,.slice h.ex.a z.ex.length h.ex.cap] 54)):=(Below.refl _ _).alloc (Nat.le_refl _) _;have H:Below (w.alloc (.cells #[.slice h.rq.a z.rq.length h.rq.cap,.slice h.im.a z.im.length h.im.cap,.slice h.ep.a z.ep.length h.ep.cap,.slice h.st.a z.st.length h.st.cap,.slice h.ex.a z.ex.length h.ex.cap] 54)).heap.size (w.alloc (.cells #[.slice h.rq.a z.rq.length h.rq.cap,.slice h.im.a z.im.length h.im.cap,.slice h.ep.a z.ep.length h.ep.cap,.slice h.st.a z.st.length h.st.cap,.slice h.ex.a z.ex.length h.ex.cap] 54)) ((w.alloc (.cells #[.slice h.rq.a z.rq.length h.rq.cap,.slice h.im.a z.im.length h.im.cap,.slice h.ep.a z.ep.length h.ep.cap,.slice h.st.a z.st.length h.st.cap,.slice h.ex.a z.ex.length h.ex.cap] 54)).alloc (.cells #[.slice q.rq.a A.rq.length q.rq.cap,.slice q.im.a A.im.length q.im.cap,.slice q.ep.a A.ep.length q.ep.cap,.slice q.st.a A.st.length q.st.cap,.slice q.ex.a A.ex.length q.ex.cap] 54)):=(Below.refl _ _).alloc (Nat.le_refl _) _;refine⟨(H.block _ (by rw[zg];omega)).trans (heap_alloc_new w _),?_,(L.later I).later H,(K.later I).later H,I.trans (H.mono (by rw[zg];omega))⟩;have:=heap_alloc_new (w.alloc (.cells #[.slice h.rq.a z.rq.length h.rq.cap,.slice h.im.a z.im.length h.im.cap,.slice h.ep.a z.ep.length h.ep.cap,.slice h.st.a z.st.length h.st.cap,.slice h.ex.a z.ex.length h.ex.cap] 54)) (.cells #[.slice q.rq.a A.rq.length q.rq.cap,.slice q.im.a A.im.length q.im.cap,.slice q.ep.a A.ep.length q.ep.cap,.slice q.st.a A.st.length q.st.cap,.slice q.ex.a A.ex.length q.ex.cap] 54);rw[zg] at this;exact this
def zdK (m:Md):Prop:=m.rq.length<=4294967296/\m.im.length<=4294967296/\m.ep.length<=4294967296/\m.st.length<=4294967296/\m.ex.length<=4294967296
theorem zjP {a b:Md} (w:a.rq=b.rq) (h:a.im=b.im) (A:a.ep=b.ep) (q:a.st=b.st) (z:a.ex=b.ex):a=b:=by
 cases a;cases b;simp only at w h A q z;rw[w,h,A,q,z]
def za1 (s:BA):BA:=({data:=#[34]}:BA)++s++({data:=#[34]}:BA)
def asT (a b:BA):BA:=if a.toList==b.toList then a else a++({data:=#[32,97,115,32]}:BA)++b
def zad (x:Im):BA:=
 if x.first.toList==[42] then ({data:=#[105,109,112,111,114,116,32,42,32,97,115,32]}:BA)++x.loc++({data:=#[32,102,114,111,109,32]}:BA)++za1 x.spec++({data:=#[59,10]}:BA)
 else if x.first.toList==[100,101,102,97,117,108,116] then ({data:=#[105,109,112,111,114,116,32]}:BA)++x.loc++({data:=#[32,102,114,111,109,32]}:BA)++za1 x.spec++({data:=#[59,10]}:BA)
 else ({data:=#[105,109,112,111,114,116,32,123,32]}:BA)++asT x.first x.loc++({data:=#[32,125,32,102,114,111,109,32]}:BA)++za1 x.spec++({data:=#[59,10]}:BA)
def zbu (x:Ep):BA:=
 if x.kind==3 then ({data:=#[101,120,112,111,114,116,32,42,32,102,114,111,109,32]}:BA)++za1 x.spec++({data:=#[59,10]}:BA)
 else if x.kind==2 then ({data:=#[101,120,112,111,114,116,32,123,32]}:BA)++asT x.loc x.name++({data:=#[32,125,32,102,114,111,109,32]}:BA)++za1 x.spec++({data:=#[59,10]}:BA)
 else ({data:=#[101,120,112,111,114,116,32,123,32]}:BA)++asT x.loc x.name++({data:=#[32,125,59,10]}:BA)
def za6 (k:Int) (n e:BA):BA:=
 if k==1 then (if n.toList==[42,100,101,102,97,117,108,116] then ({data:=#[101,120,112,111,114,116,32,100,101,102,97,117,108,116,32]}:BA)++e++({data:=#[59,10]}:BA) else ({data:=#[108,101,116,32]}:BA)++n++({data:=#[32,61,32]}:BA)++e++({data:=#[59,10]}:BA))
 else if k==2 then ({data:=#[102,117,110,99,116,105,111,110,32]}:BA)++n++({data:=#[40,41,32,123,32,114,101,116,117,114,110,32]}:BA)++e++({data:=#[59,32,125,10]}:BA)
 else if k==3 then n++({data:=#[32,61,32]}:BA)++e++({data:=#[59,10]}:BA)
 else if k==4 then ({data:=#[112,114,105,110,116,40]}:BA)++e++({data:=#[41,59,10]}:BA)
 else if k==5 then ({data:=#[116,104,114,111,119,32]}:BA)++e++({data:=#[59,10]}:BA)
 else ({data:=#[102,97,105,108,32]}:BA)++e++({data:=#[59,10]}:BA)
def zdq (k:Int) (n e:BA):BA:=if n.toList==[42,100,101,102,97,117,108,116] then ({data:=#[101,120,112,111,114,116,32,100,101,102,97,117,108,116,32]}:BA)++e++({data:=#[59,10]}:BA) else za6 k n e
def rqT (s:BA):BA:=({data:=#[105,109,112,111,114,116,32]}:BA)++za1 s++({data:=#[59,10]}:BA)
def acc {α:Type} (f:α->BA) (l:List α) (t:BA):BA:=l.foldl (fun t x=>t++f x) t
theorem zc4 {α:Type} (f:α->BA) {l:List α} {j:Nat} {x:α} (h:l[j]? =some x) (t:BA):acc f (l.take (j+1)) t=acc f (l.take j) t++f x:=by
 obtain⟨q,rfl⟩:=List.getElem?_eq_some_iff.1 h;rw[List.take_succ_eq_append_getElem q,acc,List.foldl_append];rfl
theorem zem {α:Type} (f:α->BA) (l:List α): ∀t:BA,t.size<=(acc f l t).size:=by
 induction l with
 |nil=>intro t;exact Nat.le_refl _
 |cons x l h=>
  intro t;refine Nat.le_trans ?_ (h (t++f x));rw[ByteArray.size_append];omega
theorem zpf {α:Type} (f:α->BA) (a b:List α) (t:BA):acc f (a++b) t=acc f b (acc f a t):=by rw[acc,List.foldl_append];rfl
theorem zdL {α:Type} (f:α->BA) (l:List α) (j:Nat) (t:BA):(acc f (l.take j) t).size<=(acc f l t).size:=by
 have:acc f l t=acc f (l.drop j) (acc f (l.take j) t):=by rw[<-zpf,List.take_append_drop]
 rw[this];exact zem f _ _
def epF (x:Ep):BA:=if x.loc.toList==[42,100,101,102,97,117,108,116] then sNone else zbu x
def stF (ex:List Ex) (s:Sm):BA:=za6 s.kind s.name (prX ex s.expr.toNat)
def zcH (ex:List Ex) (s:Sm):BA:=zdq s.kind s.name (prX ex s.expr.toNat)
def zci (m:Md):BA:=acc epF m.ep (acc zad m.im (acc rqT m.rq sNone))
def zcj (m:Md):BA:=acc (stF m.ex) m.st (zci m)
def zbK (m:Md):BA:=acc (zcH m.ex) m.st (zci m)
def PrintOut (T:BA) (m:Md) (e:Ending):Prop:=(Tree m/\e= .returned (.string T))∨(¬Tree m/\e= .returned (.string sNone))
structure Small (m:Md):Prop where
 rq: ∀x∈m.rq,x.size<=4294967296
 im: ∀x∈m.im,x.spec.size<=4294967296/\x.first.size<=4294967296/\x.loc.size<=4294967296
 ep: ∀x∈m.ep,x.spec.size<=4294967296/\x.name.size<=4294967296/\x.loc.size<=4294967296
 st: ∀x∈m.st,x.name.size<=4294967296
 nums:zaW m.ex
 few:m.rq.length<=4294967296/\m.im.length<=4294967296/\m.ep.length<=4294967296/\m.st.length<=4294967296/\m.ex.length<=4294967296
abbrev dN:List UInt8:=[42,100,101,102,97,117,108,116]
def zbP (s:Sm):Bool:=(s.kind==1||s.kind==2)&& !(s.name.toList==dN)
def stN (l:List Sm):List BA:=(l.filter zbP).map (·.name)
def imN (l:List Im):List BA:=l.map (·.loc)
def zbL (m:Md):List BA:=stN m.st++imN m.im
def KG {α:Type} (R:PS->PS->Prop) (p:α->PS) (x:Except Nat α) (q:PS):Prop:=∀a,x= .ok a->R q (p a)
def zjQ (C:Cx) (k:Int) (n:BA):Prop:=n=sNone∨k=1∨∃i o,zH C i o=true/\n=(ze C i).text
def zf7 (x:Ep):Prop:=x.kind=1->x.spec=sNone
structure Kept (C:Cx) (R:PS->PS->Prop):Prop where
 rfl': ∀q,R q q
 tr: ∀{a b c},R a b->R b c->R a c
 adv: ∀q,R q (adv q)
 ex: ∀x q,KG R id (zR C x q) q
 im: ∀x q,KG R id (zan C x q) q
 ep: ∀x q,zf7 x->KG R id (zq C x q) q
 sp: ∀q,KG R Prod.fst (zL C q) q
 st: ∀k n q,zjQ C k n->KG R id (zY C k n q) q
theorem KG.bd {C:Cx} {R:PS->PS->Prop} {α β:Type} (H:Kept C R) {p:α->PS} {r:β->PS} {x:Except Nat α} {f:α->Except Nat β} {q:PS} (h:KG R p x q) (k: ∀a,x= .ok a->KG R r (f a) (p a)):KG R r (bd x f) q:=by
 intro b A;obtain⟨a,w,z⟩:=zn A;exact H.tr (h a w) (k a w b z)
theorem KG.after {C:Cx} {R:PS->PS->Prop} (H:Kept C R) {α:Type} {r:α->PS} {y:Except Nat α} {q q':PS} (h:R q q') (k:KG R r y q'):KG R r y q:=fun b w=>H.tr h (k b w)
theorem KG.ok {C:Cx} {R:PS->PS->Prop} (H:Kept C R) {α:Type} {p:α->PS} {a:α}:KG R p (.ok a) (p a):=fun b h=>by cases h;exact H.rfl' _
theorem KG.err {R:PS->PS->Prop} {α:Type} {p:α->PS} {e:Nat} {q:PS}:KG R p (.error e) q:=fun b h=>by cases h
theorem zaw {C:Cx} {R:PS->PS->Prop} (H:Kept C R) (k:Int) (x:BA) (q:PS):KG R id (zd C k x q) q:=fun a h=>by obtain⟨rfl,_⟩:=zbV h;exact H.adv q
theorem zdA {C:Cx} {R:PS->PS->Prop} (H:Kept C R) (o:Bool) (q:PS):KG R Prod.fst (zm C o q) q:=fun a h=>by obtain⟨rfl,_⟩:=zb2 h;exact H.adv q
theorem zjR {C:Cx} {R:PS->PS->Prop} (H:Kept C R) (n:BA) (q:PS):KG R id (zbG C n q) q:=by
 unfold zbG
 split
 ·exact .bd H (.bd H (zaw H _ _ _) fun _ _=>zaw H _ _ _) fun _ _=>H.ex _ _
 ·exact H.ex _ _
theorem zpg {C:Cx} {R:PS->PS->Prop} (H:Kept C R) (n f:BA) (q:PS):KG R id (zbU C n f q) q:=by
 unfold zbU
 split
 ·exact .bd H (.bd H (zaw H _ _ _) fun _ _=>zaw H _ _ _) fun _ _=>H.ex _ _
 ·exact H.ex _ _
theorem zph {C:Cx} {R:PS->PS->Prop} (H:Kept C R) (f:Nat): ∀(w:NT) (d:Nat) (q:PS),KG R id (ev C f w d q) q:=by
 induction f with
 |zero=>intro w d q;cases w using NT.elim<;>exact .err
 |succ f h=>
  intro w d q;cases w using NT.elim<;>rw[ev]
  ·exact .bd H (h _ _ _) fun _ _=>h _ _ _
  ·split
   ·exact .bd H (.bd H (.after H (H.adv q) (h _ _ _)) fun _ _=>H.ex _ _) fun _ _=>h _ _ _
   ·exact .ok (p:=id) H
  ·exact .bd H (h _ _ _) fun _ _=>h _ _ _
  ·split
   ·exact .bd H (.bd H (.after H (H.adv q) (h _ _ _)) fun _ _=>H.ex _ _) fun _ _=>h _ _ _
   ·exact .ok (p:=id) H
  ·split
   ·exact .after H (H.adv q) (H.ex _ _)
   ·split
    ·split
     ·exact .err
     ·exact .bd H (.after H (H.adv q) (h _ _ _)) fun _ _=>zaw H _ _ _
    ·split
     ·exact .after H (H.adv q) (zjR H _ _)
     ·refine .bd H (zdA H _ _) fun a _=>?_
      split
      ·exact .bd H (.after H (H.adv _) (zdA H _ _)) fun _ _=>zpg H _ _ _
      ·exact zjR H _ _
theorem zeO {C:Cx} {R:PS->PS->Prop} (H:Kept C R) (h:NT) (d:Nat) (q:PS):KG R id (pE C h d q) q:=zph H _ _ _ _
theorem zjS {C:Cx} {R:PS->PS->Prop} (H:Kept C R) {y:PRN} {F:PR->BA->PR} {q:PS} (h:KG R Prod.fst y q) (k: ∀a,y= .ok a->KG R id (F (.ok a.1) a.2) a.1):KG R Prod.fst (withN y F) q:=
 .bd H h fun a w=>.bd (r:=Prod.fst) H (k a w) fun b _=>.ok (p:=Prod.fst) (a:=(b,a.2)) H
theorem zjT {C:Cx} {R:PS->PS->Prop} (H:Kept C R) (q:PS):KG R Prod.fst (zcO C q) q:=
 zjS H (.bd H (zaw H _ _ _) fun _ _=>zdA H _ _) fun _ _=>.bd H (.bd H (.bd H (.bd (p:=id) H (.ok (p:=id) H) fun _ _=>zaw H _ _ _) fun _ _=>zeO H _ _ _) fun _ _=>zaw H _ _ _) fun _ _=>H.st _ _ _ (.inr (.inl rfl))
theorem zjU {C:Cx} {k:Int} {o:Bool} {q:PS} {a:PS×BA} (h:zm C o q= .ok a):zjQ C k a.2:=by
 obtain⟨rfl,w⟩:=zb2 h;exact .inr (.inr ⟨_,_,w,rfl⟩)
theorem zjV {C:Cx} {R:PS->PS->Prop} (H:Kept C R) (q:PS):KG R Prod.fst (fnP C q) q:=
 zjS H (.bd H (zaw H _ _ _) fun _ _=>zdA H _ _) fun a h=>.bd H (.bd H (.bd H (.bd H (.bd H (.bd H (.bd H (.bd (p:=id) H (.ok (p:=id) H) fun _ _=>zaw H _ _ _) fun _ _=>zaw H _ _ _) fun _ _=>zaw H _ _ _) fun _ _=>zaw H _ _ _) fun _ _=>zeO H _ _ _) fun _ _=>zaw H _ _ _) fun _ _=>zaw H _ _ _) fun _ _=>H.st _ _ _ (by
  obtain⟨b,_,w⟩:=zn h
  exact zjU w)
theorem zpi {C:Cx} {R:PS->PS->Prop} (H:Kept C R) (e:Bool) (a:PS×BA):KG R Prod.fst (asP C e a) a.1:=by
 unfold asP
 split
 ·exact .after H (H.adv _) (zdA H _ _)
 ·split
  ·exact .err
  ·exact .ok (p:=Prod.fst) H
theorem zpj {C:Cx} {R:PS->PS->Prop} (H:Kept C R) (e:Bool) (f:Nat): ∀(q:PS) (acc:List Ep),KG R Prod.fst (zd4 C e f q acc) q:=by
 induction f with
 |zero=>intro q acc;exact .err
 |succ f h=>
  intro q acc;rw[zd4];refine .bd H (zdA H _ _) fun a _=>.bd H (zpi H _ _) fun b _=>?_
  split
  ·exact .after H (H.adv _) (h _ _)
  ·exact .bd (r:=Prod.fst) H (zaw H _ _ _) fun c _=>.ok (p:=Prod.fst) (a:=(c,_)) H
theorem zjW {C:Cx} {R:PS->PS->Prop} (H:Kept C R) (e:Bool) (q:PS):KG R Prod.fst (zde C e q) q:=.bd H (zaw H _ _ _) fun _ _=>zpj H _ _ _ _
theorem zf8 {C:Cx} {R:PS->PS->Prop} (H:Kept C R) {x:PR} {q:PS} (h:KG R id x q):KG R Prod.fst (zbi C (zaM C x)) q:=
 .bd H (.bd H (.bd H h fun _ _=>zaw H _ _ _) fun _ _=>H.sp _) fun a _=>.bd (r:=Prod.fst) H (zaw H _ _ _) fun c _=>.ok (p:=Prod.fst) (a:=(c,a.2)) H
theorem zhH {C:Cx} {R:PS->PS->Prop} (H:Kept C R) {α:Type} {f:α->PS->PR} (z: ∀a q,KG R id (f a q) q) (l:List α): ∀(x:PR) (q:PS),KG R id x q->KG R id (zZ f l x) q:=by
 induction l with
 |nil=>intro x q h;exact h
 |cons a l w=>intro x q h;exact w _ _ (.bd H h fun _ _=>z _ _)
theorem zpk {C:Cx} {R:PS->PS->Prop} (H:Kept C R) (q:PS):KG R id (zbc C q) q:=by
 refine .bd H (zaw H _ _ _) fun h _=>?_
 split
 ·exact .bd H (zjW H _ _) fun a _=>.bd H (zf8 H (.ok (p:=id) H)) fun b _=>zhH H (fun _ _=>H.im _ _) _ _ _ (.ok (p:=id) H)
 ·split
  ·exact .bd H (.bd H (.bd H (zaw H _ _ _) fun _ _=>zaw H _ _ _) fun _ _=>zdA H _ _) fun a _=>.bd H (zf8 H (.ok (p:=id) H)) fun _ _=>H.im _ _
  ·split
   ·exact .bd H (zdA H _ _) fun a _=>.bd H (zf8 H (.ok (p:=id) H)) fun _ _=>H.im _ _
   ·exact .bd H (H.sp _) fun _ _=>zaw H _ _ _
theorem zpl {C:Cx} {R:PS->PS->Prop} (H:Kept C R) (q:PS):KG R id (zao C q) q:=by
 refine .bd H (zaw H _ _ _) fun w _=>?_
 split
 ·refine .bd H (zjW H _ _) fun a _=>?_
  split
  ·exact .bd H (zaw H _ _ _) fun _ _=>zhH H (fun _ _=>H.ep _ _ (by first|exact fun _=>rfl|exact fun h=>absurd (show (2:Int)=1 from h) (by decide)|exact fun h=>absurd (show (3:Int)=1 from h) (by decide))) _ _ _ (.ok (p:=id) H)
  ·exact .bd H (zf8 H (.ok (p:=id) H)) fun _ _=>zhH H (fun _ _=>H.ep _ _ (by first|exact fun _=>rfl|exact fun h=>absurd (show (2:Int)=1 from h) (by decide)|exact fun h=>absurd (show (3:Int)=1 from h) (by decide))) _ _ _ (.ok (p:=id) H)
 ·split
  ·exact .bd H (zf8 H (zaw H _ _ _)) fun _ _=>H.ep _ _ (by first|exact fun _=>rfl|exact fun h=>absurd (show (2:Int)=1 from h) (by decide)|exact fun h=>absurd (show (3:Int)=1 from h) (by decide))
  ·split
   ·exact .bd H (.bd H (.bd H (.bd H (zaw H _ _ _) fun _ _=>zeO H _ _ _) fun _ _=>zaw H _ _ _) fun _ _=>H.st _ _ _ (.inr (.inl rfl))) fun _ _=>H.ep _ _ (by first|exact fun _=>rfl|exact fun h=>absurd (show (2:Int)=1 from h) (by decide)|exact fun h=>absurd (show (3:Int)=1 from h) (by decide))
   ·split
    ·exact .bd H (zjT H _) fun _ _=>H.ep _ _ (by first|exact fun _=>rfl|exact fun h=>absurd (show (2:Int)=1 from h) (by decide)|exact fun h=>absurd (show (3:Int)=1 from h) (by decide))
    ·split
     ·exact .bd H (zjV H _) fun _ _=>H.ep _ _ (by first|exact fun _=>rfl|exact fun h=>absurd (show (2:Int)=1 from h) (by decide)|exact fun h=>absurd (show (3:Int)=1 from h) (by decide))
     ·exact .err
theorem zjX {C:Cx} {R:PS->PS->Prop} (H:Kept C R) (s:BA) (k:Int) (q:PS):KG R id (bd (bd (bd (zd C 1 s q) (pE C .sum 0)) (zd C 4 cSemi)) (zY C k sNone)) q:=
 .bd H (.bd H (.bd H (zaw H _ _ _) fun _ _=>zeO H _ _ _) fun _ _=>zaw H _ _ _) fun _ _=>H.st _ _ _ (.inl rfl)
theorem zpm {C:Cx} {R:PS->PS->Prop} (H:Kept C R) (q:PS):KG R id (zB C q) q:=by
 unfold zB
 split
 ·exact zpk H q
 ·split
  ·exact zpl H q
  ·split
   ·exact .bd H (zjT H q) fun a _=>.ok (p:=id) H
   ·split
    ·exact .bd H (zjV H q) fun a _=>.ok (p:=id) H
    ·split
     ·exact .bd H (.bd H (.bd H (.bd H (.bd H (zaw H _ _ _) fun _ _=>zaw H _ _ _) fun _ _=>zeO H _ _ _) fun _ _=>zaw H _ _ _) fun _ _=>zaw H _ _ _) fun _ _=>H.st _ _ _ (.inl rfl)
     ·split
      ·exact zjX H _ _ _
      ·split
       ·exact zjX H _ _ _
       ·exact .bd H (zdA H _ _) fun a h=>.bd H (.bd H (.bd H (zaw H _ _ _) fun _ _=>zeO H _ _ _) fun _ _=>zaw H _ _ _) fun _ _=>H.st _ _ _ (zjU h)
theorem zpn {C:Cx} {R:PS->PS->Prop} (H:Kept C R) (f:Nat): ∀q,KG R id (zd5 C f q) q:=by
 induction f with
 |zero=>intro q;exact .err
 |succ f h=>
  intro q;rw[zd5]
  split
  ·exact .bd H (zpm H q) fun _ _=>h _
  ·exact .ok (p:=id) H
theorem zg0 {R:PS->PS->Prop} {s:BA} {w:Bool} {q:PS} (h:zb6 s w (.ok q)) (H: ∀z,zak s w (.ok z)->Kept ⟨z,s.size,w⟩ R):R zbX q:=by
 obtain⟨r,A,e⟩:=h;cases r with
 |error p=>cases e
 |ok z=>exact zpn (H z A) _ zbX q e.symm
theorem zpo {l:List BA} {x:BA} (h: ¬zaS l x=true):x∉l:=fun q=>h (List.any_eq_true.2 ⟨x,q,beq_self_eq_true _⟩)
theorem zpp {s:BA} {z:Bool} {q:PS} (h:zb6 s z (.ok q)):q.rq.Nodup:=by
 refine zg0 (R:=fun a b=>a.rq.Nodup->b.rq.Nodup) h (fun J _=>?_) List.nodup_nil;refine⟨fun _ h=>h,fun h k x=>k (h x),fun _ h=>h,?_,?_,?_,?_,?_⟩
 ·intro x q a h w;obtain⟨rfl,_⟩:=zb3 h;exact w
 ·intro x q a h w;unfold zan at h
  split at h<;>cases h
  exact w
 ·intro x q _ a h w;unfold zq at h
  split at h
  ·cases h
  ·split at h<;>cases h<;>exact w
 ·intro q a h w;unfold zL at h
  split at h
  ·split at h
   ·cases h;exact w
   ·next H=>
    split at h<;>cases h
    show (q.rq++[_]).Nodup;rw[List.nodup_append];refine⟨w,by simp,fun a A b I e=>zpo H ?_⟩;rw[List.mem_singleton.1 I] at e;exact e▸A
  ·cases h
 ·intro k n q _ a h w;unfold zY at h
  split at h<;>cases h
  exact w
theorem zpq {s:BA} {H:Bool} {q:PS} (h:zb6 s H (.ok q)): ∀x∈q.ep++q.la,zf7 x:=by
 refine zg0 (R:=fun a b=>(∀x∈a.ep++a.la,zf7 x)->∀x∈b.ep++b.la,zf7 x) h (fun I _=>?_) (fun x A=>by cases A);refine⟨fun _ h=>h,fun h k x=>k (h x),fun _ h=>h,?_,?_,?_,?_,?_⟩
 ·intro x q a h w;obtain⟨rfl,_⟩:=zb3 h;exact w
 ·intro x q a h w;unfold zan at h
  split at h<;>cases h
  exact w
 ·intro x q A a h w;unfold zq at h
  split at h
  ·cases h
  ·split at h<;>cases h
   all_goals
    intro y z;simp only[id,List.mem_append,List.mem_singleton] at z w;rcases z with z|z
    ·first
     |exact w y (.inl z)
     |(rcases z with z|rfl
       ·exact w y (.inl z)
       ·exact A)
    ·first
     |exact w y (.inr z)
     |(rcases z with z|rfl
       ·exact w y (.inr z)
       ·exact A)
 ·intro q a h w;unfold zL at h
  split at h
  ·split at h
   ·cases h;exact w
   ·split at h<;>cases h
    exact w
  ·cases h
 ·intro k n q _ a h w;unfold zY at h
  split at h<;>cases h
  exact w
def zcI (st:List Sm):Prop:=∀s∈st,s.name.toList=dN->s.kind=1
def zjY (ts:List Tk):Prop:=∀t∈ts,t.kind=1->t.text.toList≠dN
theorem zpr {s:BA} {q:Bool} {a e:Nat} {t:Tk} (w:a<s.size) (h:Tok s q a t e):t.kind=1->t.text.toList≠dN:=by
 have J:=(ze8 w h).1;have H:=(ze8 w h).2.1;cases h using Tok.elim with
 |name z _=>
  intro _ k;have A:bt (s.extract a e) 0=42:=by
   rw[zd1,<-Lib.toList_data,k];rfl
  have I:bt (s.extract a e) 0=bt s a:=by
   rw[zd1,zd1,ByteArray.data_extract];simp only[List.getD,List.getElem?_map,Array.getElem?_toList,Array.getElem?_extract];rw[if_pos (by have:s.data.size=s.size:=rfl;omega),Nat.add_zero]
  rw[<-I,A] at z;cases q<;>revert z<;>decide
 |num _ _=>intro k;cases k
 |str _ _=>intro k;cases k
 |sign _=>intro k;cases k
theorem zps {s:BA} {w:Bool} {a n:Nat} {r:Except Nat (List Tk)} (h:Lx s w a n r): ∀q,r= .ok q->zjY q:=by
 induction h using Lx.ind with
 |done=>intro q k;cases k;intro t A;cases A
 |bad _ _=>intro q k;cases k
 | @tok a n e b t r h K A J I H=>
  intro q k;cases r with
  |error p=>cases k
  |ok l=>
   cases k;intro u z;rcases List.mem_cons.1 z with rfl|z
   ·exact zpr h A
   ·exact H l rfl u z
theorem zpt {C:Cx} (w:zjY C.ts) {i:Nat} {o:Bool} (h:zH C i o=true):(ze C i).text.toList≠dN:=by
 have q:=zfn h;have e:ze C i=C.ts[i]:=by simp[ze,List.getD,List.getElem?_eq_getElem q]
 simp only[zH,Bool.and_eq_true,beq_iff_eq] at h;rw[e] at h ⊢;exact w _ (List.getElem_mem q) h.1
theorem zpu {k:Int} (h:sNone.toList=dN):k=1:=by
 rw[Lib.toList_data] at h;cases h
theorem zjZ {s:BA} {I:Bool} {q:PS} (h:zb6 s I (.ok q)):zcI q.st:=by
 refine zg0 (R:=fun a b=>zcI a.st->zcI b.st) h (fun M H=>?_) (fun s z=>by cases z);obtain⟨_,_,H⟩:=H;have L:=zps H M rfl;refine⟨fun _ h=>h,fun h k x=>k (h x),fun _ h=>h,?_,?_,?_,?_,?_⟩
 ·intro x q a h w;obtain⟨rfl,_⟩:=zb3 h;exact w
 ·intro x q a h w;unfold zan at h
  split at h<;>cases h
  exact w
 ·intro x q _ a h w;unfold zq at h
  split at h
  ·cases h
  ·split at h<;>cases h<;>exact w
 ·intro q a h w;unfold zL at h
  split at h
  ·split at h
   ·cases h;exact w
   ·split at h<;>cases h
    exact w
  ·cases h
 ·intro k n q A a h w;unfold zY at h
  split at h<;>cases h
  intro s z;rcases List.mem_append.1 z with z|z
  ·exact w s z
  ·rw[List.mem_singleton.1 z];intro J;rcases A with rfl|A|⟨i,o,K,rfl⟩
   ·exact zpu J
   ·exact A
   ·exact absurd J (zpt L K)
def PrOf (T:BA) (m:Md) (t:BA):Prop:=(Tree m/\t=T)∨(¬Tree m/\t=sNone)
theorem PrintOut.form {T:BA} {m:Md} {e:Ending} (h:PrintOut T m e): ∃t,PrOf T m t/\e= .returned (.string t):=by
 rcases h with ⟨q,w⟩|⟨q,w⟩
 ·exact⟨T,.inl ⟨q,rfl⟩,w⟩
 ·exact⟨sNone,.inr ⟨q,rfl⟩,w⟩
theorem PrOf.size {T t:BA} {m:Md} {n:Nat} (h:PrOf T m t) (w:Tree m->T.size<=n):t.size<=n:=by
 rcases h with ⟨q,rfl⟩|⟨_,rfl⟩
 ·exact w q
 ·exact Nat.zero_le _
def zdM (t:BA) (scr:Bool) (m:Md):Prop:=∃q,zb6 t scr (.ok q)/\zeD q=m
def zg1 (T:BA) (m:Md) (scr:Bool) (e:Ending):Prop:=∃t,PrOf T m t/\SameOut (zdM t scr m) e
theorem zka {t:BA} {w:Bool} {m:Md} {p:Nat} (h:zb6 t w (.error p)): ¬zdM t w m:=by
 rintro⟨q,z,_⟩;cases zjx h z
theorem zkb {t:BA} {w:Bool} {m n:Md} {q:PS} (h:zb6 t w (.ok q)) (z:n=zeD q):zdM t w m↔n=m:=by
 constructor
 ·rintro⟨I,A,H⟩;cases zjx h A;rw[z];exact H
 ·intro e;exact⟨q,h,by rw[<-z];exact e⟩
theorem ParseOut.md {s:BA} {z:Bool} {w w':World} {e:Ending} (h:ParseOut s z w e w'):
  (∃(q:PS) (S:Sv) (n:Md),zb6 s z (.ok q)/\n=zeD q/\e= .returned (.tuple #[zl S n,.int .i64 (-1)])/\OwnMd w' w.heap.size S n/\zdK n)∨∃p:Nat,zb6 s z (.error p)/\e= .returned (.tuple #[.agg #[.slice none 0 0,.slice none 0 0,.slice none 0 0,.slice none 0 0,.slice none 0 0],.int .i64 p]):=by
 obtain⟨y,I,A⟩:=h;cases y with
 |ok q=>
  obtain⟨S,J,H⟩:=A;refine .inl ⟨q,S,zeD q,I,rfl,J,H.md,?_⟩;have L:=H.inv;have K:(zeD q).ep.length=q.ep.length+q.la.length:=by show (q.ep++q.la).length=_;rw[List.length_append]
  refine⟨?_,?_,by rw[K];omega,?_,?_⟩
  ·show q.rq.length<=_;omega
  ·show q.im.length<=_;omega
  ·show q.st.length<=_;omega
  ·show q.ex.length<=_;omega
 |error p=>exact .inr ⟨p,I,A⟩
theorem zpv {k:Int} {n e:BA} (h:n.toList=dN->k=1):zdq k n e=za6 k n e:=by
 unfold zdq
 split
 ·next q=>
  have w:=eq_of_beq q;rw[h w,za6,if_pos (by decide),if_pos q]
 ·rfl
theorem zpw {α:Type} {f g:α->BA} (l:List α): ∀t,(∀x∈l,f x=g x)->acc f l t=acc g l t:=by
 induction l with
 |nil=>intro t _;rfl
 |cons x l q=>
  intro t h;show acc f l (t++f x)=acc g l (t++g x);rw[h x (List.mem_cons_self ..)];exact q _ fun y w=>h y (List.mem_cons_of_mem _ w)
theorem zpx {m:Md} (h:zcI m.st):zbK m=zcj m:=zpw _ _ fun s q=>zpv (h s q)
theorem zkc {m:Md} {w:Bool} {H z:BA} (M:PrOf (zcj m) m H) (I:PrOf (zbK m) m z):zdM H w m↔zdM z w m:=by
 by_cases A:zcI m.st
 ·have:H=z:=by
   rw[zpx A] at I;rcases M with ⟨a,rfl⟩|⟨a,rfl⟩<;>rcases I with ⟨b,rfl⟩|⟨b,rfl⟩
   ·rfl
   ·exact absurd a b
   ·exact absurd b a
   ·rfl
  rw[this]
 ·have J: ∀t,¬zdM t w m:=by
   rintro t ⟨q,K,L⟩;have:=zjZ K;rw[<-L] at A;exact A this
  exact⟨fun h=>absurd h (J _),fun h=>absurd h (J _)⟩
def MOk (m:Md):Prop:=∃t,PrOf (zcj m) m t/\zdM t false m
theorem zkd {T:BA} {m:Md} {t u:BA} (h:PrOf T m t) (k:PrOf T m u):t=u:=by
 rcases h with ⟨a,rfl⟩|⟨a,rfl⟩<;>rcases k with ⟨b,rfl⟩|⟨b,rfl⟩
 ·rfl
 ·exact absurd a b
 ·exact absurd b a
 ·rfl
theorem zpy {m:Md} {e:Ending} (h:zg1 (zcj m) m false e):SameOut (MOk m) e:=by
 obtain⟨t,q,b,rfl,z⟩:=h;exact⟨b,rfl,z.trans ⟨fun k=>⟨t,q,k⟩,fun⟨u,w,k⟩=>zkd w q▸k⟩⟩
theorem zpz {m:Md} {e:Ending} (h:zg1 (zbK m) m false e):SameOut (MOk m) e:=by
 obtain⟨t,z,b,rfl,I⟩:=h;have A: ∃s,PrOf (zcj m) m s:=by
  by_cases w:Tree m
  ·exact⟨_,.inl ⟨w,rfl⟩⟩
  ·exact⟨_,.inr ⟨w,rfl⟩⟩
 obtain⟨s,q⟩:=A;exact⟨b,rfl,I.trans ⟨fun k=>⟨s,q,(zkc q z).2 k⟩,fun⟨u,H,k⟩=>(zkc q z).1 (zkd H q▸k)⟩⟩
structure FewP (q:PS):Prop where
 rq:q.rq.length<=40
 im:q.im.length<=40
 ep:q.ep.length+q.la.length<=40
 st:q.st.length<=80
 ex:q.ex.length<=300
theorem zp0 {s:BA} {z:Bool} {q:PS} (h:zb6 s z (.ok q)):FewP q:=by
 refine zg0 (R:=fun a b=>FewP a->FewP b) h (fun A _=>?_) ⟨by decide,by decide,by decide,by decide,by decide⟩;refine⟨fun _ h=>h,fun h k x=>k (h x),fun _ h=>⟨h.rq,h.im,h.ep,h.st,h.ex⟩,?_,?_,?_,?_,?_⟩
 ·intro x q a h w;obtain⟨rfl,_⟩:=zb3 h;exact⟨w.rq,w.im,w.ep,w.st,by show (q.ex++[x]).length<=300;rw[List.length_append];simp;omega⟩
 ·intro x q a h w;unfold zan at h
  split at h<;>cases h
  exact⟨w.rq,by show (q.im++[x]).length<=40;rw[List.length_append];simp;omega,w.ep,w.st,w.ex⟩
 ·intro x q _ a h w;unfold zq at h
  split at h
  ·cases h
  ·split at h<;>cases h
   ·exact⟨w.rq,w.im,by show q.ep.length+(q.la++[x]).length<=40;rw[List.length_append];simp;omega,w.st,w.ex⟩
   ·exact⟨w.rq,w.im,by show (q.ep++[x]).length+q.la.length<=40;rw[List.length_append];simp;omega,w.st,w.ex⟩
 ·intro q a h w;unfold zL at h
  split at h
  ·split at h
   ·cases h;exact⟨w.rq,w.im,w.ep,w.st,w.ex⟩
   ·split at h<;>cases h
    exact⟨by show (q.rq++[_]).length<=40;rw[List.length_append];simp;omega,w.im,w.ep,w.st,w.ex⟩
  ·cases h
 ·intro k n q _ a h w;unfold zY at h
  split at h<;>cases h
  exact⟨w.rq,w.im,w.ep,by show (q.st++[_]).length<=80;rw[List.length_append];simp;omega,w.ex⟩
structure MOkP (m:Md):Prop where
 rq:m.rq.length<=40
 fit: ∀x∈m.ep,zf7 x
 nd:m.rq.Nodup
 im:m.im.length<=10000
 ep:m.ep.length<=10000
 st:m.st.length<=10000
 ex:m.ex.length<=10000
 fair:zcI m.st
theorem MOk.parts {m:Md} (h:MOk m):MOkP m:=by
 obtain⟨t,_,q,z,rfl⟩:=h;have w:=zp0 z;refine⟨w.rq,zpq z,zpp z,by have:=w.im;show q.im.length<=_;omega,?_,by have:=w.st;show q.st.length<=_;omega,by have:=w.ex;show q.ex.length<=_;omega,zjZ z⟩;have:=w.ep;show (q.ep++q.la).length<=_;rw[List.length_append];omega
structure Lk where
 frm:Int
 spec:BA
 to:Int
abbrev Ky:Type:=Int×List UInt8
def zT (l:Lk):Ky:=(l.frm,l.spec.toList)
def zbk (ls:List Lk) (k:Ky):Int:=ls.foldr (fun l r=>if zT l=k then l.to else r) (-1)
theorem zg2 (l:Lk) (ls:List Lk) (k:Ky):zbk (l::ls) k=if zT l=k then l.to else zbk ls k:=rfl
theorem zp1 {ls:List Lk} {k:Ky} (h: ∀l∈ls,zT l≠k):zbk ls k= -1:=by
 induction ls with
 |nil=>rfl
 |cons l ls q=>rw[zg2,if_neg (h l (List.mem_cons_self ..)),q fun x w=>h x (List.mem_cons_of_mem _ w)]
theorem zp2 {ls:List Lk} {k:Ky} {i:Nat} {l:Lk} (q:ls[i]? =some l) (w:zT l=k) (h: ∀j x,j<i->ls[j]? =some x->zT x≠k):zbk ls k=l.to:=by
 induction ls generalizing i with
 |nil=>cases q
 |cons y ls z=>
  rw[zg2];cases i with
  |zero=>cases q;rw[if_pos w]
  |succ i=>rw[if_neg (h 0 y (by omega) rfl)];exact z q fun j x H A=>h (j+1) x (by omega) A
theorem zke {ls:List Lk} {k:Ky} (h:zbk ls k≠ -1): ∃l∈ls,zT l=k/\l.to=zbk ls k:=by
 induction ls with
 |nil=>exact absurd rfl h
 |cons l ls w=>
  rw[zg2] at h ⊢;by_cases e:zT l=k
  ·rw[if_pos e];exact⟨l,List.mem_cons_self ..,e,rfl⟩
  ·rw[if_neg e] at h ⊢;obtain⟨x,A,q,z⟩:=w h;exact⟨x,List.mem_cons_of_mem _ A,q,z⟩
theorem zhI {ls:List Lk} (q:(ls.map zT).Nodup) {l:Lk} (w:l∈ls):zbk ls (zT l)=l.to:=by
 induction ls with
 |nil=>cases w
 |cons y ls z=>
  rw[zg2];rw[List.map_cons,List.nodup_cons] at q;rcases List.mem_cons.1 w with rfl|h
  ·rw[if_pos rfl]
  ·rw[if_neg (show ¬zT y=zT l from fun e=>q.1 (by rw[e];exact List.mem_map_of_mem h))];exact z q.2 h
def zdr:Nat->List (List BA)->List Ky
 |_,[]=>[]
 |f,rq::r=>rq.map (fun s=>((f:Int),s.toList))++zdr (f+1) r
def zaq (rqs:List (List BA)):Nat:=(rqs.map List.length).sum
theorem zhJ (h:List (List BA)): ∀f,(zdr f h).length=zaq h:=by
 induction h with
 |nil=>intro f;rfl
 |cons r h q=>intro f;rw[zdr,List.length_append,List.length_map,q,zaq,zaq,List.map_cons,List.sum_cons]
theorem zen {q:List (List BA)} {k:Ky}: ∀{f},k∈zdr f q↔∃(i:Nat) (rq:List BA) (s:BA),q[i]? =some rq/\s∈rq/\k=(((f+i:Nat):Int),s.toList):=by
 induction q with
 |nil=>
  intro f;constructor
  ·intro h;cases h
  ·rintro⟨i,rq,s,h,_⟩;cases h
 |cons r q A=>
  intro f;rw[zdr,List.mem_append,A,List.mem_map];constructor
  ·rintro (⟨s,hs,rfl⟩|⟨i,rq,s,w,z,rfl⟩)
   ·exact⟨0,r,s,rfl,hs,rfl⟩
   ·exact⟨i+1,rq,s,w,z,by rw[show f+1+i=f+(i+1) by omega]⟩
  ·rintro⟨i,rq,s,w,z,rfl⟩;cases i with
   |zero=>cases w;exact .inl ⟨s,z,rfl⟩
   |succ i=>exact .inr ⟨i,rq,s,w,z,by rw[show f+1+i=f+(i+1) by omega]⟩
theorem zkf {a b:BA} (h:a.toList=b.toList):a=b:=(zdY a b).1 (by rw[h];exact beq_self_eq_true _)
theorem zhK {q:List (List BA)}: ∀f,(∀rq∈q,rq.Nodup)->(zdr f q).Nodup:=by
 induction q with
 |nil=>intro f _;exact List.nodup_nil
 |cons r q A=>
  intro f h;rw[zdr,List.nodup_append];refine⟨?_,A _ fun x I=>h x (List.mem_cons_of_mem _ I),?_⟩
  ·have:=h r (List.mem_cons_self ..);unfold List.Nodup at this ⊢;rw[List.pairwise_map];exact this.imp fun w e=>w (zkf (Prod.mk.inj e).2)
  ·intro a z b H e;obtain⟨s,_,rfl⟩:=List.mem_map.1 z;obtain⟨i,_,_,_,_,rfl⟩:=zen.1 H;have:=(Prod.mk.inj e).1;omega
theorem zkg {α:Type} [DecidableEq α] {K L:List α} (h:K.Nodup) (z: ∀x∈K,x∈L) (q:L.length<=K.length):L.Perm K:=by
 induction K generalizing L with
 |nil=>cases L with
  |nil=>exact .refl _
  |cons=>simp at q
 |cons a K H=>
  have w:=z a (List.mem_cons_self ..);rw[List.nodup_cons] at h;refine (List.perm_cons_erase w).trans (.cons a (H h.2 (fun x A=>?_) ?_))
  ·exact (List.mem_erase_of_ne (show x≠a from fun e=>h.1 (by rw[<-e];exact A))).2 (z x (List.mem_cons_of_mem _ A))
  ·rw[List.length_erase_of_mem w];simp at q;omega
def zf9 (rqs:List (List BA)) (ls:List Lk):Prop:=
 zaq rqs=ls.length/\∀(i:Nat) (l:Lk),ls[i]? =some l->0<=l.frm/\l.frm<(rqs.length:Int)/\0<=l.to/\l.to<(rqs.length:Int)/\(∃s∈rqs.getD l.frm.toNat [],s.toList=l.spec.toList)/\∀(k:Nat) (x:Lk),k<i->ls[k]? =some x->zT x≠zT l
def zbQ (rqs:List (List BA)) (ls:List Lk):Prop:=
 ls.length=zaq rqs/\∀(f:Nat) (rq:List BA),rqs[f]? =some rq->∀s∈rq,0<=zbk ls ((f:Int),s.toList)/\zbk ls ((f:Int),s.toList)<(rqs.length:Int)
structure LinksOk (rqs:List (List BA)) (ls:List Lk):Prop where
 nodup:(ls.map zT).Nodup
 mem: ∀k,k∈ls.map zT↔k∈zdr 0 rqs
 to: ∀l∈ls,0<=l.to/\l.to<(rqs.length:Int)
theorem zp3 {ls:List Lk} (h: ∀(i:Nat) (l:Lk),ls[i]? =some l->∀(k:Nat) (x:Lk),k<i->ls[k]? =some x->zT x≠zT l):(ls.map zT).Nodup:=by
 unfold List.Nodup;rw[List.pairwise_map,List.pairwise_iff_getElem];intro i j z w q;exact h j _ (List.getElem?_eq_getElem w) i _ q (List.getElem?_eq_getElem z)
theorem zp4 {q:List (List BA)} {ls:List Lk} (h:zf9 q ls):LinksOk q ls:=by
 obtain⟨M,h⟩:=h;have H:=zp3 fun i l z=>(h i l z).2.2.2.2.2;have w: ∀k∈ls.map zT,k∈zdr 0 q:=by
  intro k J;obtain⟨l,z,rfl⟩:=List.mem_map.1 J;obtain⟨i,A⟩:=List.mem_iff_getElem?.1 z;obtain⟨K,N,_,_,⟨s,L,e⟩,_⟩:=h i l A;refine zen.2 ⟨l.frm.toNat,q.getD l.frm.toNat [],s,?_,L,?_⟩
  ·rw[List.getD,List.getElem?_eq_getElem (by omega)];rfl
  ·rw[e,Nat.zero_add,Int.toNat_of_nonneg K];rfl
 have I:=zkg H w (by rw[zhJ,M,List.length_map];exact Nat.le_refl _);refine⟨H,fun k=>(I.mem_iff).symm,fun l z=>?_⟩;obtain⟨i,A⟩:=List.mem_iff_getElem?.1 z;exact⟨(h i l A).2.2.1,(h i l A).2.2.2.1⟩
theorem zkh {q:List (List BA)} {ls:List Lk} (J: ∀rq∈q,rq.Nodup) (h:zbQ q ls):LinksOk q ls:=by
 obtain⟨M,h⟩:=h;have w: ∀k∈zdr 0 q,k∈ls.map zT:=by
  intro k L;obtain⟨f,rq,s,I,H,rfl⟩:=zen.1 L;rw[Nat.zero_add];obtain⟨N,_⟩:=h f rq I s H;obtain⟨l,z,e,_⟩:=zke (ls:=ls) (k:=((f:Int),s.toList)) (by omega);exact e▸List.mem_map_of_mem z
 have A:=zkg (zhK 0 J) w (by rw[zhJ,M.symm,List.length_map];exact Nat.le_refl _);have K:(ls.map zT).Nodup:=A.nodup_iff.2 (zhK 0 J);refine⟨K,fun k=>A.mem_iff,fun l z=>?_⟩;obtain⟨f,rq,s,I,H,e⟩:=zen.1 (A.mem_iff.1 (List.mem_map_of_mem z));rw[Nat.zero_add] at e;have:=h f rq I s H;rw[<-e,zhI K z] at this;exact this
theorem LinksOk.len {q:List (List BA)} {ls:List Lk} (z: ∀rq∈q,rq.Nodup) (h:LinksOk q ls):ls.length=zaq q:=by
 rw[<-zhJ q 0,<-List.length_map (f:=zT)];refine Nat.le_antisymm ?_ ?_
 ·exact List.Nodup.length_le_of_subset h.nodup fun k w=>(h.mem k).1 w
 ·exact List.Nodup.length_le_of_subset (zhK 0 z) fun k w=>(h.mem k).2 w
theorem LinksOk.toI {q:List (List BA)} {ls:List Lk} (A: ∀rq∈q,rq.Nodup) (h:LinksOk q ls):zbQ q ls:=by
 refine⟨h.len A,fun f rq z s H=>?_⟩;obtain⟨l,w,e⟩:=List.mem_map.1 ((h.mem ((f:Int),s.toList)).2 (zen.2 ⟨f,rq,s,z,H,by rw[Nat.zero_add]⟩));rw[<-e,zhI h.nodup w];exact h.to l w
theorem LinksOk.toS {q:List (List BA)} {ls:List Lk} (U: ∀rq∈q,rq.Nodup) (h:LinksOk q ls):zf9 q ls:=by
 refine⟨(h.len U).symm,fun i l M=>?_⟩;have H:=List.mem_of_getElem? M;obtain⟨f,rq,s,L,O,e⟩:=zen.1 ((h.mem _).1 (List.mem_map_of_mem H));rw[Nat.zero_add] at e;obtain⟨z,V⟩:=Prod.mk.inj e;have z:l.frm=(f:Int):=z;have Y:=(List.getElem?_eq_some_iff.1 L).1;refine⟨by omega,by omega,(h.to l H).1,(h.to l H).2,⟨s,?_,V.symm⟩,fun k x N X=>?_⟩
 ·rw[z,Int.toNat_natCast,List.getD,L];exact O
 ·have K:=h.nodup;unfold List.Nodup at K;rw[List.pairwise_map,List.pairwise_iff_getElem] at K;obtain⟨I,A⟩:=List.getElem?_eq_some_iff.1 X;obtain⟨w,J⟩:=List.getElem?_eq_some_iff.1 M;rw[<-A,<-J];exact K k i I w N
theorem zki {q:List (List BA)} {ls:List Lk} (w: ∀rq∈q,rq.Nodup):zf9 q ls↔zbQ q ls:=
 ⟨fun h=>(zp4 h).toI w,fun h=>(zkh w h).toS w⟩
def Rch (nx:Nat->List Nat) (j:Nat):Prop:=∀S:Nat->Prop,S 0->(∀a b,S a->b∈nx a->S b)->S j
def zE (b:List Bool):Nat:=b.count true
def LeB (b c:List Bool):Prop:=b.length=c.length/\∀j:Nat,b[j]? =some true->c[j]? =some true
theorem LeB.refl (b:List Bool):LeB b b:=⟨rfl,fun _ h=>h⟩
theorem LeB.trans {a b c:List Bool} (h:LeB a b) (k:LeB b c):LeB a c:=⟨h.1.trans k.1,fun j q=>k.2 j (h.2 j q)⟩
theorem LeB.set (b:List Bool) (m:Nat):LeB b (b.set m true):=by
 refine⟨by simp,fun j h=>?_⟩;rw[List.getElem?_set]
 split
 ·next e=>rw[if_pos (by subst e;exact (List.getElem?_eq_some_iff.1 h).1)]
 ·exact h
theorem LeB.cnt {b c:List Bool} (h:LeB b c):zE b<=zE c/\(zE c<=zE b->b=c):=by
 induction b generalizing c with
 |nil=>cases c with
  |nil=>exact⟨Nat.le_refl _,fun _=>rfl⟩
  |cons=>have:=h.1;simp at this
 |cons x b z=>
  cases c with
  |nil=>have:=h.1;simp at this
  |cons y c=>
   have H:LeB b c:=⟨by have:=h.1;simpa using this,fun j w=>h.2 (j+1) w⟩;have I:=h.2 0;obtain⟨q,A⟩:=z H;unfold zE at q A ⊢;cases x<;>cases y<;>simp_all;omega
theorem zdN (b:List Bool):zE b<=b.length:=List.count_le_length ..
theorem zg3 {b:List Bool}:zE b=b.length↔∀j:Nat,j<b.length->b[j]? =some true:=by
 unfold zE;rw[List.count_eq_length];constructor
 ·intro h j q;rw[List.getElem?_eq_getElem q,<-h _ (List.getElem_mem q)]
 ·intro h x z;obtain⟨i,w⟩:=List.mem_iff_getElem?.1 z;have:=h i (List.getElem?_eq_some_iff.1 w).1;rw[w] at this;exact (Option.some.inj this).symm
def zbM (b:List Bool) (l:Lk):List Bool:=if b.getD l.frm.toNat false=true then b.set l.to.toNat true else b
def zbf (ls:List Lk) (b:List Bool):List Bool:=ls.foldl zbM b
def zai (ls:List Lk):Nat->List Bool->List Bool
 |0,b=>b
 |k+1,b=>zai ls k (zbf ls b)
theorem zhL (ls:List Lk): ∀(k:Nat) (b:List Bool),zai ls (k+1) b=zbf ls (zai ls k b)
 |0,_=>rfl
 |k+1,b=>zhL ls k (zbf ls b)
theorem zkj (b:List Bool) (l:Lk):LeB b (zbM b l):=by
 unfold zbM
 split
 ·exact .set _ _
 ·exact .refl _
theorem zg4 (ls:List Lk): ∀b,LeB b (zbf ls b):=by
 induction ls with
 |nil=>intro b;exact .refl _
 |cons l ls h=>intro b;exact (zkj b l).trans (h _)
theorem zfA (ls:List Lk): ∀(k:Nat) (b:List Bool),(zai ls k b).length=b.length
 |0,_=>rfl
 |k+1,b=>(zfA ls k _).trans (zg4 ls b).1.symm
theorem zhM (ls:List Lk): ∀(k:Nat) (b:List Bool),LeB b (zai ls k b)
 |0,_=>.refl _
 |k+1,b=>(zg4 ls b).trans (zhM ls k _)
def zg5 (ls:List Lk) (b:List Bool):Prop:=∀l∈ls,b[l.frm.toNat]? =some true->l.to.toNat<b.length->b[l.to.toNat]? =some true
theorem zp5 {b:List Bool} {l:Lk} (h:zbM b l=b):b[l.frm.toNat]? =some true->l.to.toNat<b.length->b[l.to.toNat]? =some true:=by
 intro w q;unfold zbM at h;rw[if_pos (by rw[List.getD,w];rfl)] at h;rw[<-h,List.getElem?_set,if_pos rfl,if_pos (by rw[<-h] at q;simpa using q)]
theorem zkk {a b:List Bool} (h:LeB a b) (k:LeB b a):a=b:=h.cnt.2 k.cnt.1
theorem zp6 {ls:List Lk} {b:List Bool} (h:zbf ls b=b):zg5 ls b:=by
 induction ls with
 |nil=>intro l q;cases q
 |cons x ls z=>
  have w:zbM b x=b:=(zkk (zkj b x) (by have:=zg4 ls (zbM b x);rw[show zbf ls (zbM b x)=b from h] at this;exact this)).symm;have A:zbf ls b=b:=by rw[show zbf (x::ls) b=zbf ls (zbM b x) from rfl,w] at h;exact h
  intro l q;rcases List.mem_cons.1 q with rfl|q
  ·exact zp5 w
  ·exact z A l q
theorem zkl (ls:List Lk): ∀(k:Nat) (b:List Bool),zg5 ls (zai ls k b)∨zE b+k<=zE (zai ls k b):=by
 intro k
 induction k with
 |zero=>intro b;exact .inr (Nat.le_refl _)
 |succ k z=>
  intro b;by_cases e:zbf ls b=b
  ·left;have H:=zp6 e;have: ∀j,zai ls j b=b:=by
    intro j
    induction j with
    |zero=>rfl
    |succ j w=>rw[zai,e];exact w
   rw[this];exact H
  ·rcases z (zbf ls b) with h|h
   ·exact .inl h
   ·right;have A:=(zg4 ls b).cnt;have:zE b<zE (zbf ls b):=by
     rcases Nat.lt_or_ge (zE b) (zE (zbf ls b)) with q|q
     ·exact q
     ·exact absurd (A.2 q).symm e
    show _<=zE (zai ls k (zbf ls b));omega
theorem zp7 {ls:List Lk} {S:Nat->Prop} (z: ∀l∈ls,S l.frm.toNat->S l.to.toNat): ∀b:List Bool,(∀j,b[j]? =some true->S j)->∀j,(zbf ls b)[j]? =some true->S j:=by
 induction ls with
 |nil=>intro b h;exact h
 |cons x ls H=>
  intro b h;refine H (fun l I=>z l (List.mem_cons_of_mem _ I)) (zbM b x) fun j q=>?_;unfold zbM at q
  split at q
  ·next w=>
   rw[List.getElem?_set] at q
   split at q
   ·next e=>
    rw[<-e];refine z x (List.mem_cons_self ..) (h _ ?_);rw[List.getD] at w;cases A:b[x.frm.toNat]? with
    |none=>rw[A] at w;cases w
    |some v=>rw[A] at w;exact congrArg some w
   ·exact h j q
  ·exact h j q
theorem zhN {ls:List Lk} {S:Nat->Prop} (q: ∀l∈ls,S l.frm.toNat->S l.to.toNat): ∀(k:Nat) (b:List Bool),(∀j,b[j]? =some true->S j)->∀j,(zai ls k b)[j]? =some true->S j
 |0,_,h=>h
 |k+1,b,h=>zhN q k _ (zp7 q b h)
def zaX (n:Nat):List Bool:=(List.replicate n false).set 0 true
theorem zkm {ls:List Lk} {J:Nat->List Nat} {n:Nat} (Z:0<n) (U: ∀l∈ls,l.to.toNat∈J l.frm.toNat) (N: ∀a,a<n->∀b∈J a,b<n/\∃l∈ls,l.frm.toNat=a/\l.to.toNat=b) (j:Nat):
  (zai ls n (zaX n))[j]? =some true↔Rch J j:=by
 have A:(zaX n).length=n:=by simp[zaX]
 have M:1<=zE (zaX n):=by
  unfold zE zaX;cases n with
  |zero=>omega
  |succ n=>rw[List.replicate_succ];simp
 constructor
 ·intro h S V L;refine zhN (S:=S) (fun l z Y=>L _ _ Y (U l z)) n (zaX n) (fun k q=>?_) j h;unfold zaX at q;rw[List.getElem?_set] at q
  split at q
  ·next e=>rw[<-e];exact V
  ·rw[List.getElem?_replicate] at q
   split at q
   ·cases q
   ·cases q
 ·intro h;have w:=zfA ls n (zaX n);rw[A] at w;have H:zg5 ls (zai ls n (zaX n)):=by
   rcases zkl ls n (zaX n) with k|k
   ·exact k
   ·have:=zdN (zai ls n (zaX n));omega
  refine h (fun j=>(zai ls n (zaX n))[j]? =some true) ?_ ?_
  ·refine (zhM ls n (zaX n)).2 0 ?_;unfold zaX;rw[List.getElem?_set,if_pos rfl,if_pos (by simpa using Z)]
  ·intro a b K X;have I:a<n:=by have:=(List.getElem?_eq_some_iff.1 K).1;omega
   obtain⟨O,l,z,rfl,rfl⟩:=N a I b X;exact H l z K (by omega)
def dfs (nx:Nat->List Nat):Nat->Nat->List Bool×List Nat->List Bool×List Nat
 |0,_,s=>s
 |f+1,m,s=>if s.1.getD m true=true then s else
  let t:=(nx m).foldl (fun s k=>dfs nx f k s) (s.1.set m true,s.2)
  (t.1,t.2++[m])
structure DfsP (nx:Nat->List Nat) (S:Nat->Prop) (ms:List Nat) (s t:List Bool×List Nat):Prop where
 le:LeB s.1 t.1
 begun: ∀m∈ms,t.1[m]? =some true
 new: ∀j:Nat,t.1[j]? =some true->s.1[j]? =some true∨S j
 shut: ∀j:Nat,t.1[j]? =some true->s.1[j]? =some true∨∀k∈nx j,t.1[k]? =some true
 cnt:t.2.length+zE s.1=s.2.length+zE t.1
theorem zg6 {b:List Bool} {m:Nat} (h:b[m]? =some false):zE (b.set m true)=zE b+1:=by
 induction b generalizing m with
 |nil=>cases h
 |cons x b q=>
  cases m with
  |zero=>cases h;simp[zE]
  |succ m=>
   have:=q h;unfold zE at this ⊢;rw[List.set_cons_succ,List.count_cons,List.count_cons,this];omega
theorem zkn {A:Nat->List Nat} {n:Nat} (Y: ∀m,m<n->∀k∈A m,k<n) {S:Nat->Prop} (hS: ∀a b,S a->b∈A a->S b): ∀(f m:Nat) (s:List Bool×List Nat),s.1.length=n->m<n->n<=f+zE s.1->S m->DfsP A S [m] s (dfs A f m s):=by
 intro f
 induction f with
 |zero=>
  intro m s N hm X _;have:zE s.1=s.1.length:=by have:=zdN s.1;omega
  have z:=zg3.1 this m (by omega);exact⟨.refl _,fun k q=>by rw[List.mem_singleton.1 q];exact z,fun j h=>.inl h,fun j h=>.inl h,rfl⟩
 |succ f ih=>
  intro m s N hm X M;have Z: ∀(L:List Nat) (s:List Bool×List Nat),(∀k∈L,k<n/\S k)->s.1.length=n->n<=f+zE s.1->DfsP A S L s (L.foldl (fun s k=>dfs A f k s) s):=by
   intro L
   induction L with
   |nil=>intro s _ _ _;exact⟨.refl _,fun k q=>(by cases q),fun j h=>.inl h,fun j h=>.inl h,rfl⟩
   |cons k L U=>
    intro s H N X;have w:=ih k s N (H k (List.mem_cons_self ..)).1 X (H k (List.mem_cons_self ..)).2;have I:=U (dfs A f k s) (fun x O=>H x (List.mem_cons_of_mem _ O)) (w.le.1.symm.trans N) (by have:=w.le.cnt.1;omega);refine⟨w.le.trans I.le,fun x O=>?_,fun j K=>?_,fun j K=>?_,?_⟩
    ·rcases List.mem_cons.1 O with rfl|O
     ·exact I.le.2 _ (w.begun _ (List.mem_singleton.2 rfl))
     ·exact I.begun x O
    ·rcases I.new j K with h|h
     ·exact w.new j h
     ·exact .inr h
    ·rcases I.shut j K with h|h
     ·rcases w.shut j h with V|V
      ·exact .inl V
      ·exact .inr fun k q=>I.le.2 _ (V k q)
     ·exact .inr h
    ·have e1:=w.cnt;have e2:=I.cnt;simp only[List.foldl_cons];omega
  rw[dfs]
  split
  ·next z=>
   have z:s.1[m]? =some true:=by
    rw[List.getD,List.getElem?_eq_getElem (by omega)] at z;rw[List.getElem?_eq_getElem (by omega)];exact congrArg some z
   exact⟨.refl _,fun k q=>by rw[List.mem_singleton.1 q];exact z,fun j h=>.inl h,fun j h=>.inl h,rfl⟩
  ·next z=>
   have z:s.1[m]? =some false:=by
    rw[List.getD,List.getElem?_eq_getElem (by omega)] at z;rw[List.getElem?_eq_getElem (by omega)];exact congrArg some (by simpa using z)
   have hc:=zg6 z;have J:(s.1.set m true)[m]? =some true:=by rw[List.getElem?_set,if_pos rfl,if_pos (by omega)]
   have w:=Z (A m) (s.1.set m true,s.2) (fun k q=>⟨Y m hm k q,hS m k M q⟩) (by simpa using N) (by show n<=f+zE (s.1.set m true);omega);refine⟨(LeB.set _ _).trans w.le,fun k q=>by rw[List.mem_singleton.1 q];exact w.le.2 m J,fun j K=>?_,fun j K=>?_,?_⟩
   ·rcases w.new j K with h|h
    ·have h:(s.1.set m true)[j]? =some true:=h;rw[List.getElem?_set] at h
     split at h
     ·next e=>rw[<-e];exact .inr M
     ·exact .inl h
    ·exact .inr h
   ·rcases w.shut j K with h|h
    ·have h:(s.1.set m true)[j]? =some true:=h;rw[List.getElem?_set] at h
     split at h
     ·next e=>rw[<-e];exact .inr fun k q=>w.begun k q
     ·exact .inl h
    ·exact .inr h
   ·have e:=w.cnt;simp only[List.length_append,List.length_singleton] at e ⊢;omega
theorem zp8 {q:Nat->List Nat} {n:Nat} (hn:0<n) (N: ∀m,m<n->∀k∈q m,k<n):
  (dfs q n 0 (List.replicate n false,[])).2.length=n↔∀j,j<n->Rch q j:=by
 have O:zE (List.replicate n false)=0:=by unfold zE;rw[List.count_replicate];rfl
 have H: ∀S:Nat->Prop,S 0->(∀a b,S a->b∈q a->S b)->DfsP q S [0] (List.replicate n false,[]) (dfs q n 0 (List.replicate n false,[])):=fun S U M=>
  zkn N M n 0 (List.replicate n false,[]) (by simp) hn (by show n<=n+zE (List.replicate n false);omega) U
 have I: ∀j:Nat,¬(List.replicate n false)[j]? =some true:=by
  intro j h;rw[List.getElem?_replicate] at h
  split at h<;>cases h
 have L:=H (fun _=>True) trivial (fun _ _ _ _=>trivial);have K:(dfs q n 0 (List.replicate n false,[])).1.length=n:=by rw[<-L.le.1];simp
 have w:=L.cnt;rw[show zE (List.replicate n false,([]:List Nat)).1=0 from O] at w;constructor
 ·intro h j X S U M;have V:=H S U M;have A:zE (dfs q n 0 (List.replicate n false,[])).1=(dfs q n 0 (List.replicate n false,[])).1.length:=by
   rw[K];simp only[List.length_nil] at w;omega
  rcases V.new j (zg3.1 A j (by omega)) with z|z
  ·exact absurd z (I j)
  ·exact z
 ·intro h;have J: ∀j,j<(dfs q n 0 (List.replicate n false,[])).1.length->(dfs q n 0 (List.replicate n false,[])).1[j]? =some true:=by
   intro j X;refine h j (by omega) (fun j=>(dfs q n 0 (List.replicate n false,[])).1[j]? =some true) (L.begun 0 (List.mem_singleton.2 rfl)) fun a b Y Z=>?_;rcases L.shut a Y with z|z
   ·exact absurd z (I a)
   ·exact z b Z
  have:=zg3.2 J;simp only[List.length_nil] at w;omega
def zbR (rqs:List (List BA)) (ls:List Lk) (m:Nat):List Nat:=(rqs.getD m []).map fun s=>(zbk ls ((m:Int),s.toList)).toNat
theorem zhO {q:List (List BA)} {ls:List Lk} (h:zbQ q ls) (m k:Nat) (H:k∈zbR q ls m):k<q.length:=by
 obtain⟨s,w,rfl⟩:=List.mem_map.1 H;cases z:q[m]? with
 |none=>rw[List.getD,z] at w;cases w
 |some A=>
  rw[List.getD,z] at w;have:=h.2 m A z s w;omega
theorem zko {q:List (List BA)} {ls:List Lk} (V: ∀rq∈q,rq.Nodup) (w:zbQ q ls) (J:0<q.length):
  (∀j,j<q.length->(zai ls q.length (zaX q.length))[j]? =some true)↔(dfs (zbR q ls) q.length 0 (List.replicate q.length false,[])).2.length=q.length:=by
 have h:=zkh V w;have N: ∀l∈ls,l.to.toNat∈zbR q ls l.frm.toNat:=by
  intro l z;obtain⟨f,rq,s,U,A,e⟩:=zen.1 ((h.mem _).1 (List.mem_map_of_mem z));rw[Nat.zero_add] at e;have H:l.frm=(f:Int):=(Prod.mk.inj e).1;rw[H,Int.toNat_natCast];refine List.mem_map.2 ⟨s,by rw[List.getD,U];exact A,?_⟩;rw[<-e,zhI h.nodup z]
 have L: ∀a,a<q.length->∀b∈zbR q ls a,b<q.length/\∃l∈ls,l.frm.toNat=a/\l.to.toNat=b:=by
  intro a M b O;refine⟨zhO w a b O,?_⟩;obtain⟨s,A,rfl⟩:=List.mem_map.1 O;rw[List.getD,List.getElem?_eq_getElem M] at A;have K:=w.2 a _ (List.getElem?_eq_getElem M) s A;obtain⟨l,z,e,X⟩:=zke (ls:=ls) (k:=((a:Int),s.toList)) (by omega);have H:l.frm=(a:Int):=(Prod.mk.inj e).1;exact⟨l,z,by rw[H,Int.toNat_natCast],by rw[X]⟩
 rw[zp8 J fun m _ k K=>zhO w m k K];exact⟨fun k j I=>(zkm J N L j).1 (k j I),fun k j I=>(zkm J N L j).2 (k j I)⟩
def inL (l:List BA) (s:BA):Bool:=l.any fun x=>x.toList==s.toList
def twB (l:List BA):Bool:=(List.range l.length).any fun i=>inL (l.take i) (l.getD i sNone)
theorem zg7 {l:List BA} {s:BA}:inL l s=true↔s∈l:=by
 simp only[inL,List.any_eq_true];constructor
 ·rintro⟨x,q,h⟩;rw[(zdY _ _).1 h] at q;exact q
 ·intro h;exact⟨s,h,(zdY _ _).2 rfl⟩
theorem zp9 {l:List BA} {s:BA} {k:Nat} (q:k<l.length) (h:((l.getD k sNone).toList==s.toList)=true):inL l s=true:=by
 rw[inL,List.any_eq_true];exact⟨l[k],List.getElem_mem q,by simpa [List.getD,List.getElem?_eq_getElem q] using h⟩
theorem zpA {l:List BA} {s:BA} (h: ∀j,j<l.length->((l.getD j sNone).toList==s.toList)=false):inL l s=false:=by
 rw[inL,List.any_eq_false];intro x w;obtain⟨j,q,rfl⟩:=List.mem_iff_getElem.1 w;have:=h j q
 simpa [List.getD,List.getElem?_eq_getElem q] using this
theorem zkp {l:List BA} {k:Nat} (q:k<l.length) (h:inL (l.take k) (l.getD k sNone)=true):twB l=true:=by
 rw[twB,List.any_eq_true];exact⟨k,List.mem_range.2 q,h⟩
theorem zpB {l:List BA} (h: ∀j,j<l.length->inL (l.take j) (l.getD j sNone)=false):twB l=false:=by
 rw[twB,List.any_eq_false];intro k q;rw[h k (List.mem_range.1 q)];exact Bool.false_ne_true
def epN (l:List Ep):List BA:=(l.filter fun x=> !(x.kind==3)).map (·.name)
def spB (l:List Im) (n:BA):Bool:=match l.find? (fun x=>x.loc.toList==n.toList) with|some x=>x.first.toList==[42]|none=>false
def unB (ns:List BA) (l:List Ep):Bool:=l.any fun x=>x.kind==1&&(!(x.loc.toList==dN)&& !inL ns x.loc)
def seB (im:List Im) (l:List Ep):Bool:=l.any fun x=>x.kind==1&&spB im x.loc
def sxB (im:List Im) (l:List Ex):Bool:=l.any fun x=>(x.kind==2||x.kind==3)&&spB im x.name
def mxB (im:List Im) (l:List Ex):Bool:=l.any fun x=>(x.kind==4||x.kind==5)&& !spB im x.name
def ssB (im:List Im) (l:List Sm):Bool:=l.any fun x=>x.kind==3&&spB im x.name
def zar (m:Md):Int:=
 if twB (zbL m) then 1 else if twB (epN m.ep) then 2 else if unB (zbL m) m.ep then 3
 else if seB m.im m.ep||sxB m.im m.ex||ssB m.im m.st then 4 else if mxB m.im m.ex then 5 else 0
theorem zpC {l:List Im} {n:BA} {k:Nat} {x:Im} (q:l[k]? =some x) (A:(x.loc.toList==n.toList)=true) (h: ∀(j:Nat) (y:Im),j<k->l[j]? =some y->(y.loc.toList==n.toList)=false):spB l n=(x.first.toList==[42]):=by
 have:l.find? (fun x=>x.loc.toList==n.toList)=some x:=by
  rw[List.find?_eq_some_iff_getElem];obtain⟨z,rfl⟩:=List.getElem?_eq_some_iff.1 q;exact⟨A,k,z,rfl,fun j w=>by rw[h j l[j] w (List.getElem?_eq_getElem _)];rfl⟩
 rw[spB,this]
theorem zpD {l:List Im} {n:BA} (h: ∀(j:Nat) (y:Im),l[j]? =some y->(y.loc.toList==n.toList)=false):spB l n=false:=by
 have:l.find? (fun x=>x.loc.toList==n.toList)=none:=by
  rw[List.find?_eq_none];intro x q;obtain⟨j,w,rfl⟩:=List.mem_iff_getElem.1 q;rw[h j _ (List.getElem?_eq_getElem w)];exact Bool.false_ne_true
 rw[spB,this]
abbrev okc (c:Int):Prop:=(97<=c/\c<=122)∨(48<=c/\c<=57)∨c=46∨c=95∨c=45∨c=47
abbrev zc5 (s:BA):Prop:=1<=s.size/\s.size<=40/\bt s 0=47/\∀j,j<s.size->okc (bt s j)
def zaU (s:BA):Bool:=decide (zc5 s)
theorem zkq {s:BA} (h:zc5 s):zaU s=true:=decide_eq_true h
theorem zdB {s:BA} (h: ¬zc5 s):zaU s=false:=decide_eq_false h
theorem zdO {s:BA}:zaU s=true↔zc5 s:=decide_eq_true_iff
def upd (p:BA) (l:List BA):List BA:=
 if p.toList.isEmpty=true∨(p.toList==[46])=true then l else if (p.toList==[46,46])=false then l++[p] else l.dropLast
def zfB (s:BA) (i:Nat) (st:Nat×List BA):Nat×List BA:=
 if i<s.size/\bt s i≠47 then st else (i+1,upd (s.extract st.1 i) st.2)
def zX (s:BA):Nat->Nat×List BA
 |0=>(0,[])
 |k+1=>zfB s k (zX s k)
theorem zpE (p:BA) (l:List BA):(upd p l).length<=l.length+1:=by
 unfold upd
 split
 ·omega
 ·split
  ·simp
  ·simp;omega
theorem zhP (s:BA) (k:Nat):(zX s k).1<=k/\(zX s k).2.length<=k:=by
 induction k with
 |zero=>simp[zX]
 |succ k q=>
  have h:=zpE (s.extract (zX s k).1 k) (zX s k).2;unfold zX zfB
  split
  ·omega
  ·simp only;omega
theorem zkr {s:BA} {k:Nat} (h:k<s.size) (q:bt s k≠47):zX s (k+1)=zX s k:=by rw[zX,zfB,if_pos ⟨h,q⟩]
theorem zks {s:BA} {k:Nat} (h: ¬(k<s.size/\bt s k≠47)):zX s (k+1)=(k+1,upd (s.extract (zX s k).1 k) (zX s k).2):=by rw[zX,zfB,if_neg h]
theorem zg8 {p:BA} {l:List BA} (h:p.toList.isEmpty=true):upd p l=l:=by rw[upd,if_pos (.inl h)]
theorem zhQ {p:BA} {l:List BA} (h:(p.toList==[46])=true):upd p l=l:=by rw[upd,if_pos (.inr h)]
theorem zhR {p:BA} {l:List BA} (w:p.toList.isEmpty=false) (h:(p.toList==[46])=false) (q:(p.toList==[46,46])=false):upd p l=l++[p]:=by
 rw[upd,if_neg (by rw[w,h];simp),if_pos q]
theorem zhS {p:BA} {l:List BA} (w:p.toList.isEmpty=false) (h:(p.toList==[46])=false) (q:(p.toList==[46,46])=true):upd p l=l.dropLast:=by
 rw[upd,if_neg (by rw[w,h];simp),if_neg (by rw[q];simp)]
def parts (s:BA):List BA:=(zX s (s.size+1)).2
def zcs (l:List BA):Nat->BA
 |0=>{data:=#[]}
 |k+1=>zcs l k++{data:=#[47]}++l.getD k {data:=#[]}
def zaK (s:BA):BA:=if zaU s then (if (parts s).length=0 then {data:=#[47]} else zcs (parts s) (parts s).length) else {data:=#[]}
theorem zhT {s:BA} (h:zaU s=false):zaK s={data:=#[]}:=by rw[zaK,h];rfl
theorem zhU {s:BA} (h:zaU s=true) (q:(parts s).length=0):zaK s={data:=#[47]}:=by rw[zaK,h,if_pos rfl,if_pos q]
theorem zhV {s:BA} (h:zaU s=true) (q: ¬(parts s).length=0):zaK s=zcs (parts s) (parts s).length:=by rw[zaK,h,if_pos rfl,if_neg q]
theorem zpF (p:BA) (l:List BA) (B:Nat) (w:p.size<=B) (q: ∀x∈l,x.size<=B): ∀x∈upd p l,x.size<=B:=by
 intro x h;unfold upd at h
 split at h
 ·exact q x h
 ·split at h
  ·simp only[List.mem_append,List.mem_singleton] at h;rcases h with h|rfl
   ·exact q x h
   ·exact w
  ·exact q x ((List.dropLast_sublist l).subset h)
theorem zkt (s:BA) (k:Nat): ∀x∈(zX s k).2,x.size<=s.size:=by
 induction k with
 |zero=>simp[zX]
 |succ k h=>
  unfold zX zfB
  split
  ·exact h
  ·exact zpF _ _ _ (by rw[ByteArray.size_extract];omega) h
theorem zku (s:BA) (l:List BA) (h: ∀x∈l,x.size<=s.size) (k:Nat):(l.getD k {data:=#[]}).size<=s.size:=by
 by_cases q:k<l.length
 ·have e:l.getD k {data:=#[]}=l[k]:=by simp[List.getD,List.getElem?_eq_getElem q]
  rw[e];exact h _ (List.getElem_mem q)
 ·have e:l.getD k {data:=#[]}={data:=#[]}:=by simp[List.getD,List.getElem?_eq_none (Nat.le_of_not_lt q)]
  rw[e];exact Nat.zero_le _
theorem zkv (s:BA) (l:List BA) (h: ∀x∈l,x.size<=s.size) (k:Nat):(zcs l k).size<=k*(s.size+1):=by
 induction k with
 |zero=>exact Nat.zero_le _
 |succ k q=>
  have:=zku s l h k;rw[zcs,ByteArray.size_append,ByteArray.size_append,Nat.succ_mul];have e:({data:=#[47]}:BA).size=1:=rfl;omega
def zbl (w:World) (base:Nat) (e:TypeId) (g n cap:Nat) (xs:List BA):Prop:=w.ownsRow base e 1 (.slice (some ⟨g,0,none⟩) n cap) n (xs.map Value.string)/\n=xs.length
theorem zg9 {w:World} {base g n q:Nat} {e:TypeId} {xs:List BA} (h:zbl w base e g n q xs):n=xs.length:=h.2
theorem zhW {w:World} {base g n q:Nat} {e:TypeId} {xs:List BA} (h:zbl w base e g n q xs):n<=q/\q<=9223372036854775807/\base<=g:=by
 rcases h.1.2 with ⟨z,_⟩|⟨L,A,H,z,J,_,K,I,_⟩
 ·simp at z
 ·simp only[Value.slice.injEq,Option.some.injEq,Addr.mk.injEq,and_true,true_and] at z;obtain⟨rfl,rfl⟩:=z;unfold maxLen at I;exact⟨K,by omega,J⟩
theorem zhX {w:World} {base g n q:Nat} {e:TypeId} {xs:List BA} (h:zbl w base e g n q xs) (j:Nat) (z:j<n):w.cell? ⟨g,j,none⟩=some (.string (xs.getD j {data:=#[]})):=by
 have A:=h.2;rw[h.1.cellAt j (by omega)];simp[List.getD,List.getElem?_eq_getElem (show j<xs.length by omega)]
theorem zkw {w:World} {base g n q:Nat} {e:TypeId} {xs:List BA} (h:zbl w base e g (n+1) q xs):zbl w base e g n q xs.dropLast:=by
 obtain⟨⟨K,U⟩,V⟩:=h;rw[List.length_map] at K;refine⟨⟨by rw[List.length_map,List.length_dropLast];omega,?_⟩,by rw[List.length_dropLast];omega⟩;rcases U with ⟨H,_⟩|⟨X,I,z,H,N,O,L,J,A,M⟩
 ·simp at H
 ·simp only[Value.slice.injEq,Option.some.injEq,Addr.mk.injEq,and_true,true_and] at H;obtain⟨rfl,rfl⟩:=H;refine .inr ⟨g,q,z,rfl,N,O,by omega,J,A,?_⟩;rw[List.map_dropLast,<-M,List.dropLast_eq_take,List.length_take,List.take_take];congr 1;have:z.toList.length=q:=by rw[Array.length_toList,A,Nat.mul_one]
  omega
theorem zgA {P:Program} (w:World) {K:Array Oper} {rest:List Oper} {o:Oper} {a:Act} {Q:Exit->Act->World->Prop} (N:o.guard=none) (s x:Operand) (t:TypeId)
  (ho:o.op= .call {callee:=.builtin .append,args:=#[s,x],argTypes:=#[t,t]})
  (base:Nat) (e:TypeId) (i:TypeInfo) (z:Value) (ht:P.underlying t=some (.slice e)) (hi:P.info? e=some i) (hz:i.zero=some z) (H:i.size=1) (O:i.bytes=16) (U:z.cells.size=1)
  (g n J:Nat) (xs:List BA) (hs:a.eval s= .slice (some ⟨g,0,none⟩) n J) (A:zbl w base e g n J xs)
  (b:BA) (hx:a.eval x= .slice (some ⟨w.heap.size,0,none⟩) 1 1) (hn:n+1<=100000000) (I:base<=w.heap.size)
  (h: ∀L q w',zbl w' base e L (n+1) q (xs++[b])->Below base w w'->wpList P K Q rest (a.put o.dst (.slice (some ⟨L,0,none⟩) (n+1) q)) w'):
  wpList P K Q (o::rest) a (w.alloc (.cells #[.string b] e)):=by
 refine wpList_append_own _ N s x t ho base e i z 1 16 ht hi hz H O U (by decide) _ n _ hs (A.1.alloc _) ⟨w.heap.size,0,none⟩ 1 1 [.string b] hx rfl ?_ ?_ ?_ ?_ ?_ ?_
 ·intro j u M
  match j,M with
  |0,M=>
   simp at M;subst M;simp[Addr.add]
 ·intro u Y;simp at Y;subst Y;rfl
 ·unfold maxLen;omega
 ·omega
 ·simp;omega
 ·intro v' w' X Z h3;have hb:Below base w w':=((Below.refl base w).alloc I _).grown Z (by simp;omega) (zhy A.1);rcases X.2 with ⟨hv,_⟩|⟨L,q,aa,rfl,V⟩
  ·have:=(h3.1 hv).1;simp at this
  ·refine h L q w' ⟨?_,by rw[List.length_append];have:=A.2;simp;omega⟩ hb;rw[List.map_append];exact X
def zxd (a s:BA):Bool:=decide (a.size<=s.size)&&((s.extract 0 a.size).toList==a.toList)
structure FilesAt (w:World) (a:Option Addr) (b off len:Nat) (Pt Tx:Nat->BA):Prop where
 addr:0<len->a=some ⟨b,off,none⟩
 lt:0<len->b<w.heap.size
 path: ∀j,j<len->w.cell? ⟨b,off+j*2,none⟩=some (.string (Pt j))
 text: ∀j,j<len->w.cell? ⟨b,off+j*2+1,none⟩=some (.string (Tx j))
theorem FilesAt.later {w w':World} {a:Option Addr} {b q z:Nat} {I J:Nat->BA} (h:FilesAt w a b q z I J) (H:Below w.heap.size w w'):FilesAt w' a b q z I J:=
 ⟨h.addr,fun k=>Nat.lt_of_lt_of_le (h.lt k) H.size,fun j A=>by rw[H.cell (h.lt (by omega))];exact h.path j A,fun j A=>by rw[H.cell (h.lt (by omega))];exact h.text j A⟩
def OwnF (w:World) (base:Nat) (e:TypeId) (g len k:Nat) (Pt Tx:Nat->BA):Prop:=
 ∃xs,w.ownsRow base e 2 (.slice (some ⟨g,0,none⟩) len len) len xs/\∀j,j<k->xs[j*2]? =some (.string (Pt j))/\xs[j*2+1]? =some (.string (Tx j))
theorem OwnF.has {w:World} {base g q k:Nat} {e:TypeId} {H I:Nat->BA} (h:OwnF w base e g q k H I) (j:Nat) (A:j<q*2): ∃v,w.cell? ⟨g,j,none⟩=some v:=by
 obtain⟨K,z,_⟩:=h;have J:=z.1;rw[z.cellAt j A];exact⟨_,List.getElem?_eq_getElem (by omega)⟩
theorem OwnF.free {w:World} {base g q k:Nat} {e:TypeId} {H z:Nat->BA} (h:OwnF w base e g q k H z) (j:Nat):w.frozen? ⟨g,j,none⟩=false:=by
 obtain⟨I,A,_⟩:=h;exact A.frozenAt j
theorem OwnF.lt {w:World} {base g z k:Nat} {e:TypeId} {I M:Nat->BA} (h:OwnF w base e g z k I M):g<w.heap.size/\base<=g:=by
 obtain⟨N,J,_⟩:=h;rcases J.2 with ⟨q,_⟩|⟨O,A,H,q,K,L,_⟩
 ·simp at q
 ·simp only[Value.slice.injEq,Option.some.injEq,Addr.mk.injEq,and_true,true_and] at q;obtain⟨rfl,rfl⟩:=q;exact⟨(aLt L),K⟩
theorem OwnF.files {w:World} {base g q:Nat} {e:TypeId} {I K:Nat->BA} (h:OwnF w base e g q q I K):FilesAt w (some ⟨g,0,none⟩) g 0 q I K:=by
 have z:=h.lt.1;obtain⟨L,J,H⟩:=h;refine⟨fun _=>rfl,fun _=>z,fun j A=>?_,fun j A=>?_⟩
 ·rw[Nat.zero_add,J.cellAt _ (by omega)];exact (H j A).1
 ·rw[Nat.zero_add,J.cellAt _ (by omega)];exact (H j A).2
theorem OwnF.later {w w':World} {base g z k:Nat} {e:TypeId} {J M:Nat->BA} (h:OwnF w base e g z k J M) (V:Below w.heap.size w w'):OwnF w' base e g z k J M:=by
 have H:=h.lt.1;obtain⟨U,K,N⟩:=h;refine⟨U,⟨K.1,?_⟩,N⟩;rcases K.2 with k|⟨Y,L,A,I,q,X,O⟩
 ·exact .inl k
 ·simp only[Value.slice.injEq,Option.some.injEq,Addr.mk.injEq,and_true,true_and] at I;obtain⟨rfl,rfl⟩:=I;exact .inr ⟨g,z,A,rfl,q,(V.block g H).trans X,O⟩
def fpB (p:BA):Bool:=zaU p&& !(p.toList==[47])&&((zaK p).toList==p.toList)
def zkx (p t:BA):Bool:=fpB p&&decide ((t.size:Int)<=1500)
abbrev zpG (len:Nat) (Pt Tx:Nat->BA):Prop:=len<=8/\∀k,k<len->zkx (Pt k) (Tx k)=true/\(0<k->Op.bytesLess (Pt (k-1)).toList (Pt k).toList=true)
def zpH (len:Nat) (Pt Tx:Nat->BA):Bool:=decide (zpG len Pt Tx)
abbrev zxe (k:Nat) (Pt Tx:Nat->BA):Prop:=∀j,j<k->zkx (Pt j) (Tx j)=true/\(0<j->Op.bytesLess (Pt (j-1)).toList (Pt j).toList=true)
theorem zpI {p:BA} (q:p.toList.isEmpty=false) (h:((zaK p).toList==p.toList)=true):zaU p=true:=by
 cases w:zaU p with
 |true=>rfl
 |false=>
  rw[zhT w] at h;have e:=(zdY _ _).1 h;rw[<-e,Lib.toList_data] at q;cases q
def zhY (Pt Tx:Nat->BA) (q:BA):Nat->BA×Bool
 |0=>({data:=#[]},false)
 |k+1=>if (zhY Pt Tx q k).2=true then zhY Pt Tx q k else if Pt k=q then (Tx k,true) else ({data:=#[]},false)
def zxf (len:Nat) (Pt Tx:Nat->BA) (q:BA):BA×Bool:=if zpH len Pt Tx=true then zhY Pt Tx q len else ({data:=#[]},false)
end Go.Proofs.YtgcbmogmniahjaaGreat
