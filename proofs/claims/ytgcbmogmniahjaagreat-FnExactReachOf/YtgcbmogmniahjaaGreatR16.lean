/- Facts and walks. -/
import Derived.Deep.Cut
import Derived.Test.YtgcbmogmniahjaaGreatR15
namespace Go.Proofs.YtgcbmogmniahjaaGreat
open Nat (le_refl zero_le zero_add)
open List (map_cons mem_append getElem?_eq_getElem getElem_mem length_append mem_cons_self mem_cons_of_mem mem_map_of_mem length_map pairwise_map getElem?_set replicate any_eq_true)
open Go.RowKit Go.PlainAid Go.Sort
theorem zeX (l:List BA):l.map Value.string=l.flatMap (fun x=>[Value.string x]):=by
 induction l with
 |nil=>rfl
 |cons x l h=>rw[map_cons,List.flatMap_cons,h];rfl
def TwoM (w0:World) (b1 b2:Nat) (S1 S2:Sv) (m1 m2:Md) (w:World):Prop:=
 w.heap[w0.heap.size]? =some (.cells #[.slice S1.rq.a m1.rq.length S1.rq.cap,.slice S1.im.a m1.im.length S1.im.cap,.slice S1.ep.a m1.ep.length S1.ep.cap,.slice S1.st.a m1.st.length S1.st.cap,.slice S1.ex.a m1.ex.length S1.ex.cap] 54 (0,0))/\w.heap[w0.heap.size+1]? =some (.cells #[.slice S2.rq.a m2.rq.length S2.rq.cap,.slice S2.im.a m2.im.length S2.im.cap,.slice S2.ep.a m2.ep.length S2.ep.cap,.slice S2.st.a m2.st.length S2.st.cap,.slice S2.ex.a m2.ex.length S2.ex.cap] 54 (0,0))/\OwnMd w b1 S1 m1/\OwnMd w b2 S2 m2/\Bw w0 w
theorem TwoM.later {w0 w D:World} {A b2:Nat} {H z:Sv} {I E:Md} (h:TwoM w0 A b2 H z I E w) (q:Bw w D):TwoM w0 A b2 H z I E D:=
 ⟨(q.block _ (aLt h.1)).trans h.1,(q.block _ (aLt h.2.1)).trans h.2.1,h.2.2.1.later q,h.2.2.2.1.later q,h.2.2.2.2.trans (q.mono h.2.2.2.2.size)⟩
theorem zhQ (w:World) (H b2:Nat) (h q:Sv) (z A:Md) (J:OwnMd w H h z) (I:OwnMd w b2 q A):TwoM w H b2 h q z A ((w.alloc (.cells #[.slice h.rq.a z.rq.length h.rq.cap,.slice h.im.a z.im.length h.im.cap,.slice h.ep.a z.ep.length h.ep.cap,.slice h.st.a z.st.length h.st.cap,.slice h.ex.a z.ex.length h.ex.cap] 54)).alloc (.cells #[.slice q.rq.a A.rq.length q.rq.cap,.slice q.im.a A.im.length q.im.cap,.slice q.ep.a A.ep.length q.ep.cap,.slice q.st.a A.st.length q.st.cap,.slice q.ex.a A.ex.length q.ex.cap] 54)):=by
 have E:Bw w (w.alloc (.cells #[.slice h.rq.a z.rq.length h.rq.cap,.slice h.im.a z.im.length h.im.cap,.slice h.ep.a z.ep.length h.ep.cap,.slice h.st.a z.st.length h.st.cap,.slice h.ex.a z.ex.length h.ex.cap] 54)):=bA0;have D:Below (w.alloc (.cells #[.slice h.rq.a z.rq.length h.rq.cap,.slice h.im.a z.im.length h.im.cap,.slice h.ep.a z.ep.length h.ep.cap,.slice h.st.a z.st.length h.st.cap,.slice h.ex.a z.ex.length h.ex.cap] 54)).heap.size (w.alloc (.cells #[.slice h.rq.a z.rq.length h.rq.cap,.slice h.im.a z.im.length h.im.cap,.slice h.ep.a z.ep.length h.ep.cap,.slice h.st.a z.st.length h.st.cap,.slice h.ex.a z.ex.length h.ex.cap] 54)) ((w.alloc (.cells #[.slice h.rq.a z.rq.length h.rq.cap,.slice h.im.a z.im.length h.im.cap,.slice h.ep.a z.ep.length h.ep.cap,.slice h.st.a z.st.length h.st.cap,.slice h.ex.a z.ex.length h.ex.cap] 54)).alloc (.cells #[.slice q.rq.a A.rq.length q.rq.cap,.slice q.im.a A.im.length q.im.cap,.slice q.ep.a A.ep.length q.ep.cap,.slice q.st.a A.st.length q.st.cap,.slice q.ex.a A.ex.length q.ex.cap] 54)):=bA0;refine⟨(D.block _ (by rw[zg];omega)).trans (heap_alloc_new w _),?_,(J.later E).later D,(I.later E).later D,E.trans (D.mono (by rw[zg];omega))⟩;have:=heap_alloc_new (w.alloc (.cells #[.slice h.rq.a z.rq.length h.rq.cap,.slice h.im.a z.im.length h.im.cap,.slice h.ep.a z.ep.length h.ep.cap,.slice h.st.a z.st.length h.st.cap,.slice h.ex.a z.ex.length h.ex.cap] 54)) (.cells #[.slice q.rq.a A.rq.length q.rq.cap,.slice q.im.a A.im.length q.im.cap,.slice q.ep.a A.ep.length q.ep.cap,.slice q.st.a A.st.length q.st.cap,.slice q.ex.a A.ex.length q.ex.cap] 54);rw[zg] at this;exact this
def zdT (m:Md):Prop:=m.rq.length<=4294967296/\m.im.length<=4294967296/\m.ep.length<=4294967296/\m.st.length<=4294967296/\m.ex.length<=4294967296
theorem zke {a b:Md} (w:a.rq=b.rq) (h:a.im=b.im) (A:a.ep=b.ep) (q:a.st=b.st) (z:a.ex=b.ex):a=b:=by
 cases a;cases b;simp only at w h A q z;rw[w,h,A,q,z]
def za3 (s:BA):BA:=({data:=#[34]}:BA)++s++({data:=#[34]}:BA)
def asT (a b:BA):BA:=if a.toList==b.toList then a else a++({data:=#[32,97,115,32]}:BA)++b
def zaf (x:Im):BA:=
 if x.first.toList==[42] then ({data:=#[105,109,112,111,114,116,32,42,32,97,115,32]}:BA)++x.loc++({data:=#[32,102,114,111,109,32]}:BA)++za3 x.spec++({data:=#[59,10]}:BA)
 else if x.first.toList==[100,101,102,97,117,108,116] then ({data:=#[105,109,112,111,114,116,32]}:BA)++x.loc++({data:=#[32,102,114,111,109,32]}:BA)++za3 x.spec++({data:=#[59,10]}:BA)
 else ({data:=#[105,109,112,111,114,116,32,123,32]}:BA)++asT x.first x.loc++({data:=#[32,125,32,102,114,111,109,32]}:BA)++za3 x.spec++({data:=#[59,10]}:BA)
def zbx (x:Ep):BA:=
 if x.kind==3 then ({data:=#[101,120,112,111,114,116,32,42,32,102,114,111,109,32]}:BA)++za3 x.spec++({data:=#[59,10]}:BA)
 else if x.kind==2 then ({data:=#[101,120,112,111,114,116,32,123,32]}:BA)++asT x.loc x.name++({data:=#[32,125,32,102,114,111,109,32]}:BA)++za3 x.spec++({data:=#[59,10]}:BA)
 else ({data:=#[101,120,112,111,114,116,32,123,32]}:BA)++asT x.loc x.name++({data:=#[32,125,59,10]}:BA)
def za9 (k:Int) (n e:BA):BA:=
 if k==1 then (if n.toList==[42,100,101,102,97,117,108,116] then ({data:=#[101,120,112,111,114,116,32,100,101,102,97,117,108,116,32]}:BA)++e++({data:=#[59,10]}:BA) else ({data:=#[108,101,116,32]}:BA)++n++({data:=#[32,61,32]}:BA)++e++({data:=#[59,10]}:BA))
 else if k==2 then ({data:=#[102,117,110,99,116,105,111,110,32]}:BA)++n++({data:=#[40,41,32,123,32,114,101,116,117,114,110,32]}:BA)++e++({data:=#[59,32,125,10]}:BA)
 else if k==3 then n++({data:=#[32,61,32]}:BA)++e++({data:=#[59,10]}:BA)
 else if k==4 then ({data:=#[112,114,105,110,116,40]}:BA)++e++({data:=#[41,59,10]}:BA)
 else if k==5 then ({data:=#[116,104,114,111,119,32]}:BA)++e++({data:=#[59,10]}:BA)
 else ({data:=#[102,97,105,108,32]}:BA)++e++({data:=#[59,10]}:BA)
def zdy (k:Int) (n e:BA):BA:=if n.toList==[42,100,101,102,97,117,108,116] then ({data:=#[101,120,112,111,114,116,32,100,101,102,97,117,108,116,32]}:BA)++e++({data:=#[59,10]}:BA) else za9 k n e
def rqT (s:BA):BA:=({data:=#[105,109,112,111,114,116,32]}:BA)++za3 s++({data:=#[59,10]}:BA)
def acc {α:Type} (f:α->BA) (l:List α) (t:BA):BA:=l.foldl (fun t x=>t++f x) t
theorem zc6 {α:Type} (f:α->BA) {l:List α} {j:Nat} {x:α} (h:l[j]? =some x) (t:BA):acc f (l.take (j+1)) t=acc f (l.take j) t++f x:=by
 obtain⟨q,rfl⟩:=List.getElem?_eq_some_iff.1 h;rw[List.take_succ_eq_append_getElem q,acc,List.foldl_append];rfl
theorem zew {α:Type} (f:α->BA) (l:List α): ∀t:BA,t.size<=(acc f l t).size:=by
 induction l with
 |nil=>intro t;exact le_refl _
 |cons x l h=>
  intro t;refine Nat.le_trans ?_ (h (t++f x));rw[ByteArray.size_append];omega
theorem zp1 {α:Type} (f:α->BA) (a b:List α) (t:BA):acc f (a++b) t=acc f b (acc f a t):=by rw[acc,List.foldl_append];rfl
theorem zdU {α:Type} (f:α->BA) (l:List α) (j:Nat) (t:BA):(acc f (l.take j) t).size<=(acc f l t).size:=by
 have:acc f l t=acc f (l.drop j) (acc f (l.take j) t):=by rw[<-zp1,List.take_append_drop]
 rw[this];exact zew f _ _
def epF (x:Ep):BA:=if x.loc.toList==[42,100,101,102,97,117,108,116] then sNone else zbx x
def stF (ex:List Ex) (s:Sm):BA:=za9 s.kind s.name (prX ex s.expr.toNat)
def zcK (ex:List Ex) (s:Sm):BA:=zdy s.kind s.name (prX ex s.expr.toNat)
def zcm (m:Md):BA:=acc epF m.ep (acc zaf m.im (acc rqT m.rq sNone))
def zcn (m:Md):BA:=acc (stF m.ex) m.st (zcm m)
def zbO (m:Md):BA:=acc (zcK m.ex) m.st (zcm m)
def PrintOut (T:BA) (m:Md) (e:Ending):Prop:=(Tree m/\e= .returned (.string T))∨(¬Tree m/\e= .returned (.string sNone))
structure Small (m:Md):Prop where
 rq: ∀x∈m.rq,x.size<=4294967296
 im: ∀x∈m.im,x.spec.size<=4294967296/\x.first.size<=4294967296/\x.loc.size<=4294967296
 ep: ∀x∈m.ep,x.spec.size<=4294967296/\x.name.size<=4294967296/\x.loc.size<=4294967296
 st: ∀x∈m.st,x.name.size<=4294967296
 nums:zaY m.ex
 few:m.rq.length<=4294967296/\m.im.length<=4294967296/\m.ep.length<=4294967296/\m.st.length<=4294967296/\m.ex.length<=4294967296
abbrev dN:List UInt8:=[42,100,101,102,97,117,108,116]
def zbU (s:Sm):Bool:=(s.kind==1||s.kind==2)&& !(s.name.toList==dN)
def stN (l:List Sm):List BA:=(l.filter zbU).map (·.name)
def imN (l:List Im):List BA:=l.map (·.loc)
def zbP (m:Md):List BA:=stN m.st++imN m.im
def KG {α:Type} (R:PS->PS->Prop) (p:α->PS) (x:Except Nat α) (q:PS):Prop:=∀a,x= .ok a->R q (p a)
def zkf (C:Cx) (k:Int) (n:BA):Prop:=n=sNone∨k=1∨∃i o,zJ C i o=true/\n=(ze C i).text
def zfH (x:Ep):Prop:=x.kind=1->x.spec=sNone
structure Kept (C:Cx) (R:PS->PS->Prop):Prop where
 rfl': ∀q,R q q
 tr: ∀{a b c},R a b->R b c->R a c
 adv: ∀q,R q (adv q)
 ex: ∀x q,KG R id (zT C x q) q
 im: ∀x q,KG R id (zap C x q) q
 ep: ∀x q,zfH x->KG R id (zq C x q) q
 sp: ∀q,KG R Prod.fst (zM C q) q
 st: ∀k n q,zkf C k n->KG R id (zaa C k n q) q
theorem KG.bd {C:Cx} {R:PS->PS->Prop} {α β:Type} (H:Kept C R) {p:α->PS} {r:β->PS} {x:Except Nat α} {f:α->Except Nat β} {q:PS} (h:KG R p x q) (k: ∀a,x= .ok a->KG R r (f a) (p a)):KG R r (bd x f) q:=by
 intro b A;obtain⟨a,w,z⟩:=zn A;exact H.tr (h a w) (k a w b z)
theorem KG.after {C:Cx} {R:PS->PS->Prop} (H:Kept C R) {α:Type} {r:α->PS} {y:Except Nat α} {q q':PS} (h:R q q') (k:KG R r y q'):KG R r y q:=fun b w=>H.tr h (k b w)
theorem KG.ok {C:Cx} {R:PS->PS->Prop} (H:Kept C R) {α:Type} {p:α->PS} {a:α}:KG R p (.ok a) (p a):=fun b h=>by cases h;exact H.rfl' _
theorem KG.err {R:PS->PS->Prop} {α:Type} {p:α->PS} {e:Nat} {q:PS}:KG R p (.error e) q:=fun b h=>by cases h
theorem zay {C:Cx} {R:PS->PS->Prop} (H:Kept C R) (k:Int) (x:BA) (q:PS):KG R id (zd C k x q) q:=fun a h=>by obtain⟨rfl,_⟩:=zcb h;exact H.adv q
theorem zdH {C:Cx} {R:PS->PS->Prop} (H:Kept C R) (o:Bool) (q:PS):KG R Prod.fst (zm C o q) q:=fun a h=>by obtain⟨rfl,_⟩:=zb6 h;exact H.adv q
theorem zkg {C:Cx} {R:PS->PS->Prop} (H:Kept C R) (n:BA) (q:PS):KG R id (zbK C n q) q:=by
 unfold zbK
 split
 ·exact .bd H (.bd H (zay H _ _ _) fun _ _=>zay H _ _ _) fun _ _=>H.ex _ _
 ·exact H.ex _ _
theorem zp2 {C:Cx} {R:PS->PS->Prop} (H:Kept C R) (n f:BA) (q:PS):KG R id (zca C n f q) q:=by
 unfold zca
 split
 ·exact .bd H (.bd H (zay H _ _ _) fun _ _=>zay H _ _ _) fun _ _=>H.ex _ _
 ·exact H.ex _ _
theorem zp3 {C:Cx} {R:PS->PS->Prop} (H:Kept C R) (f:Nat): ∀(w:NT) (d:Nat) (q:PS),KG R id (ev C f w d q) q:=by
 induction f with
 |zero=>intro w d q;cases w using NT.elim<;>exact .err
 |succ f h=>
  intro w d q;cases w using NT.elim<;>rw[ev]
  ·exact .bd H (h _ _ _) fun _ _=>h _ _ _
  ·split
   ·exact .bd H (.bd H (.after H (H.adv q) (h _ _ _)) fun _ _=>H.ex _ _) fun _ _=>h _ _ _
   ·exact .ok (p:=id) H
  ·exact .bd H (h _ _ _) fun _ _=>h _ _ _
  ·split
   ·exact .bd H (.bd H (.after H (H.adv q) (h _ _ _)) fun _ _=>H.ex _ _) fun _ _=>h _ _ _
   ·exact .ok (p:=id) H
  ·split
   ·exact .after H (H.adv q) (H.ex _ _)
   ·split
    ·split
     ·exact .err
     ·exact .bd H (.after H (H.adv q) (h _ _ _)) fun _ _=>zay H _ _ _
    ·split
     ·exact .after H (H.adv q) (zkg H _ _)
     ·refine .bd H (zdH H _ _) fun a _=>?_
      split
      ·exact .bd H (.after H (H.adv _) (zdH H _ _)) fun _ _=>zp2 H _ _ _
      ·exact zkg H _ _
theorem zeY {C:Cx} {R:PS->PS->Prop} (H:Kept C R) (h:NT) (d:Nat) (q:PS):KG R id (pE C h d q) q:=zp3 H _ _ _ _
theorem zkh {C:Cx} {R:PS->PS->Prop} (H:Kept C R) {y:PRN} {F:PR->BA->PR} {q:PS} (h:KG R Prod.fst y q) (k: ∀a,y= .ok a->KG R id (F (.ok a.1) a.2) a.1):KG R Prod.fst (withN y F) q:=
 .bd H h fun a w=>.bd (r:=Prod.fst) H (k a w) fun b _=>.ok (p:=Prod.fst) (a:=(b,a.2)) H
theorem zki {C:Cx} {R:PS->PS->Prop} (H:Kept C R) (q:PS):KG R Prod.fst (zcT C q) q:=
 zkh H (.bd H (zay H _ _ _) fun _ _=>zdH H _ _) fun _ _=>.bd H (.bd H (.bd H (.bd (p:=id) H (.ok (p:=id) H) fun _ _=>zay H _ _ _) fun _ _=>zeY H _ _ _) fun _ _=>zay H _ _ _) fun _ _=>H.st _ _ _ (.inr (.inl rfl))
theorem zkj {C:Cx} {k:Int} {o:Bool} {q:PS} {a:PS×BA} (h:zm C o q= .ok a):zkf C k a.2:=by
 obtain⟨rfl,w⟩:=zb6 h;exact .inr (.inr ⟨_,_,w,rfl⟩)
theorem zkk {C:Cx} {R:PS->PS->Prop} (H:Kept C R) (q:PS):KG R Prod.fst (fnP C q) q:=
 zkh H (.bd H (zay H _ _ _) fun _ _=>zdH H _ _) fun a h=>.bd H (.bd H (.bd H (.bd H (.bd H (.bd H (.bd H (.bd (p:=id) H (.ok (p:=id) H) fun _ _=>zay H _ _ _) fun _ _=>zay H _ _ _) fun _ _=>zay H _ _ _) fun _ _=>zay H _ _ _) fun _ _=>zeY H _ _ _) fun _ _=>zay H _ _ _) fun _ _=>zay H _ _ _) fun _ _=>H.st _ _ _ (by
  obtain⟨b,_,w⟩:=zn h
  exact zkj w)
theorem zp4 {C:Cx} {R:PS->PS->Prop} (H:Kept C R) (e:Bool) (a:PS×BA):KG R Prod.fst (asP C e a) a.1:=by
 unfold asP
 split
 ·exact .after H (H.adv _) (zdH H _ _)
 ·split
  ·exact .err
  ·exact .ok (p:=Prod.fst) H
theorem zp5 {C:Cx} {R:PS->PS->Prop} (H:Kept C R) (e:Bool) (f:Nat): ∀(q:PS) (acc:List Ep),KG R Prod.fst (zdB C e f q acc) q:=by
 induction f with
 |zero=>intro q acc;exact .err
 |succ f h=>
  intro q acc;rw[zdB];refine .bd H (zdH H _ _) fun a _=>.bd H (zp4 H _ _) fun b _=>?_
  split
  ·exact .after H (H.adv _) (h _ _)
  ·exact .bd (r:=Prod.fst) H (zay H _ _ _) fun c _=>.ok (p:=Prod.fst) (a:=(c,_)) H
theorem zkl {C:Cx} {R:PS->PS->Prop} (H:Kept C R) (e:Bool) (q:PS):KG R Prod.fst (zdm C e q) q:=.bd H (zay H _ _ _) fun _ _=>zp5 H _ _ _ _
theorem zfI {C:Cx} {R:PS->PS->Prop} (H:Kept C R) {x:PR} {q:PS} (h:KG R id x q):KG R Prod.fst (zbl C (zaN C x)) q:=
 .bd H (.bd H (.bd H h fun _ _=>zay H _ _ _) fun _ _=>H.sp _) fun a _=>.bd (r:=Prod.fst) H (zay H _ _ _) fun c _=>.ok (p:=Prod.fst) (a:=(c,a.2)) H
theorem zhR {C:Cx} {R:PS->PS->Prop} (H:Kept C R) {α:Type} {f:α->PS->PR} (z: ∀a q,KG R id (f a q) q) (l:List α): ∀(x:PR) (q:PS),KG R id x q->KG R id (zab f l x) q:=by
 induction l with
 |nil=>intro x q h;exact h
 |cons a l w=>intro x q h;exact w _ _ (.bd H h fun _ _=>z _ _)
theorem zp6 {C:Cx} {R:PS->PS->Prop} (H:Kept C R) (q:PS):KG R id (zbe C q) q:=by
 refine .bd H (zay H _ _ _) fun h _=>?_
 split
 ·exact .bd H (zkl H _ _) fun a _=>.bd H (zfI H (.ok (p:=id) H)) fun b _=>zhR H (fun _ _=>H.im _ _) _ _ _ (.ok (p:=id) H)
 ·split
  ·exact .bd H (.bd H (.bd H (zay H _ _ _) fun _ _=>zay H _ _ _) fun _ _=>zdH H _ _) fun a _=>.bd H (zfI H (.ok (p:=id) H)) fun _ _=>H.im _ _
  ·split
   ·exact .bd H (zdH H _ _) fun a _=>.bd H (zfI H (.ok (p:=id) H)) fun _ _=>H.im _ _
   ·exact .bd H (H.sp _) fun _ _=>zay H _ _ _
theorem zp7 {C:Cx} {R:PS->PS->Prop} (H:Kept C R) (q:PS):KG R id (zaq C q) q:=by
 refine .bd H (zay H _ _ _) fun w _=>?_
 split
 ·refine .bd H (zkl H _ _) fun a _=>?_
  split
  ·exact .bd H (zay H _ _ _) fun _ _=>zhR H (fun _ _=>H.ep _ _ (by first|exact fun _=>rfl|exact fun h=>absurd (show (2:Int)=1 from h) (by decide)|exact fun h=>absurd (show (3:Int)=1 from h) (by decide))) _ _ _ (.ok (p:=id) H)
  ·exact .bd H (zfI H (.ok (p:=id) H)) fun _ _=>zhR H (fun _ _=>H.ep _ _ (by first|exact fun _=>rfl|exact fun h=>absurd (show (2:Int)=1 from h) (by decide)|exact fun h=>absurd (show (3:Int)=1 from h) (by decide))) _ _ _ (.ok (p:=id) H)
 ·split
  ·exact .bd H (zfI H (zay H _ _ _)) fun _ _=>H.ep _ _ (by first|exact fun _=>rfl|exact fun h=>absurd (show (2:Int)=1 from h) (by decide)|exact fun h=>absurd (show (3:Int)=1 from h) (by decide))
  ·split
   ·exact .bd H (.bd H (.bd H (.bd H (zay H _ _ _) fun _ _=>zeY H _ _ _) fun _ _=>zay H _ _ _) fun _ _=>H.st _ _ _ (.inr (.inl rfl))) fun _ _=>H.ep _ _ (by first|exact fun _=>rfl|exact fun h=>absurd (show (2:Int)=1 from h) (by decide)|exact fun h=>absurd (show (3:Int)=1 from h) (by decide))
   ·split
    ·exact .bd H (zki H _) fun _ _=>H.ep _ _ (by first|exact fun _=>rfl|exact fun h=>absurd (show (2:Int)=1 from h) (by decide)|exact fun h=>absurd (show (3:Int)=1 from h) (by decide))
    ·split
     ·exact .bd H (zkk H _) fun _ _=>H.ep _ _ (by first|exact fun _=>rfl|exact fun h=>absurd (show (2:Int)=1 from h) (by decide)|exact fun h=>absurd (show (3:Int)=1 from h) (by decide))
     ·exact .err
theorem zkm {C:Cx} {R:PS->PS->Prop} (H:Kept C R) (s:BA) (k:Int) (q:PS):KG R id (bd (bd (bd (zd C 1 s q) (pE C .sum 0)) (zd C 4 cSemi)) (zaa C k sNone)) q:=
 .bd H (.bd H (.bd H (zay H _ _ _) fun _ _=>zeY H _ _ _) fun _ _=>zay H _ _ _) fun _ _=>H.st _ _ _ (.inl rfl)
theorem zp8 {C:Cx} {R:PS->PS->Prop} (H:Kept C R) (q:PS):KG R id (zC C q) q:=by
 unfold zC
 split
 ·exact zp6 H q
 ·split
  ·exact zp7 H q
  ·split
   ·exact .bd H (zki H q) fun a _=>.ok (p:=id) H
   ·split
    ·exact .bd H (zkk H q) fun a _=>.ok (p:=id) H
    ·split
     ·exact .bd H (.bd H (.bd H (.bd H (.bd H (zay H _ _ _) fun _ _=>zay H _ _ _) fun _ _=>zeY H _ _ _) fun _ _=>zay H _ _ _) fun _ _=>zay H _ _ _) fun _ _=>H.st _ _ _ (.inl rfl)
     ·split
      ·exact zkm H _ _ _
      ·split
       ·exact zkm H _ _ _
       ·exact .bd H (zdH H _ _) fun a h=>.bd H (.bd H (.bd H (zay H _ _ _) fun _ _=>zeY H _ _ _) fun _ _=>zay H _ _ _) fun _ _=>H.st _ _ _ (zkj h)
theorem zp9 {C:Cx} {R:PS->PS->Prop} (H:Kept C R) (f:Nat): ∀q,KG R id (zdC C f q) q:=by
 induction f with
 |zero=>intro q;exact .err
 |succ f h=>
  intro q;rw[zdC]
  split
  ·exact .bd H (zp8 H q) fun _ _=>h _
  ·exact .ok (p:=id) H
theorem zg9 {R:PS->PS->Prop} {s:BA} {w:Bool} {q:PS} (h:zbA s w (.ok q)) (H: ∀z,zal s w (.ok z)->Kept ⟨z,s.size,w⟩ R):R zcd q:=by
 obtain⟨r,A,e⟩:=h;cases r with
 |error p=>cases e
 |ok z=>exact zp9 (H z A) _ zcd q e.symm
theorem zpA {l:List BA} {x:BA} (h: ¬zaU l x=true):x∉l:=fun q=>h (List.any_eq_true.2 ⟨x,q,beq_self_eq_true _⟩)
theorem zpB {s:BA} {z:Bool} {q:PS} (h:zbA s z (.ok q)):q.rq.Nodup:=by
 refine zg9 (R:=fun a b=>a.rq.Nodup->b.rq.Nodup) h (fun H _=>?_) List.nodup_nil;refine⟨fun _ h=>h,fun h k x=>k (h x),fun _ h=>h,?_,?_,?_,?_,?_⟩
 ·intro x q a h w;obtain⟨rfl,_⟩:=zb7 h;exact w
 ·intro x q a h w;unfold zap at h
  split at h<;>cases h
  exact w
 ·intro x q _ a h w;unfold zq at h
  split at h
  ·cases h
  ·split at h<;>cases h<;>exact w
 ·intro q a h w;unfold zM at h
  split at h
  ·split at h
   ·cases h;exact w
   ·next D=>
    split at h<;>cases h
    show (q.rq++[_]).Nodup;rw[List.nodup_append];refine⟨w,by simp,fun a A b E e=>zpA D ?_⟩;rw[List.mem_singleton.1 E] at e;exact e▸A
  ·cases h
 ·intro k n q _ a h w;unfold zaa at h
  split at h<;>cases h
  exact w
theorem zpC {s:BA} {D:Bool} {q:PS} (h:zbA s D (.ok q)): ∀x∈q.ep++q.la,zfH x:=by
 refine zg9 (R:=fun a b=>(∀x∈a.ep++a.la,zfH x)->∀x∈b.ep++b.la,zfH x) h (fun E _=>?_) (fun x A=>by cases A);refine⟨fun _ h=>h,fun h k x=>k (h x),fun _ h=>h,?_,?_,?_,?_,?_⟩
 ·intro x q a h w;obtain⟨rfl,_⟩:=zb7 h;exact w
 ·intro x q a h w;unfold zap at h
  split at h<;>cases h
  exact w
 ·intro x q A a h w;unfold zq at h
  split at h
  ·cases h
  ·split at h<;>cases h
   all_goals
    intro y z;simp only[id,mem_append,List.mem_singleton] at z w;rcases z with z|z
    ·first
     |exact w y (.inl z)
     |(rcases z with z|rfl
       ·exact w y (.inl z)
       ·exact A)
    ·first
     |exact w y (.inr z)
     |(rcases z with z|rfl
       ·exact w y (.inr z)
       ·exact A)
 ·intro q a h w;unfold zM at h
  split at h
  ·split at h
   ·cases h;exact w
   ·split at h<;>cases h
    exact w
  ·cases h
 ·intro k n q _ a h w;unfold zaa at h
  split at h<;>cases h
  exact w
def zcL (st:List Sm):Prop:=∀s∈st,s.name.toList=dN->s.kind=1
def zkn (ts:List Tk):Prop:=∀t∈ts,t.kind=1->t.text.toList≠dN
theorem zpD {s:BA} {q:Bool} {a e:Nat} {t:Tk} (w:a<s.size) (h:Tok s q a t e):t.kind=1->t.text.toList≠dN:=by
 have H:=(zeI w h).1;have D:=(zeI w h).2.1;cases h using Tok.elim with
 |name z _=>
  intro _ k;have A:bt (s.extract a e) 0=42:=by
   rw[zd8,<-Lib.toList_data,k];rfl
  have E:bt (s.extract a e) 0=bt s a:=by
   rw[zd8,zd8,ByteArray.data_extract];simp only[List.getD,List.getElem?_map,Array.getElem?_toList,Array.getElem?_extract];rw[if_pos (by have:s.data.size=s.size:=rfl;omega),Nat.add_zero]
  rw[<-E,A] at z;cases q<;>revert z<;>decide
 |num _ _=>intro k;cases k
 |str _ _=>intro k;cases k
 |sign _=>intro k;cases k
theorem zpE {s:BA} {w:Bool} {a n:Nat} {r:Except Nat (List Tk)} (h:Lx s w a n r): ∀q,r= .ok q->zkn q:=by
 induction h using Lx.ind with
 |done=>intro q k;cases k;intro t A;cases A
 |bad _ _=>intro q k;cases k
 | @tok a n e b t r h I A H E D=>
  intro q k;cases r with
  |error p=>cases k
  |ok l=>
   cases k;intro u z;rcases List.mem_cons.1 z with rfl|z
   ·exact zpD h A
   ·exact D l rfl u z
theorem zpF {C:Cx} (w:zkn C.ts) {i:Nat} {o:Bool} (h:zJ C i o=true):(ze C i).text.toList≠dN:=by
 have q:=zfx h;have e:ze C i=C.ts[i]:=by simp[ze,List.getD,getElem?_eq_getElem q]
 simp only[zJ,Bool.and_eq_true,beq_iff_eq] at h;rw[e] at h ⊢;exact w _ (getElem_mem q) h.1
theorem zpG {k:Int} (h:sNone.toList=dN):k=1:=by
 rw[Lib.toList_data] at h;cases h
theorem zko {s:BA} {E:Bool} {q:PS} (h:zbA s E (.ok q)):zcL q.st:=by
 refine zg9 (R:=fun a b=>zcL a.st->zcL b.st) h (fun K D=>?_) (fun s z=>by cases z);obtain⟨_,_,D⟩:=D;have J:=zpE D K rfl;refine⟨fun _ h=>h,fun h k x=>k (h x),fun _ h=>h,?_,?_,?_,?_,?_⟩
 ·intro x q a h w;obtain⟨rfl,_⟩:=zb7 h;exact w
 ·intro x q a h w;unfold zap at h
  split at h<;>cases h
  exact w
 ·intro x q _ a h w;unfold zq at h
  split at h
  ·cases h
  ·split at h<;>cases h<;>exact w
 ·intro q a h w;unfold zM at h
  split at h
  ·split at h
   ·cases h;exact w
   ·split at h<;>cases h
    exact w
  ·cases h
 ·intro k n q A a h w;unfold zaa at h
  split at h<;>cases h
  intro s z;rcases List.mem_append.1 z with z|z
  ·exact w s z
  ·rw[List.mem_singleton.1 z];intro H;rcases A with rfl|A|⟨i,o,I,rfl⟩
   ·exact zpG H
   ·exact A
   ·exact absurd H (zpF J I)
def PrOf (T:BA) (m:Md) (t:BA):Prop:=(Tree m/\t=T)∨(¬Tree m/\t=sNone)
theorem PrintOut.form {T:BA} {m:Md} {e:Ending} (h:PrintOut T m e): ∃t,PrOf T m t/\e= .returned (.string t):=by
 rcases h with ⟨q,w⟩|⟨q,w⟩
 ·exact⟨T,.inl ⟨q,rfl⟩,w⟩
 ·exact⟨sNone,.inr ⟨q,rfl⟩,w⟩
theorem PrOf.size {T t:BA} {m:Md} {n:Nat} (h:PrOf T m t) (w:Tree m->T.size<=n):t.size<=n:=by
 rcases h with ⟨q,rfl⟩|⟨_,rfl⟩
 ·exact w q
 ·exact zero_le _
def zdV (t:BA) (scr:Bool) (m:Md):Prop:=∃q,zbA t scr (.ok q)/\zeN q=m
def zgA (T:BA) (m:Md) (scr:Bool) (e:Ending):Prop:=∃t,PrOf T m t/\SameOut (zdV t scr m) e
theorem zkp {t:BA} {w:Bool} {m:Md} {p:Nat} (h:zbA t w (.error p)): ¬zdV t w m:=by
 rintro⟨q,z,_⟩;cases zjC h z
theorem zkq {t:BA} {w:Bool} {m n:Md} {q:PS} (h:zbA t w (.ok q)) (z:n=zeN q):zdV t w m↔n=m:=by
 constructor
 ·rintro⟨E,A,D⟩;cases zjC h A;rw[z];exact D
 ·intro e;exact⟨q,h,by rw[<-z];exact e⟩
theorem ParseOut.md {s:BA} {z:Bool} {w E:World} {e:Ending} (h:ParseOut s z w e E):
  (∃(q:PS) (S:Sv) (n:Md),zbA s z (.ok q)/\n=zeN q/\e= .returned (.tuple #[zl S n,.int .i64 (-1)])/\OwnMd E w.heap.size S n/\zdT n)∨∃p:Nat,zbA s z (.error p)/\e= .returned (.tuple #[.agg #[.slice none 0 0,.slice none 0 0,.slice none 0 0,.slice none 0 0,.slice none 0 0],.int .i64 p]):=by
 obtain⟨y,H,A⟩:=h;cases y with
 |ok q=>
  obtain⟨S,J,D⟩:=A;refine .inl ⟨q,S,zeN q,H,rfl,J,D.md,?_⟩;have K:=D.inv;have I:(zeN q).ep.length=q.ep.length+q.la.length:=by show (q.ep++q.la).length=_;rw[length_append]
  refine⟨?_,?_,by rw[I];omega,?_,?_⟩
  ·show q.rq.length<=_;omega
  ·show q.im.length<=_;omega
  ·show q.st.length<=_;omega
  ·show q.ex.length<=_;omega
 |error p=>exact .inr ⟨p,H,A⟩
theorem zpH {k:Int} {n e:BA} (h:n.toList=dN->k=1):zdy k n e=za9 k n e:=by
 unfold zdy
 split
 ·next q=>
  have w:=eq_of_beq q;rw[h w,za9,if_pos (by decide),if_pos q]
 ·rfl
theorem zpI {α:Type} {f g:α->BA} (l:List α): ∀t,(∀x∈l,f x=g x)->acc f l t=acc g l t:=by
 induction l with
 |nil=>intro t _;rfl
 |cons x l q=>
  intro t h;show acc f l (t++f x)=acc g l (t++g x);rw[h x (mem_cons_self ..)];exact q _ fun y w=>h y (mem_cons_of_mem _ w)
theorem zpJ {m:Md} (h:zcL m.st):zbO m=zcn m:=zpI _ _ fun s q=>zpH (h s q)
theorem zkr {m:Md} {w:Bool} {D z:BA} (K:PrOf (zcn m) m D) (E:PrOf (zbO m) m z):zdV D w m↔zdV z w m:=by
 by_cases A:zcL m.st
 ·have:D=z:=by
   rw[zpJ A] at E;rcases K with ⟨a,rfl⟩|⟨a,rfl⟩<;>rcases E with ⟨b,rfl⟩|⟨b,rfl⟩
   ·rfl
   ·exact absurd a b
   ·exact absurd b a
   ·rfl
  rw[this]
 ·have H: ∀t,¬zdV t w m:=by
   rintro t ⟨q,I,J⟩;have:=zko I;rw[<-J] at A;exact A this
  exact⟨fun h=>absurd h (H _),fun h=>absurd h (H _)⟩
def MOk (m:Md):Prop:=∃t,PrOf (zcn m) m t/\zdV t false m
theorem zks {T:BA} {m:Md} {t u:BA} (h:PrOf T m t) (k:PrOf T m u):t=u:=by
 rcases h with ⟨a,rfl⟩|⟨a,rfl⟩<;>rcases k with ⟨b,rfl⟩|⟨b,rfl⟩
 ·rfl
 ·exact absurd a b
 ·exact absurd b a
 ·rfl
theorem zpK {m:Md} {e:Ending} (h:zgA (zcn m) m false e):SameOut (MOk m) e:=by
 obtain⟨t,q,b,rfl,z⟩:=h;exact⟨b,rfl,z.trans ⟨fun k=>⟨t,q,k⟩,fun⟨u,w,k⟩=>zks w q▸k⟩⟩
theorem zpL {m:Md} {e:Ending} (h:zgA (zbO m) m false e):SameOut (MOk m) e:=by
 obtain⟨t,z,b,rfl,E⟩:=h;have A: ∃s,PrOf (zcn m) m s:=by
  by_cases w:Tree m
  ·exact⟨_,.inl ⟨w,rfl⟩⟩
  ·exact⟨_,.inr ⟨w,rfl⟩⟩
 obtain⟨s,q⟩:=A;exact⟨b,rfl,E.trans ⟨fun k=>⟨s,q,(zkr q z).2 k⟩,fun⟨u,D,k⟩=>(zkr q z).1 (zks D q▸k)⟩⟩
structure FewP (q:PS):Prop where
 rq:q.rq.length<=40
 im:q.im.length<=40
 ep:q.ep.length+q.la.length<=40
 st:q.st.length<=80
 ex:q.ex.length<=300
theorem zpM {s:BA} {z:Bool} {q:PS} (h:zbA s z (.ok q)):FewP q:=by
 refine zg9 (R:=fun a b=>FewP a->FewP b) h (fun A _=>?_) ⟨by decide,by decide,by decide,by decide,by decide⟩;refine⟨fun _ h=>h,fun h k x=>k (h x),fun _ h=>⟨h.rq,h.im,h.ep,h.st,h.ex⟩,?_,?_,?_,?_,?_⟩
 ·intro x q a h w;obtain⟨rfl,_⟩:=zb7 h;exact⟨w.rq,w.im,w.ep,w.st,by show (q.ex++[x]).length<=300;rw[length_append];simp;omega⟩
 ·intro x q a h w;unfold zap at h
  split at h<;>cases h
  exact⟨w.rq,by show (q.im++[x]).length<=40;rw[length_append];simp;omega,w.ep,w.st,w.ex⟩
 ·intro x q _ a h w;unfold zq at h
  split at h
  ·cases h
  ·split at h<;>cases h
   ·exact⟨w.rq,w.im,by show q.ep.length+(q.la++[x]).length<=40;rw[length_append];simp;omega,w.st,w.ex⟩
   ·exact⟨w.rq,w.im,by show (q.ep++[x]).length+q.la.length<=40;rw[length_append];simp;omega,w.st,w.ex⟩
 ·intro q a h w;unfold zM at h
  split at h
  ·split at h
   ·cases h;exact⟨w.rq,w.im,w.ep,w.st,w.ex⟩
   ·split at h<;>cases h
    exact⟨by show (q.rq++[_]).length<=40;rw[length_append];simp;omega,w.im,w.ep,w.st,w.ex⟩
  ·cases h
 ·intro k n q _ a h w;unfold zaa at h
  split at h<;>cases h
  exact⟨w.rq,w.im,w.ep,by show (q.st++[_]).length<=80;rw[length_append];simp;omega,w.ex⟩
structure MOkP (m:Md):Prop where
 rq:m.rq.length<=40
 fit: ∀x∈m.ep,zfH x
 nd:m.rq.Nodup
 im:m.im.length<=10000
 ep:m.ep.length<=10000
 st:m.st.length<=10000
 ex:m.ex.length<=10000
 fair:zcL m.st
theorem MOk.parts {m:Md} (h:MOk m):MOkP m:=by
 obtain⟨t,_,q,z,rfl⟩:=h;have w:=zpM z;refine⟨w.rq,zpC z,zpB z,by have:=w.im;show q.im.length<=_;omega,?_,by have:=w.st;show q.st.length<=_;omega,by have:=w.ex;show q.ex.length<=_;omega,zko z⟩;have:=w.ep;show (q.ep++q.la).length<=_;rw[length_append];omega
structure Lk where
 frm:Int
 spec:BA
 to:Int
abbrev Ky:Type:=Int×List UInt8
def zU (l:Lk):Ky:=(l.frm,l.spec.toList)
def zbn (ls:List Lk) (k:Ky):Int:=ls.foldr (fun l r=>if zU l=k then l.to else r) (-1)
theorem zgB (l:Lk) (ls:List Lk) (k:Ky):zbn (l::ls) k=if zU l=k then l.to else zbn ls k:=rfl
variable (w:List Lk) (s:BA) (W:List BA) (g:Nat) {C:List Lk} {S:Ky} {b c d n:Nat} {q:Lk} {t:BA} {z:List Bool} {k:Nat->List Nat} {m:List BA} {x:List Im} {V:World} {p:TypeId} {h:Nat->BA}
theorem zpN (h: ∀l∈C,zU l≠S):zbn C S= -1:=by
 induction C with
 |nil=>rfl
 |cons l C q=>rw[zgB,if_neg (h l (mem_cons_self ..)),q fun x w=>h x (mem_cons_of_mem _ w)]
theorem zpO (B:C[b]? =some q) (w:zU q=S) (h: ∀j x,j<b->C[j]? =some x->zU x≠S):zbn C S=q.to:=by
 induction C generalizing b with
 |nil=>cases B
 |cons y C z=>
  rw[zgB];cases b with
  |zero=>cases B;rw[if_pos w]
  |succ b=>rw[if_neg (h 0 y (by omega) rfl)];exact z B fun j x D A=>h (j+1) x (by omega) A
theorem zkt {ls:List Lk} {k:Ky} (h:zbn ls k≠ -1): ∃l∈ls,zU l=k/\l.to=zbn ls k:=by
 induction ls with
 |nil=>exact absurd rfl h
 |cons l ls w=>
  rw[zgB] at h ⊢;by_cases e:zU l=k
  ·rw[if_pos e];exact⟨l,mem_cons_self ..,e,rfl⟩
  ·rw[if_neg e] at h ⊢;obtain⟨x,A,q,z⟩:=w h;exact⟨x,mem_cons_of_mem _ A,q,z⟩
theorem zhS (A:(C.map zU).Nodup) (w:q∈C):zbn C (zU q)=q.to:=by
 induction C with
 |nil=>cases w
 |cons y C z=>
  rw[zgB];rw[map_cons,List.nodup_cons] at A;rcases List.mem_cons.1 w with rfl|h
  ·rw[if_pos rfl]
  ·rw[if_neg (show ¬zU y=zU q from fun e=>A.1 (by rw[e];exact mem_map_of_mem h))];exact z A.2 h
def zdz:Nat->List (List BA)->List Ky
 |_,[]=>[]
 |f,rq::r=>rq.map (fun s=>((f:Int),s.toList))++zdz (f+1) r
def zas (rqs:List (List BA)):Nat:=(rqs.map List.length).sum
theorem zhT (h:List (List BA)): ∀f,(zdz f h).length=zas h:=by
 induction h with
 |nil=>intro f;rfl
 |cons r h q=>intro f;rw[zdz,length_append,length_map,q,zas,zas,map_cons,List.sum_cons]
theorem zex {q:List (List BA)}: ∀{f},S∈zdz f q↔∃(i:Nat) (rq:List BA) (s:BA),q[i]? =some rq/\s∈rq/\S=(((f+i:Nat):Int),s.toList):=by
 induction q with
 |nil=>
  intro f;constructor
  ·intro h;cases h
  ·rintro⟨i,rq,s,h,_⟩;cases h
 |cons r q A=>
  intro f;rw[zdz,mem_append,A,List.mem_map];constructor
  ·rintro (⟨s,hs,rfl⟩|⟨i,rq,s,w,z,rfl⟩)
   ·exact⟨0,r,s,rfl,hs,rfl⟩
   ·exact⟨i+1,rq,s,w,z,by rw[show f+1+i=f+(i+1) by omega]⟩
  ·rintro⟨i,rq,s,w,z,rfl⟩;cases i with
   |zero=>cases w;exact .inl ⟨s,z,rfl⟩
   |succ i=>exact .inr ⟨i,rq,s,w,z,by rw[show f+1+i=f+(i+1) by omega]⟩
theorem zku {b:BA} (h:t.toList=b.toList):t=b:=(zei t b).1 (by rw[h];exact beq_self_eq_true _)
theorem zhU {q:List (List BA)}: ∀f,(∀rq∈q,rq.Nodup)->(zdz f q).Nodup:=by
 induction q with
 |nil=>intro f _;exact List.nodup_nil
 |cons r q A=>
  intro f h;rw[zdz,List.nodup_append];refine⟨?_,A _ fun x E=>h x (mem_cons_of_mem _ E),?_⟩
  ·have:=h r (mem_cons_self ..);unfold List.Nodup at this ⊢;rw[pairwise_map];exact this.imp fun w e=>w (zku (Prod.mk.inj e).2)
  ·intro a z b D e;obtain⟨s,_,rfl⟩:=List.mem_map.1 z;obtain⟨i,_,_,_,_,rfl⟩:=zex.1 D;have:=(Prod.mk.inj e).1;omega
theorem zkv {α:Type}[DecidableEq α] {K L:List α} (h:K.Nodup) (z: ∀x∈K,x∈L) (q:L.length<=K.length):L.Perm K:=by
 induction K generalizing L with
 |nil=>cases L with
  |nil=>exact .refl _
  |cons=>simp at q
 |cons a K D=>
  have w:=z a (mem_cons_self ..);rw[List.nodup_cons] at h;refine (List.perm_cons_erase w).trans (.cons a (D h.2 (fun x A=>?_) ?_))
  ·exact (List.mem_erase_of_ne (show x≠a from fun e=>h.1 (by rw[<-e];exact A))).2 (z x (mem_cons_of_mem _ A))
  ·rw[List.length_erase_of_mem w];simp at q;omega
def zfJ (rqs:List (List BA)) (ls:List Lk):Prop:=
 zas rqs=ls.length/\∀(i:Nat) (l:Lk),ls[i]? =some l->0<=l.frm/\l.frm<(rqs.length:Int)/\0<=l.to/\l.to<(rqs.length:Int)/\(∃s∈rqs.getD l.frm.toNat [],s.toList=l.spec.toList)/\∀(k:Nat) (x:Lk),k<i->ls[k]? =some x->zU x≠zU l
def zbV (rqs:List (List BA)) (ls:List Lk):Prop:=
 ls.length=zas rqs/\∀(f:Nat) (rq:List BA),rqs[f]? =some rq->∀s∈rq,0<=zbn ls ((f:Int),s.toList)/\zbn ls ((f:Int),s.toList)<(rqs.length:Int)
structure LinksOk (rqs:List (List BA)) (ls:List Lk):Prop where
 nodup:(ls.map zU).Nodup
 mem: ∀k,k∈ls.map zU↔k∈zdz 0 rqs
 to: ∀l∈ls,0<=l.to/\l.to<(rqs.length:Int)
theorem zpP (h: ∀(i:Nat) (l:Lk),C[i]? =some l->∀(k:Nat) (x:Lk),k<i->C[k]? =some x->zU x≠zU l):(C.map zU).Nodup:=by
 unfold List.Nodup;rw[pairwise_map,List.pairwise_iff_getElem];intro i j z w q;exact h j _ (getElem?_eq_getElem w) i _ q (getElem?_eq_getElem z)
theorem zpQ {q:List (List BA)} (h:zfJ q C):LinksOk q C:=by
 obtain⟨K,h⟩:=h;have D:=zpP fun i l z=>(h i l z).2.2.2.2.2;have w: ∀k∈C.map zU,k∈zdz 0 q:=by
  intro k H;obtain⟨l,z,rfl⟩:=List.mem_map.1 H;obtain⟨i,A⟩:=List.mem_iff_getElem?.1 z;obtain⟨I,L,_,_,⟨s,J,e⟩,_⟩:=h i l A;refine zex.2 ⟨l.frm.toNat,q.getD l.frm.toNat [],s,?_,J,?_⟩
  ·rw[List.getD,getElem?_eq_getElem (by omega)];rfl
  ·rw[e,zero_add,Int.toNat_of_nonneg I];rfl
 have E:=zkv D w (by rw[zhT,K,length_map];exact le_refl _);refine⟨D,fun k=>(E.mem_iff).symm,fun l z=>?_⟩;obtain⟨i,A⟩:=List.mem_iff_getElem?.1 z;exact⟨(h i l A).2.2.1,(h i l A).2.2.2.1⟩
theorem zkw {q:List (List BA)} (H: ∀rq∈q,rq.Nodup) (h:zbV q C):LinksOk q C:=by
 obtain⟨K,h⟩:=h;have w: ∀k∈zdz 0 q,k∈C.map zU:=by
  intro k J;obtain⟨f,rq,s,E,D,rfl⟩:=zex.1 J;rw[zero_add];obtain⟨L,_⟩:=h f rq E s D;obtain⟨l,z,e,_⟩:=zkt (ls:=C) (k:=((f:Int),s.toList)) (by omega);exact e▸mem_map_of_mem z
 have A:=zkv (zhU 0 H) w (by rw[zhT,K.symm,length_map];exact le_refl _);have I:(C.map zU).Nodup:=A.nodup_iff.2 (zhU 0 H);refine⟨I,fun k=>A.mem_iff,fun l z=>?_⟩;obtain⟨f,rq,s,E,D,e⟩:=zex.1 (A.mem_iff.1 (mem_map_of_mem z));rw[zero_add] at e;have:=h f rq E s D;rw[<-e,zhS I z] at this;exact this
theorem LinksOk.len {q:List (List BA)} (z: ∀rq∈q,rq.Nodup) (h:LinksOk q C):C.length=zas q:=by
 rw[<-zhT q 0,<-length_map (f:=zU)];refine Nat.le_antisymm ?_ ?_
 ·exact List.Nodup.length_le_of_subset h.nodup fun k w=>(h.mem k).1 w
 ·exact List.Nodup.length_le_of_subset (zhU 0 z) fun k w=>(h.mem k).2 w
theorem LinksOk.toI {q:List (List BA)} (A: ∀rq∈q,rq.Nodup) (h:LinksOk q C):zbV q C:=by
 refine⟨h.len A,fun f rq z s D=>?_⟩;obtain⟨l,w,e⟩:=List.mem_map.1 ((h.mem ((f:Int),s.toList)).2 (zex.2 ⟨f,rq,s,z,D,by rw[zero_add]⟩));rw[<-e,zhS h.nodup w];exact h.to l w
theorem LinksOk.toS {q:List (List BA)} (N: ∀rq∈q,rq.Nodup) (h:LinksOk q C):zfJ q C:=by
 refine⟨(h.len N).symm,fun i l K=>?_⟩;have D:=List.mem_of_getElem? K;obtain⟨f,rq,s,J,M,e⟩:=zex.1 ((h.mem _).1 (mem_map_of_mem D));rw[zero_add] at e;obtain⟨z,O⟩:=Prod.mk.inj e;have z:l.frm=(f:Int):=z;have V:=(List.getElem?_eq_some_iff.1 J).1;refine⟨by omega,by omega,(h.to l D).1,(h.to l D).2,⟨s,?_,O.symm⟩,fun k x L U=>?_⟩
 ·rw[z,Int.toNat_natCast,List.getD,J];exact M
 ·have I:=h.nodup;unfold List.Nodup at I;rw[pairwise_map,List.pairwise_iff_getElem] at I;obtain⟨E,A⟩:=List.getElem?_eq_some_iff.1 U;obtain⟨w,H⟩:=List.getElem?_eq_some_iff.1 K;rw[<-A,<-H];exact I k i E w L
theorem zkx {q:List (List BA)} (w: ∀rq∈q,rq.Nodup):zfJ q C↔zbV q C:=
 ⟨fun h=>(zpQ h).toI w,fun h=>(zkw w h).toS w⟩
def Rch (nx:Nat->List Nat) (j:Nat):Prop:=∀S:Nat->Prop,S 0->(∀a b,S a->b∈nx a->S b)->S j
def zG (b:List Bool):Nat:=b.count true
def LeB (b c:List Bool):Prop:=b.length=c.length/\∀j:Nat,b[j]? =some true->c[j]? =some true
theorem LeB.refl (b:List Bool):LeB b b:=⟨rfl,fun _ h=>h⟩
theorem LeB.trans {b c:List Bool} (h:LeB z b) (k:LeB b c):LeB z c:=⟨h.1.trans k.1,fun j q=>k.2 j (h.2 j q)⟩
theorem LeB.set (b:List Bool) (m:Nat):LeB b (b.set m true):=by
 refine⟨by simp,fun j h=>?_⟩;rw[getElem?_set]
 split
 ·next e=>rw[if_pos (by subst e;exact (List.getElem?_eq_some_iff.1 h).1)]
 ·exact h
theorem LeB.cnt {c:List Bool} (h:LeB z c):zG z<=zG c/\(zG c<=zG z->z=c):=by
 induction z generalizing c with
 |nil=>cases c with
  |nil=>exact⟨le_refl _,fun _=>rfl⟩
  |cons=>have:=h.1;simp at this
 |cons x z B=>
  cases c with
  |nil=>have:=h.1;simp at this
  |cons y c=>
   have D:LeB z c:=⟨by have:=h.1;simpa using this,fun j w=>h.2 (j+1) w⟩;have E:=h.2 0;obtain⟨q,A⟩:=B D;unfold zG at q A ⊢;cases x<;>cases y<;>simp_all;omega
theorem zdW (b:List Bool):zG b<=b.length:=List.count_le_length ..
theorem zgC:zG z=z.length↔∀j:Nat,j<z.length->z[j]? =some true:=by
 unfold zG;rw[List.count_eq_length];constructor
 ·intro h j q;rw[getElem?_eq_getElem q,<-h _ (getElem_mem q)]
 ·intro h x A;obtain⟨i,w⟩:=List.mem_iff_getElem?.1 A;have:=h i (List.getElem?_eq_some_iff.1 w).1;rw[w] at this;exact (Option.some.inj this).symm
def zbQ (b:List Bool) (l:Lk):List Bool:=if b.getD l.frm.toNat false=true then b.set l.to.toNat true else b
def zbh (ls:List Lk) (b:List Bool):List Bool:=ls.foldl zbQ b
def zah (ls:List Lk):Nat->List Bool->List Bool
 |0,b=>b
 |k+1,b=>zah ls k (zbh ls b)
theorem zhV (ls:List Lk): ∀(k:Nat) (b:List Bool),zah ls (k+1) b=zbh ls (zah ls k b)
 |0,_=>rfl
 |k+1,b=>zhV ls k (zbh ls b)
theorem zky (b:List Bool) (l:Lk):LeB b (zbQ b l):=by
 unfold zbQ
 split
 ·exact .set _ _
 ·exact .refl _
theorem zgD: ∀b,LeB b (zbh w b):=by
 induction w with
 |nil=>intro b;exact .refl _
 |cons l w h=>intro b;exact (zky b l).trans (h _)
theorem zfK (ls:List Lk): ∀(k:Nat) (b:List Bool),(zah ls k b).length=b.length
 |0,_=>rfl
 |k+1,b=>(zfK ls k _).trans (zgD ls b).1.symm
theorem zhW (ls:List Lk): ∀(k:Nat) (b:List Bool),LeB b (zah ls k b)
 |0,_=>.refl _
 |k+1,b=>(zgD ls b).trans (zhW ls k _)
def zgE (ls:List Lk) (b:List Bool):Prop:=∀l∈ls,b[l.frm.toNat]? =some true->l.to.toNat<b.length->b[l.to.toNat]? =some true
theorem zpR (h:zbQ z q=z):z[q.frm.toNat]? =some true->q.to.toNat<z.length->z[q.to.toNat]? =some true:=by
 intro w A;unfold zbQ at h;rw[if_pos (by rw[List.getD,w];rfl)] at h;rw[<-h,getElem?_set,if_pos rfl,if_pos (by rw[<-h] at A;simpa using A)]
theorem zkz {b:List Bool} (h:LeB z b) (k:LeB b z):z=b:=h.cnt.2 k.cnt.1
theorem zpS (h:zbh C z=z):zgE C z:=by
 induction C with
 |nil=>intro l q;cases q
 |cons x C B=>
  have w:zbQ z x=z:=(zkz (zky z x) (by have:=zgD C (zbQ z x);rw[show zbh C (zbQ z x)=z from h] at this;exact this)).symm;have A:zbh C z=z:=by rw[show zbh (x::C) z=zbh C (zbQ z x) from rfl,w] at h;exact h
  intro l q;rcases List.mem_cons.1 q with rfl|q
  ·exact zpR w
  ·exact B A l q
theorem zk0: ∀(k:Nat) (b:List Bool),zgE w (zah w k b)∨zG b+k<=zG (zah w k b):=by
 intro k
 induction k with
 |zero=>intro b;exact .inr (le_refl _)
 |succ k z=>
  intro b;by_cases e:zbh w b=b
  ·left;have D:=zpS e;have: ∀j,zah w j b=b:=by
    intro j
    induction j with
    |zero=>rfl
    |succ j B=>rw[zah,e];exact B
   rw[this];exact D
  ·rcases z (zbh w b) with h|h
   ·exact .inl h
   ·right;have A:=(zgD w b).cnt;have:zG b<zG (zbh w b):=by
     rcases Nat.lt_or_ge (zG b) (zG (zbh w b)) with q|q
     ·exact q
     ·exact absurd (A.2 q).symm e
    show _<=zG (zah w k (zbh w b));omega
theorem zpT {S:Nat->Prop} (z: ∀l∈C,S l.frm.toNat->S l.to.toNat): ∀b:List Bool,(∀j,b[j]? =some true->S j)->∀j,(zbh C b)[j]? =some true->S j:=by
 induction C with
 |nil=>intro b h;exact h
 |cons x C D=>
  intro b h;refine D (fun l E=>z l (mem_cons_of_mem _ E)) (zbQ b x) fun j q=>?_;unfold zbQ at q
  split at q
  ·next w=>
   rw[getElem?_set] at q
   split at q
   ·next e=>
    rw[<-e];refine z x (mem_cons_self ..) (h _ ?_);rw[List.getD] at w;cases A:b[x.frm.toNat]? with
    |none=>rw[A] at w;cases w
    |some v=>rw[A] at w;exact congrArg some w
   ·exact h j q
  ·exact h j q
theorem zhX {ls:List Lk} {S:Nat->Prop} (q: ∀l∈ls,S l.frm.toNat->S l.to.toNat): ∀(k:Nat) (b:List Bool),(∀j,b[j]? =some true->S j)->∀j,(zah ls k b)[j]? =some true->S j
 |0,_,h=>h
 |k+1,b,h=>zhX q k _ (zpT q b h)
def zaZ (n:Nat):List Bool:=(replicate n false).set 0 true
theorem zk1 (X:0<b) (N: ∀l∈C,l.to.toNat∈k l.frm.toNat) (L: ∀a,a<b->∀F∈k a,F<b/\∃l∈C,l.frm.toNat=a/\l.to.toNat=F) (j:Nat):
  (zah C b (zaZ b))[j]? =some true↔Rch k j:=by
 have A:(zaZ b).length=b:=by simp[zaZ]
 have K:1<=zG (zaZ b):=by
  unfold zG zaZ;cases b with
  |zero=>omega
  |succ b=>rw[List.replicate_succ];simp
 constructor
 ·intro h S O J;refine zhX (S:=S) (fun l z V=>J _ _ V (N l z)) b (zaZ b) (fun B q=>?_) j h;unfold zaZ at q;rw[getElem?_set] at q
  split at q
  ·next e=>rw[<-e];exact O
  ·rw[List.getElem?_replicate] at q
   split at q
   ·cases q
   ·cases q
 ·intro h;have w:=zfK C b (zaZ b);rw[A] at w;have D:zgE C (zah C b (zaZ b)):=by
   rcases zk0 C b (zaZ b) with B|B
   ·exact B
   ·have:=zdW (zah C b (zaZ b));omega
  refine h (fun j=>(zah C b (zaZ b))[j]? =some true) ?_ ?_
  ·refine (zhW C b (zaZ b)).2 0 ?_;unfold zaZ;rw[getElem?_set,if_pos rfl,if_pos (by simpa using X)]
  ·intro a F I U;have E:a<b:=by have:=(List.getElem?_eq_some_iff.1 I).1;omega
   obtain⟨M,l,z,rfl,rfl⟩:=L a E F U;exact D l z I (by omega)
def dfs (nx:Nat->List Nat):Nat->Nat->List Bool×List Nat->List Bool×List Nat
 |0,_,s=>s
 |f+1,m,s=>if s.1.getD m true=true then s else
  let t:=(nx m).foldl (fun s k=>dfs nx f k s) (s.1.set m true,s.2)
  (t.1,t.2++[m])
structure DfsP (nx:Nat->List Nat) (S:Nat->Prop) (ms:List Nat) (s t:List Bool×List Nat):Prop where
 le:LeB s.1 t.1
 begun: ∀m∈ms,t.1[m]? =some true
 new: ∀j:Nat,t.1[j]? =some true->s.1[j]? =some true∨S j
 shut: ∀j:Nat,t.1[j]? =some true->s.1[j]? =some true∨∀k∈nx j,t.1[k]? =some true
 cnt:t.2.length+zG s.1=s.2.length+zG t.1
theorem zgF {m:Nat} (h:z[m]? =some false):zG (z.set m true)=zG z+1:=by
 induction z generalizing m with
 |nil=>cases h
 |cons x z q=>
  cases m with
  |zero=>cases h;simp[zG]
  |succ m=>
   have:=q h;unfold zG at this ⊢;rw[List.set_cons_succ,List.count_cons,List.count_cons,this];omega
theorem zk2 (V: ∀m,m<b->∀B∈k m,B<b) {S:Nat->Prop} (hS: ∀a F,S a->F∈k a->S F): ∀(f m:Nat) (s:List Bool×List Nat),s.1.length=b->m<b->b<=f+zG s.1->S m->DfsP k S [m] s (dfs k f m s):=by
 intro f
 induction f with
 |zero=>
  intro m s L Y U _;have:zG s.1=s.1.length:=by have:=zdW s.1;omega
  have z:=zgC.1 this m (by omega);exact⟨.refl _,fun B q=>by rw[List.mem_singleton.1 q];exact z,fun j h=>.inl h,fun j h=>.inl h,rfl⟩
 |succ f Z=>
  intro m s L Y U K;have X: ∀(J:List Nat) (s:List Bool×List Nat),(∀B∈J,B<b/\S B)->s.1.length=b->b<=f+zG s.1->DfsP k S J s (J.foldl (fun s B=>dfs k f B s) s):=by
   intro J
   induction J with
   |nil=>intro s _ _ _;exact⟨.refl _,fun B q=>(by cases q),fun j h=>.inl h,fun j h=>.inl h,rfl⟩
   |cons B J N=>
    intro s D L U;have w:=Z B s L (D B (mem_cons_self ..)).1 U (D B (mem_cons_self ..)).2;have E:=N (dfs k f B s) (fun x M=>D x (mem_cons_of_mem _ M)) (w.le.1.symm.trans L) (by have:=w.le.cnt.1;omega);refine⟨w.le.trans E.le,fun x M=>?_,fun j I=>?_,fun j I=>?_,?_⟩
    ·rcases List.mem_cons.1 M with rfl|M
     ·exact E.le.2 _ (w.begun _ (List.mem_singleton.2 rfl))
     ·exact E.begun x M
    ·rcases E.new j I with h|h
     ·exact w.new j h
     ·exact .inr h
    ·rcases E.shut j I with h|h
     ·rcases w.shut j h with O|O
      ·exact .inl O
      ·exact .inr fun B q=>E.le.2 _ (O B q)
     ·exact .inr h
    ·have e1:=w.cnt;have e2:=E.cnt;simp only[List.foldl_cons];omega
  rw[dfs]
  split
  ·next z=>
   have z:s.1[m]? =some true:=by
    rw[List.getD,getElem?_eq_getElem (by omega)] at z;rw[getElem?_eq_getElem (by omega)];exact congrArg some z
   exact⟨.refl _,fun B q=>by rw[List.mem_singleton.1 q];exact z,fun j h=>.inl h,fun j h=>.inl h,rfl⟩
  ·next z=>
   have z:s.1[m]? =some false:=by
    rw[List.getD,getElem?_eq_getElem (by omega)] at z;rw[getElem?_eq_getElem (by omega)];exact congrArg some (by simpa using z)
   have hc:=zgF z;have H:(s.1.set m true)[m]? =some true:=by rw[getElem?_set,if_pos rfl,if_pos (by omega)]
   have w:=X (k m) (s.1.set m true,s.2) (fun B q=>⟨V m Y B q,hS m B K q⟩) (by simpa using L) (by show b<=f+zG (s.1.set m true);omega);refine⟨(LeB.set _ _).trans w.le,fun B q=>by rw[List.mem_singleton.1 q];exact w.le.2 m H,fun j I=>?_,fun j I=>?_,?_⟩
   ·rcases w.new j I with h|h
    ·have h:(s.1.set m true)[j]? =some true:=h;rw[getElem?_set] at h
     split at h
     ·next e=>rw[<-e];exact .inr K
     ·exact .inl h
    ·exact .inr h
   ·rcases w.shut j I with h|h
    ·have h:(s.1.set m true)[j]? =some true:=h;rw[getElem?_set] at h
     split at h
     ·next e=>rw[<-e];exact .inr fun B q=>w.begun B q
     ·exact .inl h
    ·exact .inr h
   ·have e:=w.cnt;simp only[length_append,List.length_singleton] at e ⊢;omega
theorem zpU (Y:0<b) (L: ∀m,m<b->∀B∈k m,B<b):
  (dfs k b 0 (replicate b false,[])).2.length=b↔∀j,j<b->Rch k j:=by
 have M:zG (replicate b false)=0:=by unfold zG;rw[List.count_replicate];rfl
 have D: ∀S:Nat->Prop,S 0->(∀a F,S a->F∈k a->S F)->DfsP k S [0] (replicate b false,[]) (dfs k b 0 (replicate b false,[])):=fun S N K=>
  zk2 L K b 0 (replicate b false,[]) (by simp) Y (by show b<=b+zG (replicate b false);omega) N
 have E: ∀j:Nat,¬(replicate b false)[j]? =some true:=by
  intro j h;rw[List.getElem?_replicate] at h
  split at h<;>cases h
 have J:=D (fun _=>True) trivial (fun _ _ _ _=>trivial);have I:(dfs k b 0 (replicate b false,[])).1.length=b:=by rw[<-J.le.1];simp
 have w:=J.cnt;rw[show zG (replicate b false,([]:List Nat)).1=0 from M] at w;constructor
 ·intro h j U S N K;have O:=D S N K;have A:zG (dfs k b 0 (replicate b false,[])).1=(dfs k b 0 (replicate b false,[])).1.length:=by
   rw[I];simp only[List.length_nil] at w;omega
  rcases O.new j (zgC.1 A j (by omega)) with z|z
  ·exact absurd z (E j)
  ·exact z
 ·intro h;have H: ∀j,j<(dfs k b 0 (replicate b false,[])).1.length->(dfs k b 0 (replicate b false,[])).1[j]? =some true:=by
   intro j U;refine h j (by omega) (fun j=>(dfs k b 0 (replicate b false,[])).1[j]? =some true) (J.begun 0 (List.mem_singleton.2 rfl)) fun a F V X=>?_;rcases J.shut a V with z|z
   ·exact absurd z (E a)
   ·exact z F X
  have:=zgC.2 H;simp only[List.length_nil] at w;omega
def zbW (rqs:List (List BA)) (ls:List Lk) (m:Nat):List Nat:=(rqs.getD m []).map fun s=>(zbn ls ((m:Int),s.toList)).toNat
theorem zhY {q:List (List BA)} (h:zbV q C) (m k:Nat) (D:k∈zbW q C m):k<q.length:=by
 obtain⟨s,w,rfl⟩:=List.mem_map.1 D;cases z:q[m]? with
 |none=>rw[List.getD,z] at w;cases w
 |some A=>
  rw[List.getD,z] at w;have:=h.2 m A z s w;omega
theorem zk3 {q:List (List BA)} (O: ∀rq∈q,rq.Nodup) (w:zbV q C) (H:0<q.length):
  (∀j,j<q.length->(zah C q.length (zaZ q.length))[j]? =some true)↔(dfs (zbW q C) q.length 0 (replicate q.length false,[])).2.length=q.length:=by
 have h:=zkw O w;have L: ∀l∈C,l.to.toNat∈zbW q C l.frm.toNat:=by
  intro l z;obtain⟨f,rq,s,N,A,e⟩:=zex.1 ((h.mem _).1 (mem_map_of_mem z));rw[zero_add] at e;have D:l.frm=(f:Int):=(Prod.mk.inj e).1;rw[D,Int.toNat_natCast];refine List.mem_map.2 ⟨s,by rw[List.getD,N];exact A,?_⟩;rw[<-e,zhS h.nodup z]
 have J: ∀a,a<q.length->∀b∈zbW q C a,b<q.length/\∃l∈C,l.frm.toNat=a/\l.to.toNat=b:=by
  intro a K b M;refine⟨zhY w a b M,?_⟩;obtain⟨s,A,rfl⟩:=List.mem_map.1 M;rw[List.getD,getElem?_eq_getElem K] at A;have I:=w.2 a _ (getElem?_eq_getElem K) s A;obtain⟨l,z,e,U⟩:=zkt (ls:=C) (k:=((a:Int),s.toList)) (by omega);have D:l.frm=(a:Int):=(Prod.mk.inj e).1;exact⟨l,z,by rw[D,Int.toNat_natCast],by rw[U]⟩
 rw[zpU H fun m _ k I=>zhY w m k I];exact⟨fun k j E=>(zk1 H L J j).1 (k j E),fun k j E=>(zk1 H L J j).2 (k j E)⟩
def inL (l:List BA) (s:BA):Bool:=l.any fun x=>x.toList==s.toList
def twB (l:List BA):Bool:=(List.range l.length).any fun i=>inL (l.take i) (l.getD i sNone)
theorem zgG:inL m t=true↔t∈m:=by
 simp only[inL,any_eq_true];constructor
 ·rintro⟨x,q,h⟩;rw[(zei _ _).1 h] at q;exact q
 ·intro h;exact⟨t,h,(zei _ _).2 rfl⟩
theorem zpV {k:Nat} (q:k<m.length) (h:((m.getD k sNone).toList==t.toList)=true):inL m t=true:=by
 rw[inL,any_eq_true];exact⟨m[k],getElem_mem q,by simpa [List.getD,getElem?_eq_getElem q] using h⟩
theorem zpW (h: ∀j,j<m.length->((m.getD j sNone).toList==t.toList)=false):inL m t=false:=by
 rw[inL,List.any_eq_false];intro x w;obtain⟨j,q,rfl⟩:=List.mem_iff_getElem.1 w;have:=h j q
 simpa [List.getD,getElem?_eq_getElem q] using this
theorem zk4 (q:b<m.length) (h:inL (m.take b) (m.getD b sNone)=true):twB m=true:=by
 rw[twB,any_eq_true];exact⟨b,List.mem_range.2 q,h⟩
theorem zpX (h: ∀j,j<m.length->inL (m.take j) (m.getD j sNone)=false):twB m=false:=by
 rw[twB,List.any_eq_false];intro k q;rw[h k (List.mem_range.1 q)];exact Bool.false_ne_true
def epN (l:List Ep):List BA:=(l.filter fun x=> !(x.kind==3)).map (·.name)
def spB (l:List Im) (n:BA):Bool:=match l.find? (fun x=>x.loc.toList==n.toList) with|some x=>x.first.toList==[42]|none=>false
def unB (ns:List BA) (l:List Ep):Bool:=l.any fun x=>x.kind==1&&(!(x.loc.toList==dN)&& !inL ns x.loc)
def seB (im:List Im) (l:List Ep):Bool:=l.any fun x=>x.kind==1&&spB im x.loc
def sxB (im:List Im) (l:List Ex):Bool:=l.any fun x=>(x.kind==2||x.kind==3)&&spB im x.name
def mxB (im:List Im) (l:List Ex):Bool:=l.any fun x=>(x.kind==4||x.kind==5)&& !spB im x.name
def ssB (im:List Im) (l:List Sm):Bool:=l.any fun x=>x.kind==3&&spB im x.name
def zat (m:Md):Int:=
 if twB (zbP m) then 1 else if twB (epN m.ep) then 2 else if unB (zbP m) m.ep then 3
 else if seB m.im m.ep||sxB m.im m.ex||ssB m.im m.st then 4 else if mxB m.im m.ex then 5 else 0
theorem zpY {B:Im} (q:x[b]? =some B) (A:(B.loc.toList==t.toList)=true) (h: ∀(j:Nat) (y:Im),j<b->x[j]? =some y->(y.loc.toList==t.toList)=false):spB x t=(B.first.toList==[42]):=by
 have:x.find? (fun B=>B.loc.toList==t.toList)=some B:=by
  rw[List.find?_eq_some_iff_getElem];obtain⟨z,rfl⟩:=List.getElem?_eq_some_iff.1 q;exact⟨A,b,z,rfl,fun j w=>by rw[h j x[j] w (getElem?_eq_getElem _)];rfl⟩
 rw[spB,this]
theorem zpZ (h: ∀(j:Nat) (y:Im),x[j]? =some y->(y.loc.toList==t.toList)=false):spB x t=false:=by
 have:x.find? (fun A=>A.loc.toList==t.toList)=none:=by
  rw[List.find?_eq_none];intro A q;obtain⟨j,w,rfl⟩:=List.mem_iff_getElem.1 q;rw[h j _ (getElem?_eq_getElem w)];exact Bool.false_ne_true
 rw[spB,this]
abbrev okc (c:Int):Prop:=(97<=c/\c<=122)∨(48<=c/\c<=57)∨c=46∨c=95∨c=45∨c=47
abbrev zc7 (s:BA):Prop:=1<=s.size/\s.size<=40/\bt s 0=47/\∀j,j<s.size->okc (bt s j)
def zaW (s:BA):Bool:=decide (zc7 s)
theorem zk5 (h:zc7 t):zaW t=true:=decide_eq_true h
theorem zdI (h: ¬zc7 t):zaW t=false:=decide_eq_false h
theorem zdX:zaW t=true↔zc7 t:=decide_eq_true_iff
def upd (p:BA) (l:List BA):List BA:=
 if p.toList.isEmpty=true∨(p.toList==[46])=true then l else if (p.toList==[46,46])=false then l++[p] else l.dropLast
def zfL (s:BA) (i:Nat) (st:Nat×List BA):Nat×List BA:=
 if i<s.size/\bt s i≠47 then st else (i+1,upd (s.extract st.1 i) st.2)
def zY (s:BA):Nat->Nat×List BA
 |0=>(0,[])
 |k+1=>zfL s k (zY s k)
theorem zqa:(upd s W).length<=W.length+1:=by
 unfold upd
 split
 ·omega
 ·split
  ·simp
  ·simp;omega
theorem zhZ:(zY s g).1<=g/\(zY s g).2.length<=g:=by
 induction g with
 |zero=>simp[zY]
 |succ g q=>
  have h:=zqa (s.extract (zY s g).1 g) (zY s g).2;unfold zY zfL
  split
  ·omega
  ·simp only;omega
theorem zk6 (h:b<t.size) (q:bt t b≠47):zY t (b+1)=zY t b:=by rw[zY,zfL,if_pos ⟨h,q⟩]
theorem zk7 (h: ¬(b<t.size/\bt t b≠47)):zY t (b+1)=(b+1,upd (t.extract (zY t b).1 b) (zY t b).2):=by rw[zY,zfL,if_neg h]
theorem zgH (h:t.toList.isEmpty=true):upd t m=m:=by rw[upd,if_pos (.inl h)]
theorem zia (h:(t.toList==[46])=true):upd t m=m:=by rw[upd,if_pos (.inr h)]
theorem zib (w:t.toList.isEmpty=false) (h:(t.toList==[46])=false) (q:(t.toList==[46,46])=false):upd t m=m++[t]:=by
 rw[upd,if_neg (by rw[w,h];simp),if_pos q]
theorem zic (w:t.toList.isEmpty=false) (h:(t.toList==[46])=false) (q:(t.toList==[46,46])=true):upd t m=m.dropLast:=by
 rw[upd,if_neg (by rw[w,h];simp),if_neg (by rw[q];simp)]
def parts (s:BA):List BA:=(zY s (s.size+1)).2
def zcv (l:List BA):Nat->BA
 |0=>{data:=#[]}
 |k+1=>zcv l k++{data:=#[47]}++l.getD k {data:=#[]}
def zaL (s:BA):BA:=if zaW s then (if (parts s).length=0 then {data:=#[47]} else zcv (parts s) (parts s).length) else {data:=#[]}
theorem zid (h:zaW t=false):zaL t={data:=#[]}:=by rw[zaL,h];rfl
theorem zie (h:zaW t=true) (q:(parts t).length=0):zaL t={data:=#[47]}:=by rw[zaL,h,if_pos rfl,if_pos q]
theorem zif (h:zaW t=true) (q: ¬(parts t).length=0):zaL t=zcv (parts t) (parts t).length:=by rw[zaL,h,if_pos rfl,if_neg q]
theorem zqb (w:s.size<=g) (q: ∀x∈W,x.size<=g): ∀x∈upd s W,x.size<=g:=by
 intro x h;unfold upd at h
 split at h
 ·exact q x h
 ·split at h
  ·simp only[mem_append,List.mem_singleton] at h;rcases h with h|rfl
   ·exact q x h
   ·exact w
  ·exact q x ((List.dropLast_sublist W).subset h)
theorem zk8: ∀x∈(zY s g).2,x.size<=s.size:=by
 induction g with
 |zero=>simp[zY]
 |succ g h=>
  unfold zY zfL
  split
  ·exact h
  ·exact zqb _ _ _ (by rw[ByteArray.size_extract];omega) h
theorem zk9 (h: ∀x∈W,x.size<=s.size) (k:Nat):(W.getD k {data:=#[]}).size<=s.size:=by
 by_cases q:k<W.length
 ·have e:W.getD k {data:=#[]}=W[k]:=by simp[List.getD,getElem?_eq_getElem q]
  rw[e];exact h _ (getElem_mem q)
 ·have e:W.getD k {data:=#[]}={data:=#[]}:=by simp[List.getD,List.getElem?_eq_none (Nat.le_of_not_lt q)]
  rw[e];exact zero_le _
theorem zkA (h: ∀x∈W,x.size<=s.size) (k:Nat):(zcv W k).size<=k*(s.size+1):=by
 induction k with
 |zero=>exact zero_le _
 |succ k q=>
  have:=zk9 s W h k;rw[zcv,ByteArray.size_append,ByteArray.size_append,Nat.succ_mul];have e:({data:=#[47]}:BA).size=1:=rfl;omega
def zbo (w:World) (base:Nat) (e:TypeId) (g n cap:Nat) (xs:List BA):Prop:=w.ownsRow base e 1 (.slice (some ⟨g,0,none⟩) n cap) n (xs.map Value.string)/\n=xs.length
theorem zgI {q:Nat} (h:zbo V b p c d q m):d=m.length:=h.2
theorem zig {q:Nat} (h:zbo V b p c d q m):d<=q/\q<=9223372036854775807/\b<=c:=by
 rcases h.1.2 with ⟨z,_⟩|⟨J,A,D,z,H,_,I,E,_⟩
 ·simp at z
 ·simp only[Value.slice.injEq,Option.some.injEq,Addr.mk.injEq,and_true,true_and] at z;obtain⟨rfl,rfl⟩:=z;unfold maxLen at E;exact⟨I,by omega,H⟩
theorem zih {q:Nat} (h:zbo V b p c d q m) (j:Nat) (z:j<d):V.cell? ⟨c,j,none⟩=some (.string (m.getD j {data:=#[]})):=by
 have A:=h.2;rw[h.1.cellAt j (by omega)];simp[List.getD,getElem?_eq_getElem (show j<m.length by omega)]
theorem zkB {q:Nat} (h:zbo V b p c (d+1) q m):zbo V b p c d q m.dropLast:=by
 obtain⟨⟨I,N⟩,O⟩:=h;rw[length_map] at I;refine⟨⟨by rw[length_map,List.length_dropLast];omega,?_⟩,by rw[List.length_dropLast];omega⟩;rcases N with ⟨D,_⟩|⟨U,E,z,D,L,M,J,H,A,K⟩
 ·simp at D
 ·simp only[Value.slice.injEq,Option.some.injEq,Addr.mk.injEq,and_true,true_and] at D;obtain⟨rfl,rfl⟩:=D;refine .inr ⟨c,q,z,rfl,L,M,by omega,H,A,?_⟩;rw[List.map_dropLast,<-K,List.dropLast_eq_take,List.length_take,List.take_take];congr 1;have:z.toList.length=q:=by rw[Array.length_toList,A,Nat.mul_one]
  omega
theorem zgJ {P:Program} (w:World) {J:Array Oper} {rest:List Oper} {o:Oper} {a:Act} {Q:Exit->Act->World->Prop} (M:o.guard=none) (s x:Operand) (t:TypeId) (ho:o.op= .call {callee:=.builtin .append,args:=#[s,x],argTypes:=#[t,t]}) (base:Nat) (e:TypeId) (i:TypeInfo) (z:Value) (Z:P.underlying t=some (.slice e)) (hi:P.info? e=some i) (hz:i.zero=some z) (D:i.size=1) (N:i.bytes=16) (O:z.cells.size=1) (g n I:Nat) (xs:List BA) (hs:a.eval s= .slice (some ⟨g,0,none⟩) n I) (A:zbo w base e g n I xs) (b:BA) (hx:a.eval x= .slice (some ⟨w.heap.size,0,none⟩) 1 1) (hn:n+1<=100000000) (E:base<=w.heap.size) (h: ∀K q H,zbo H base e K (n+1) q (xs++[b])->Below base w H->wpList P J Q rest (a.put o.dst (.slice (some ⟨K,0,none⟩) (n+1) q)) H):
  wpList P J Q (o::rest) a (w.alloc (.cells #[.string b] e)):=by
 refine wpList_append_own _ M s x t ho base e i z 1 16 Z hi hz D N O (by decide) _ n _ hs (A.1.alloc _) ⟨w.heap.size,0,none⟩ 1 1 [.string b] hx rfl ?_ ?_ ?_ ?_ ?_ ?_
 ·intro j u L
  match j,L with
  |0,L=>
   simp at L;subst L;simp[Addr.add]
 ·intro u X;simp at X;subst X;rfl
 ·unfold maxLen;omega
 ·omega
 ·simp;omega
 ·intro v' H V Y h3;have hb:Below base w H:=((Below.refl base w).alloc E _).grown Y (by simp;omega) (zh8 A.1);rcases V.2 with ⟨hv,_⟩|⟨K,q,aa,rfl,U⟩
  ·have:=(h3.1 hv).1;simp at this
  ·refine h K q H ⟨?_,by rw[length_append];have:=A.2;simp;omega⟩ hb;rw[List.map_append];exact V
def zxT (a s:BA):Bool:=decide (a.size<=s.size)&&((s.extract 0 a.size).toList==a.toList)
structure FilesAt (w:World) (a:Option Addr) (b off len:Nat) (Pt Tx:Nat->BA):Prop where
 addr:0<len->a=some ⟨b,off,none⟩
 lt:0<len->b<w.heap.size
 path: ∀j,j<len->w.cell? ⟨b,off+j*2,none⟩=some (.string (Pt j))
 text: ∀j,j<len->w.cell? ⟨b,off+j*2+1,none⟩=some (.string (Tx j))
theorem FilesAt.later {E:World} {a:Option Addr} {b q:Nat} {I:Nat->BA} (B:FilesAt V a b q c h I) (D:Bw V E):FilesAt E a b q c h I:=
 ⟨B.addr,fun k=>Nat.lt_of_lt_of_le (B.lt k) D.size,fun j A=>by rw[D.cell (B.lt (by omega))];exact B.path j A,fun j A=>by rw[D.cell (B.lt (by omega))];exact B.text j A⟩
def OwnF (w:World) (base:Nat) (e:TypeId) (g len k:Nat) (Pt Tx:Nat->BA):Prop:=
 ∃xs,w.ownsRow base e 2 (.slice (some ⟨g,0,none⟩) len len) len xs/\∀j,j<k->xs[j*2]? =some (.string (Pt j))/\xs[j*2+1]? =some (.string (Tx j))
theorem OwnF.has {E:Nat->BA} (B:OwnF V b p c d n h E) (j:Nat) (A:j<d*2): ∃v,V.cell? ⟨c,j,none⟩=some v:=by
 obtain⟨I,z,_⟩:=B;have H:=z.1;rw[z.cellAt j A];exact⟨_,getElem?_eq_getElem (by omega)⟩
theorem OwnF.free {z:Nat->BA} (B:OwnF V b p c d n h z) (j:Nat):V.frozen? ⟨c,j,none⟩=false:=by
 obtain⟨E,A,_⟩:=B;exact A.frozenAt j
theorem OwnF.lt {g:Nat} {K:Nat->BA} (B:OwnF V b p g c d h K):g<V.heap.size/\b<=g:=by
 obtain⟨L,H,_⟩:=B;rcases H.2 with ⟨q,_⟩|⟨M,A,D,q,I,J,_⟩
 ·simp at q
 ·simp only[Value.slice.injEq,Option.some.injEq,Addr.mk.injEq,and_true,true_and] at q;obtain⟨rfl,rfl⟩:=q;exact⟨(aLt J),I⟩
theorem OwnF.files {I:Nat->BA} (B:OwnF V b p c d d h I):FilesAt V (some ⟨c,0,none⟩) c 0 d h I:=by
 have z:=B.lt.1;obtain⟨J,H,D⟩:=B;refine⟨fun _=>rfl,fun _=>z,fun j A=>?_,fun j A=>?_⟩
 ·rw[zero_add,H.cellAt _ (by omega)];exact (D j A).1
 ·rw[zero_add,H.cellAt _ (by omega)];exact (D j A).2
theorem OwnF.later {E:World} {L:Nat->BA} (F:OwnF V b p c d n h L) (U:Bw V E):OwnF E b p c d n h L:=by
 have D:=F.lt.1;obtain⟨O,J,M⟩:=F;refine⟨O,⟨J.1,?_⟩,M⟩;rcases J.2 with n|⟨X,K,A,H,q,B,N⟩
 ·exact .inl n
 ·simp only[Value.slice.injEq,Option.some.injEq,Addr.mk.injEq,and_true,true_and] at H;obtain⟨rfl,rfl⟩:=H;exact .inr ⟨c,d,A,rfl,q,(U.block c D).trans B,N⟩
def fpB (p:BA):Bool:=zaW p&& !(p.toList==[47])&&((zaL p).toList==p.toList)
def zkC (p t:BA):Bool:=fpB p&&decide ((t.size:Int)<=1500)
abbrev zqc (len:Nat) (Pt Tx:Nat->BA):Prop:=len<=8/\∀k,k<len->zkC (Pt k) (Tx k)=true/\(0<k->Op.bytesLess (Pt (k-1)).toList (Pt k).toList=true)
def zqd (len:Nat) (Pt Tx:Nat->BA):Bool:=decide (zqc len Pt Tx)
abbrev zxU (k:Nat) (Pt Tx:Nat->BA):Prop:=∀j,j<k->zkC (Pt j) (Tx j)=true/\(0<j->Op.bytesLess (Pt (j-1)).toList (Pt j).toList=true)
theorem zqe (q:t.toList.isEmpty=false) (h:((zaL t).toList==t.toList)=true):zaW t=true:=by
 cases w:zaW t with
 |true=>rfl
 |false=>
  rw[zid w] at h;have e:=(zei _ _).1 h;rw[<-e,Lib.toList_data] at q;cases q
def zii (Pt Tx:Nat->BA) (q:BA):Nat->BA×Bool
 |0=>({data:=#[]},false)
 |k+1=>if (zii Pt Tx q k).2=true then zii Pt Tx q k else if Pt k=q then (Tx k,true) else ({data:=#[]},false)
def zxV (len:Nat) (Pt Tx:Nat->BA) (q:BA):BA×Bool:=if zqd len Pt Tx=true then zii Pt Tx q len else ({data:=#[]},false)
end Go.Proofs.YtgcbmogmniahjaaGreat
