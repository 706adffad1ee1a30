/- Facts. -/
import Derived.Deep.Cut
import Derived.Test.YtegdaafmaookjaaGreatP18
import Derived.Sort.KeysCollected
import Derived.Sort.Walk0
namespace Go.Proofs.YtegdaafmaookjaaGreat
open Go.RowKit Go.PlainAid Go.Sort
theorem zfy (l:List BA0):l.map Value.string=l.flatMap (fun x=>[Value.string x]):=by
 induction l with
 |nil=>rfl
 |cons x l h=>rw[List.map_cons,List.flatMap_cons,h];rfl
def TwoM (w0:World) (b1 b2:Nat) (S1 S2:Sv) (m1 m2:Md) (w:World):Prop:=
 w.heap[w0.heap.size]? =some (.cells #[.slice S1.rq.a m1.rq.length S1.rq.cap,.slice S1.im.a m1.im.length S1.im.cap,.slice S1.ep.a m1.ep.length S1.ep.cap,.slice S1.st.a m1.st.length S1.st.cap,.slice S1.ex.a m1.ex.length S1.ex.cap] 59 (0,0))/\w.heap[w0.heap.size+1]? =some (.cells #[.slice S2.rq.a m2.rq.length S2.rq.cap,.slice S2.im.a m2.im.length S2.im.cap,.slice S2.ep.a m2.ep.length S2.ep.cap,.slice S2.st.a m2.st.length S2.st.cap,.slice S2.ex.a m2.ex.length S2.ex.cap] 59 (0,0))/\OwnMd w b1 S1 m1/\OwnMd w b2 S2 m2/\Bw w0 w
variable {g:Nat} {w:Md} {C:Cx} {q:PS} {W:Bool} {s:BA0}
theorem TwoM.later {w0 S w':World} {b2:Nat} {J A:Sv} {I:Md} (h:TwoM w0 g b2 J A w I S) (q:Bw S w'):TwoM w0 g b2 J A w I w':=
 ⟨(q.block _ (aLt h.1)).trans h.1,(q.block _ (aLt h.2.1)).trans h.2.1,h.2.2.1.later q,h.2.2.2.1.later q,h.2.2.2.2.trans (q.mono h.2.2.2.2.size)⟩
theorem ziH (w:World) (K b2:Nat) (h q:Sv) (A H:Md) (M:OwnMd w K h A) (L:OwnMd w b2 q H):TwoM w K b2 h q A H ((w.alloc (.cells (bxA h A) 59)).alloc (.cells (bxA q H) 59)):=by
 have J:Bw w (w.alloc (.cells (bxA h A) 59)):=bA0;have I:Below (w.alloc (.cells (bxA h A) 59)).heap.size (w.alloc (.cells (bxA h A) 59)) ((w.alloc (.cells (bxA h A) 59)).alloc (.cells (bxA q H) 59)):=bA0;refine⟨(I.block _ (by rw[zh];omega)).trans (hN0 w _),?_,(M.later J).later I,(L.later J).later I,J.trans (I.mono (by rw[zh];omega))⟩;have:=hN0 (w.alloc (.cells (bxA h A) 59)) (.cells (bxA q H) 59);rw[zh] at this;exact this
def zeq (m:Md):Prop:=m.rq.length<=4294967296/\m.im.length<=4294967296/\m.ep.length<=4294967296/\m.st.length<=4294967296/\m.ex.length<=4294967296
theorem zla {b:Md} (S:w.rq=b.rq) (h:w.im=b.im) (H:w.ep=b.ep) (q:w.st=b.st) (A:w.ex=b.ex):w=b:=by
 cases w;cases b;simp only at S h H q A;rw[S,h,H,q,A]
def za7 (s:BA0):BA0:=({data:=#[34]}:BA0)++s++({data:=#[34]}:BA0)
def asT (a b:BA0):BA0:=if a.toList==b.toList then a else a++({data:=#[32,97,115,32]}:BA0)++b
def zak (x:Im):BA0:=
 if x.first.toList==[42] then ({data:=#[105,109,112,111,114,116,32,42,32,97,115,32]}:BA0)++x.loc++({data:=#[32,102,114,111,109,32]}:BA0)++za7 x.spec++({data:=#[59,10]}:BA0)
 else if x.first.toList==[100,101,102,97,117,108,116] then ({data:=#[105,109,112,111,114,116,32]}:BA0)++x.loc++({data:=#[32,102,114,111,109,32]}:BA0)++za7 x.spec++({data:=#[59,10]}:BA0)
 else ({data:=#[105,109,112,111,114,116,32,123,32]}:BA0)++asT x.first x.loc++({data:=#[32,125,32,102,114,111,109,32]}:BA0)++za7 x.spec++({data:=#[59,10]}:BA0)
def zb5 (x:Ep):BA0:=
 if x.kind==3 then ({data:=#[101,120,112,111,114,116,32,42,32,102,114,111,109,32]}:BA0)++za7 x.spec++({data:=#[59,10]}:BA0)
 else if x.kind==2 then ({data:=#[101,120,112,111,114,116,32,123,32]}:BA0)++asT x.loc x.name++({data:=#[32,125,32,102,114,111,109,32]}:BA0)++za7 x.spec++({data:=#[59,10]}:BA0)
 else ({data:=#[101,120,112,111,114,116,32,123,32]}:BA0)++asT x.loc x.name++({data:=#[32,125,59,10]}:BA0)
def zaE (k:Int) (n e:BA0):BA0:=
 if k==1 then (if n.toList==[42,100,101,102,97,117,108,116] then ({data:=#[101,120,112,111,114,116,32,100,101,102,97,117,108,116,32]}:BA0)++e++({data:=#[59,10]}:BA0) else ({data:=#[108,101,116,32]}:BA0)++n++({data:=#[32,61,32]}:BA0)++e++({data:=#[59,10]}:BA0))
 else if k==2 then ({data:=#[102,117,110,99,116,105,111,110,32]}:BA0)++n++({data:=#[40,41,32,123,32,114,101,116,117,114,110,32]}:BA0)++e++({data:=#[59,32,125,10]}:BA0)
 else if k==3 then n++({data:=#[32,61,32]}:BA0)++e++({data:=#[59,10]}:BA0)
 else if k==4 then ({data:=#[112,114,105,110,116,40]}:BA0)++e++({data:=#[41,59,10]}:BA0)
 else if k==5 then ({data:=#[116,104,114,111,119,32]}:BA0)++e++({data:=#[59,10]}:BA0)
 else ({data:=#[102,97,105,108,32]}:BA0)++e++({data:=#[59,10]}:BA0)
def zdE (k:Int) (n e:BA0):BA0:=if n.toList==[42,100,101,102,97,117,108,116] then ({data:=#[101,120,112,111,114,116,32,100,101,102,97,117,108,116,32]}:BA0)++e++({data:=#[59,10]}:BA0) else zaE k n e
def rqT (s:BA0):BA0:=({data:=#[105,109,112,111,114,116,32]}:BA0)++za7 s++({data:=#[59,10]}:BA0)
def acc {α:Type} (f:α->BA0) (l:List α) (t:BA0):BA0:=l.foldl (fun t x=>t++f x) t
theorem zcJ {α:Type} (f:α->BA0) {l:List α} {x:α} (h:l[g]? =some x) (t:BA0):acc f (l.take (g+1)) t=acc f (l.take g) t++f x:=by
 obtain⟨q,rfl⟩:=gS h;rw[tG q,acc,List.foldl_append];rfl
theorem zeK {α:Type} (f:α->BA0) (l:List α): ∀t:BA0,t.size<=(acc f l t).size:=by
 induction l with
 |nil=>intro t;exact Nat.le_refl _
 |cons x l h=>
  intro t;refine Nat.le_trans ?_ (h (t++f x));rw[sA];omega
theorem zrn {α:Type} (f:α->BA0) (a b:List α) (t:BA0):acc f (a++b) t=acc f b (acc f a t):=by rw[acc,List.foldl_append];rfl
theorem zer {α:Type} (f:α->BA0) (l:List α) (j:Nat) (t:BA0):(acc f (l.take j) t).size<=(acc f l t).size:=by
 have:acc f l t=acc f (l.drop j) (acc f (l.take j) t):=by rw[<-zrn,List.take_append_drop]
 rw[this];exact zeK f _ _
def epF (x:Ep):BA0:=if x.loc.toList==[42,100,101,102,97,117,108,116] then sNone else zb5 x
def stF (ex:List Ex) (s:Sm):BA0:=zaE s.kind s.name (prX ex s.expr.toNat)
def zcY (ex:List Ex) (s:Sm):BA0:=zdE s.kind s.name (prX ex s.expr.toNat)
def zcv (m:Md):BA0:=acc epF m.ep (acc zak m.im (acc rqT m.rq sNone))
def zcw (m:Md):BA0:=acc (stF m.ex) m.st (zcv m)
def zbX (m:Md):BA0:=acc (zcY m.ex) m.st (zcv m)
def PrintOut (T:BA0) (m:Md) (e:Ending):Prop:=(Tree m/\e= .returned (.string T))∨(¬Tree m/\e= .returned (.string sNone))
structure Small (m:Md):Prop where
 rq: ∀x∈m.rq,x.size<=4294967296
 im: ∀x∈m.im,x.spec.size<=4294967296/\x.first.size<=4294967296/\x.loc.size<=4294967296
 ep: ∀x∈m.ep,x.spec.size<=4294967296/\x.name.size<=4294967296/\x.loc.size<=4294967296
 st: ∀x∈m.st,x.name.size<=4294967296
 nums:zay m.ex
 few:m.rq.length<=4294967296/\m.im.length<=4294967296/\m.ep.length<=4294967296/\m.st.length<=4294967296/\m.ex.length<=4294967296
abbrev dN:List UInt8:=[42,100,101,102,97,117,108,116]
def zcd (s:Sm):Bool:=(s.kind==1||s.kind==2)&& !(s.name.toList==dN)
def stN (l:List Sm):List BA0:=(l.filter zcd).map (·.name)
def imN (l:List Im):List BA0:=l.map (·.loc)
def zbY (m:Md):List BA0:=stN m.st++imN m.im
def KG {α:Type} (R:PS->PS->Prop) (p:α->PS) (x:Except Nat α) (q:PS):Prop:=∀a,x= .ok a->R q (p a)
def zlb (C:Cx) (k:Int) (n:BA0):Prop:=n=sNone∨k=1∨∃i o,zO C i o=true/\n=(ze C i).text
def zgo (x:Ep):Prop:=x.kind=1->x.spec=sNone
structure Kept (C:Cx) (R:PS->PS->Prop):Prop where
 rfl': ∀q,R q q
 tr: ∀{a b c},R a b->R b c->R a c
 adv: ∀q,R q (adv q)
 ex: ∀x q,KG R id (zZ C x q) q
 im: ∀x q,KG R id (zau C x q) q
 ep: ∀x q,zgo x->KG R id (zv C x q) q
 sp: ∀q,KG R Prod.fst (zR C q) q
 st: ∀k n q,zlb C k n->KG R id (zae C k n q) q
theorem KG.bd {C:Cx} {R:PS->PS->Prop} {α β:Type} (H:Kept C R) {p:α->PS} {r:β->PS} {x:Except Nat α} {f:α->Except Nat β} {q:PS} (h:KG R p x q) (k: ∀a,x= .ok a->KG R r (f a) (p a)):KG R r (bd x f) q:=by
 intro b I;obtain⟨a,w,A⟩:=zr I;exact H.tr (h a w) (k a w b A)
theorem KG.after {R:PS->PS->Prop} (H:Kept C R) {α:Type} {r:α->PS} {y:Except Nat α} {q':PS} (h:R q q') (k:KG R r y q'):KG R r y q:=fun b w=>H.tr h (k b w)
theorem KG.ok {R:PS->PS->Prop} (H:Kept C R) {α:Type} {p:α->PS} {a:α}:KG R p (.ok a) (p a):=fun b h=>by cases h;exact H.rfl' _
theorem KG.err {R:PS->PS->Prop} {α:Type} {p:α->PS}:KG R p (.error g) q:=fun b h=>by cases h
theorem za3 {R:PS->PS->Prop} (H:Kept C R) (k:Int) (x:BA0) (q:PS):KG R id (zd C k x q) q:=fun a h=>by obtain⟨rfl,_⟩:=zcj h;exact H.adv q
theorem zdZ {R:PS->PS->Prop} (H:Kept C R) (o:Bool) (q:PS):KG R Prod.fst (zq C o q) q:=fun a h=>by obtain⟨rfl,_⟩:=zbF h;exact H.adv q
theorem zlc {R:PS->PS->Prop} (H:Kept C R) (n:BA0) (q:PS):KG R id (zbT C n q) q:=by
 unfold zbT
 split
 ·exact .bd H (.bd H (za3 H _ _ _) fun _ _=>za3 H _ _ _) fun _ _=>H.ex _ _
 ·exact H.ex _ _
theorem zro {R:PS->PS->Prop} (H:Kept C R) (n f:BA0) (q:PS):KG R id (zci C n f q) q:=by
 unfold zci
 split
 ·exact .bd H (.bd H (za3 H _ _ _) fun _ _=>za3 H _ _ _) fun _ _=>H.ex _ _
 ·exact H.ex _ _
theorem zrp {R:PS->PS->Prop} (H:Kept C R) (f:Nat): ∀(w:NT) (d:Nat) (q:PS),KG R id (ev C f w d q) q:=by
 induction f with
 |zero=>intro w d q;cases w using NT.elim<;>exact .err
 |succ f h=>
  intro w d q;cases w using NT.elim<;>rw[ev]
  ·exact .bd H (h _ _ _) fun _ _=>h _ _ _
  ·split
   ·exact .bd H (.bd H (.after H (H.adv q) (h _ _ _)) fun _ _=>H.ex _ _) fun _ _=>h _ _ _
   ·exact .ok (p:=id) H
  ·exact .bd H (h _ _ _) fun _ _=>h _ _ _
  ·split
   ·exact .bd H (.bd H (.after H (H.adv q) (h _ _ _)) fun _ _=>H.ex _ _) fun _ _=>h _ _ _
   ·exact .ok (p:=id) H
  ·split
   ·exact .after H (H.adv q) (H.ex _ _)
   ·split
    ·split
     ·exact .err
     ·exact .bd H (.after H (H.adv q) (h _ _ _)) fun _ _=>za3 H _ _ _
    ·split
     ·exact .after H (H.adv q) (zlc H _ _)
     ·refine .bd H (zdZ H _ _) fun a _=>?_
      split
      ·exact .bd H (.after H (H.adv _) (zdZ H _ _)) fun _ _=>zro H _ _ _
      ·exact zlc H _ _
theorem zfz {R:PS->PS->Prop} (H:Kept C R) (h:NT) (d:Nat) (q:PS):KG R id (pE C h d q) q:=zrp H _ _ _ _
theorem zld {R:PS->PS->Prop} (H:Kept C R) {y:PRN} {F:PR->BA0->PR} (h:KG R Prod.fst y q) (k: ∀a,y= .ok a->KG R id (F (.ok a.1) a.2) a.1):KG R Prod.fst (withN y F) q:=
 .bd H h fun a w=>.bd (r:=Prod.fst) H (k a w) fun b _=>.ok (p:=Prod.fst) (a:=(b,a.2)) H
theorem zle {R:PS->PS->Prop} (H:Kept C R) (q:PS):KG R Prod.fst (zdh C q) q:=
 zld H (.bd H (za3 H _ _ _) fun _ _=>zdZ H _ _) fun _ _=>.bd H (.bd H (.bd H (.bd (p:=id) H (.ok (p:=id) H) fun _ _=>za3 H _ _ _) fun _ _=>zfz H _ _ _) fun _ _=>za3 H _ _ _) fun _ _=>H.st _ _ _ (.inr (.inl rfl))
theorem zlf {k:Int} {a:PS×BA0} (h:zq C W q= .ok a):zlb C k a.2:=by
 obtain⟨rfl,w⟩:=zbF h;exact .inr (.inr ⟨_,_,w,rfl⟩)
theorem zlg {R:PS->PS->Prop} (H:Kept C R) (q:PS):KG R Prod.fst (fnP C q) q:=
 zld H (.bd H (za3 H _ _ _) fun _ _=>zdZ H _ _) fun a h=>.bd H (.bd H (.bd H (.bd H (.bd H (.bd H (.bd H (.bd (p:=id) H (.ok (p:=id) H) fun _ _=>za3 H _ _ _) fun _ _=>za3 H _ _ _) fun _ _=>za3 H _ _ _) fun _ _=>za3 H _ _ _) fun _ _=>zfz H _ _ _) fun _ _=>za3 H _ _ _) fun _ _=>za3 H _ _ _) fun _ _=>H.st _ _ _ (by
  obtain⟨b,_,w⟩:=zr h
  exact zlf w)
theorem zrq {R:PS->PS->Prop} (H:Kept C R) (e:Bool) (a:PS×BA0):KG R Prod.fst (asP C e a) a.1:=by
 unfold asP
 split
 ·exact .after H (H.adv _) (zdZ H _ _)
 ·split
  ·exact .err
  ·exact .ok (p:=Prod.fst) H
theorem zrr {R:PS->PS->Prop} (H:Kept C R) (e:Bool) (f:Nat): ∀(q:PS) (acc:List Ep),KG R Prod.fst (zdT C e f q acc) q:=by
 induction f with
 |zero=>intro q acc;exact .err
 |succ f h=>
  intro q acc;rw[zdT];refine .bd H (zdZ H _ _) fun a _=>.bd H (zrq H _ _) fun b _=>?_
  split
  ·exact .after H (H.adv _) (h _ _)
  ·exact .bd (r:=Prod.fst) H (za3 H _ _ _) fun c _=>.ok (p:=Prod.fst) (a:=(c,_)) H
theorem zlh {R:PS->PS->Prop} (H:Kept C R) (e:Bool) (q:PS):KG R Prod.fst (zd2 C e q) q:=.bd H (za3 H _ _ _) fun _ _=>zrr H _ _ _ _
theorem zgp {R:PS->PS->Prop} (H:Kept C R) {x:PR} (h:KG R id x q):KG R Prod.fst (zbu C (zaT C x)) q:=
 .bd H (.bd H (.bd H h fun _ _=>za3 H _ _ _) fun _ _=>H.sp _) fun a _=>.bd (r:=Prod.fst) H (za3 H _ _ _) fun c _=>.ok (p:=Prod.fst) (a:=(c,a.2)) H
theorem ziI {R:PS->PS->Prop} (H:Kept C R) {α:Type} {f:α->PS->PR} (A: ∀a q,KG R id (f a q) q) (l:List α): ∀(x:PR) (q:PS),KG R id x q->KG R id (zaf f l x) q:=by
 induction l with
 |nil=>intro x q h;exact h
 |cons a l w=>intro x q h;exact w _ _ (.bd H h fun _ _=>A _ _)
theorem zrs {R:PS->PS->Prop} (H:Kept C R) (q:PS):KG R id (zbo C q) q:=by
 refine .bd H (za3 H _ _ _) fun h _=>?_
 split
 ·exact .bd H (zlh H _ _) fun a _=>.bd H (zgp H (.ok (p:=id) H)) fun b _=>ziI H (fun _ _=>H.im _ _) _ _ _ (.ok (p:=id) H)
 ·split
  ·exact .bd H (.bd H (.bd H (za3 H _ _ _) fun _ _=>za3 H _ _ _) fun _ _=>zdZ H _ _) fun a _=>.bd H (zgp H (.ok (p:=id) H)) fun _ _=>H.im _ _
  ·split
   ·exact .bd H (zdZ H _ _) fun a _=>.bd H (zgp H (.ok (p:=id) H)) fun _ _=>H.im _ _
   ·exact .bd H (H.sp _) fun _ _=>za3 H _ _ _
theorem zrt {R:PS->PS->Prop} (H:Kept C R) (q:PS):KG R id (zav C q) q:=by
 refine .bd H (za3 H _ _ _) fun w _=>?_
 split
 ·refine .bd H (zlh H _ _) fun a _=>?_
  split
  ·exact .bd H (za3 H _ _ _) fun _ _=>ziI H (fun _ _=>H.ep _ _ (by first|exact fun _=>rfl|exact fun h=>absurd (show (2:Int)=1 from h) (by decide)|exact fun h=>absurd (show (3:Int)=1 from h) (by decide))) _ _ _ (.ok (p:=id) H)
  ·exact .bd H (zgp H (.ok (p:=id) H)) fun _ _=>ziI H (fun _ _=>H.ep _ _ (by first|exact fun _=>rfl|exact fun h=>absurd (show (2:Int)=1 from h) (by decide)|exact fun h=>absurd (show (3:Int)=1 from h) (by decide))) _ _ _ (.ok (p:=id) H)
 ·split
  ·exact .bd H (zgp H (za3 H _ _ _)) fun _ _=>H.ep _ _ (by first|exact fun _=>rfl|exact fun h=>absurd (show (2:Int)=1 from h) (by decide)|exact fun h=>absurd (show (3:Int)=1 from h) (by decide))
  ·split
   ·exact .bd H (.bd H (.bd H (.bd H (za3 H _ _ _) fun _ _=>zfz H _ _ _) fun _ _=>za3 H _ _ _) fun _ _=>H.st _ _ _ (.inr (.inl rfl))) fun _ _=>H.ep _ _ (by first|exact fun _=>rfl|exact fun h=>absurd (show (2:Int)=1 from h) (by decide)|exact fun h=>absurd (show (3:Int)=1 from h) (by decide))
   ·split
    ·exact .bd H (zle H _) fun _ _=>H.ep _ _ (by first|exact fun _=>rfl|exact fun h=>absurd (show (2:Int)=1 from h) (by decide)|exact fun h=>absurd (show (3:Int)=1 from h) (by decide))
    ·split
     ·exact .bd H (zlg H _) fun _ _=>H.ep _ _ (by first|exact fun _=>rfl|exact fun h=>absurd (show (2:Int)=1 from h) (by decide)|exact fun h=>absurd (show (3:Int)=1 from h) (by decide))
     ·exact .err
theorem zli {R:PS->PS->Prop} (H:Kept C R) (s:BA0) (k:Int) (q:PS):KG R id (bd (bd (bd (zd C 1 s q) (pE C .sum 0)) (zd C 4 cSemi)) (zae C k sNone)) q:=
 .bd H (.bd H (.bd H (za3 H _ _ _) fun _ _=>zfz H _ _ _) fun _ _=>za3 H _ _ _) fun _ _=>H.st _ _ _ (.inl rfl)
theorem zru {R:PS->PS->Prop} (H:Kept C R) (q:PS):KG R id (zK C q) q:=by
 unfold zK
 split
 ·exact zrs H q
 ·split
  ·exact zrt H q
  ·split
   ·exact .bd H (zle H q) fun a _=>.ok (p:=id) H
   ·split
    ·exact .bd H (zlg H q) fun a _=>.ok (p:=id) H
    ·split
     ·exact .bd H (.bd H (.bd H (.bd H (.bd H (za3 H _ _ _) fun _ _=>za3 H _ _ _) fun _ _=>zfz H _ _ _) fun _ _=>za3 H _ _ _) fun _ _=>za3 H _ _ _) fun _ _=>H.st _ _ _ (.inl rfl)
     ·split
      ·exact zli H _ _ _
      ·split
       ·exact zli H _ _ _
       ·exact .bd H (zdZ H _ _) fun a h=>.bd H (.bd H (.bd H (za3 H _ _ _) fun _ _=>zfz H _ _ _) fun _ _=>za3 H _ _ _) fun _ _=>H.st _ _ _ (zlf h)
theorem zrv {R:PS->PS->Prop} (H:Kept C R) (f:Nat): ∀q,KG R id (zdU C f q) q:=by
 induction f with
 |zero=>intro q;exact .err
 |succ f h=>
  intro q;rw[zdU]
  split
  ·exact .bd H (zru H q) fun _ _=>h _
  ·exact .ok (p:=id) H
theorem zho {R:PS->PS->Prop} (h:zbJ s W (.ok q)) (H: ∀A,zap s W (.ok A)->Kept ⟨A,s.size,W⟩ R):R zcl q:=by
 obtain⟨r,I,e⟩:=h;cases r with
 |error p=>cases e
 |ok A=>exact zrv (H A I) _ zcl q e.symm
theorem zrw {l:List BA0} (h: ¬zbb l s=true):s∉l:=fun q=>h (List.any_eq_true.2 ⟨s,q,beq_self_eq_true _⟩)
theorem zrx (h:zbJ s W (.ok q)):q.rq.Nodup:=by
 refine zho (R:=fun a b=>a.rq.Nodup->b.rq.Nodup) h (fun K _=>?_) List.nodup_nil;refine⟨fun _ h=>h,fun h k x=>k (h x),fun _ h=>h,?_,?_,?_,?_,?_⟩
 ·intro x q a h w;obtain⟨rfl,_⟩:=zbG h;exact w
 ·intro x q a h w;unfold zau at h
  split at h<;>cases h
  exact w
 ·intro x q _ a h w;unfold zv at h
  split at h
  ·cases h
  ·split at h<;>cases h<;>exact w
 ·intro q a h w;unfold zR at h
  split at h
  ·split at h
   ·cases h;exact w
   ·next I=>
    split at h<;>cases h
    show (q.rq++[_]).Nodup;rw[List.nodup_append];refine⟨w,by simp,fun a H b J e=>zrw I ?_⟩;rw[List.mem_singleton.1 J] at e;exact e▸H
  ·cases h
 ·intro k n q _ a h w;unfold zae at h
  split at h<;>cases h
  exact w
theorem zry (h:zbJ s W (.ok q)): ∀x∈q.ep++q.la,zgo x:=by
 refine zho (R:=fun a b=>(∀x∈a.ep++a.la,zgo x)->∀x∈b.ep++b.la,zgo x) h (fun J _=>?_) (fun x H=>by cases H);refine⟨fun _ h=>h,fun h k x=>k (h x),fun _ h=>h,?_,?_,?_,?_,?_⟩
 ·intro x q a h w;obtain⟨rfl,_⟩:=zbG h;exact w
 ·intro x q a h w;unfold zau at h
  split at h<;>cases h
  exact w
 ·intro x q H a h w;unfold zv at h
  split at h
  ·cases h
  ·split at h<;>cases h
   all_goals
    intro y A;simp only[id,List.mem_append,List.mem_singleton] at A w;rcases A with A|A
    ·first
     |exact w y (.inl A)
     |(rcases A with A|rfl
       ·exact w y (.inl A)
       ·exact H)
    ·first
     |exact w y (.inr A)
     |(rcases A with A|rfl
       ·exact w y (.inr A)
       ·exact H)
 ·intro q a h w;unfold zR at h
  split at h
  ·split at h
   ·cases h;exact w
   ·split at h<;>cases h
    exact w
  ·cases h
 ·intro k n q _ a h w;unfold zae at h
  split at h<;>cases h
  exact w
def zcZ (st:List Sm):Prop:=∀s∈st,s.name.toList=dN->s.kind=1
def zlj (ts:List Tk):Prop:=∀t∈ts,t.kind=1->t.text.toList≠dN
variable {s:BA0} {w:Bool} {g:Nat}
theorem zrz {e:Nat} {t:Tk} (W:g<s.size) (h:Tok s w g t e):t.kind=1->t.text.toList≠dN:=by
 have K:=(zfj W h).1;have I:=(zfj W h).2.1;cases h using Tok.elim with
 |name A _=>
  intro _ k;have H:bt (s.extract g e) 0=42:=by
   rw[zdQ,<-Lib.toList_data,k];rfl
  have J:bt (s.extract g e) 0=bt s g:=by
   rw[zdQ,zdQ,ByteArray.data_extract];simp only[List.getD,List.getElem?_map,Array.getElem?_toList,Array.getElem?_extract];rw[if_pos (by have:s.data.size=s.size:=rfl;omega),Nat.add_zero]
  rw[<-J,H] at A;cases w<;>revert A<;>decide
 |num _ _=>intro k;cases k
 |str _ _=>intro k;cases k
 |sign _=>intro k;cases k
theorem zr0 {n:Nat} {r:Except Nat (List Tk)} (h:Lx s w g n r): ∀q,r= .ok q->zlj q:=by
 induction h using Lx.ind with
 |done=>intro q k;cases k;intro t H;cases H
 |bad _ _=>intro q k;cases k
 | @tok g n e b t r h L H K J I=>
  intro q k;cases r with
  |error p=>cases k
  |ok l=>
   cases k;intro u A;rcases List.mem_cons.1 A with rfl|A
   ·exact zrz h H
   ·exact I l rfl u A
theorem zr1 {C:Cx} (W:zlj C.ts) (h:zO C g w=true):(ze C g).text.toList≠dN:=by
 have q:=zfT h;have e:ze C g=C.ts[g]:=by simp[ze,List.getD,gE q]
 simp only[zO,Bool.and_eq_true,beq_iff_eq] at h;rw[e] at h ⊢;exact W _ (List.getElem_mem q) h.1
theorem zr2 {k:Int} (h:sNone.toList=dN):k=1:=by
 rw[Lib.toList_data] at h;cases h
theorem zlk {q:PS} (h:zbJ s w (.ok q)):zcZ q.st:=by
 refine zho (R:=fun a b=>zcZ a.st->zcZ b.st) h (fun N I=>?_) (fun s A=>by cases A);obtain⟨_,_,I⟩:=I;have M:=zr0 I N rfl;refine⟨fun _ h=>h,fun h k x=>k (h x),fun _ h=>h,?_,?_,?_,?_,?_⟩
 ·intro x q a h W;obtain⟨rfl,_⟩:=zbG h;exact W
 ·intro x q a h W;unfold zau at h
  split at h<;>cases h
  exact W
 ·intro x q _ a h W;unfold zv at h
  split at h
  ·cases h
  ·split at h<;>cases h<;>exact W
 ·intro q a h W;unfold zR at h
  split at h
  ·split at h
   ·cases h;exact W
   ·split at h<;>cases h
    exact W
  ·cases h
 ·intro k n q H a h W;unfold zae at h
  split at h<;>cases h
  intro s A;rcases List.mem_append.1 A with A|A
  ·exact W s A
  ·rw[List.mem_singleton.1 A];intro K;rcases H with rfl|H|⟨i,o,L,rfl⟩
   ·exact zr2 K
   ·exact H
   ·exact absurd K (zr1 M L)
open List (length_append mem_cons_self mem_cons_of_mem map_cons mem_map_of_mem length_map pairwise_map getElem?_set replicate)
theorem mG {α:Type _} {l:List α} {i:Nat} {a:α} (h:l[i]? = some a):a ∈ l:=List.mem_of_getElem? h
def PrOf (T:BA0) (m:Md) (t:BA0):Prop:=(Tree m/\t=T)∨(¬Tree m/\t=sNone)
theorem PrintOut.form {T:BA0} {m:Md} {e:Ending} (h:PrintOut T m e): ∃t,PrOf T m t/\e= .returned (.string t):=by
 rcases h with ⟨q,w⟩|⟨q,w⟩
 ·exact⟨T,.inl ⟨q,rfl⟩,w⟩
 ·exact⟨sNone,.inr ⟨q,rfl⟩,w⟩
theorem PrOf.size {T t:BA0} {m:Md} {n:Nat} (h:PrOf T m t) (w:Tree m->T.size<=n):t.size<=n:=by
 rcases h with ⟨q,rfl⟩|⟨_,rfl⟩
 ·exact w q
 ·exact Nat.zero_le _
def zes (t:BA0) (scr:Bool) (m:Md):Prop:=∃q,zbJ t scr (.ok q)/\zfo q=m
def zhp (T:BA0) (m:Md) (scr:Bool) (e:Ending):Prop:=∃t,PrOf T m t/\SameOut (zes t scr m) e
theorem zll {t:BA0} {w:Bool} {m:Md} {p:Nat} (h:zbJ t w (.error p)): ¬zes t w m:=by
 rintro⟨q,A,_⟩;cases zk8 h A
theorem zlm {t:BA0} {w:Bool} {m n:Md} {q:PS} (h:zbJ t w (.ok q)) (A:n=zfo q):zes t w m↔n=m:=by
 constructor
 ·rintro⟨J,H,I⟩;cases zk8 h H;rw[A];exact I
 ·intro e;exact⟨q,h,by rw[<-A];exact e⟩
theorem ParseOut.md {s:BA0} {A:Bool} {w w':World} {e:Ending} (h:ParseOut s A w e w'):
  (∃(q:PS) (S:Sv) (n:Md),zbJ s A (.ok q)/\n=zfo q/\e= .returned (.tuple #[zo S n,.int .i64 (-1)])/\OwnMd w' w.heap.size S n/\zeq n)∨∃p:Nat,zbJ s A (.error p)/\e= .returned (.tuple #[.agg bxN,.int .i64 p]):=by
 obtain⟨y,J,H⟩:=h;cases y with
 |ok q=>
  obtain⟨S,K,I⟩:=H;refine .inl ⟨q,S,zfo q,J,rfl,K,I.md,?_⟩;have M:=I.inv;have L:(zfo q).ep.length=q.ep.length+q.la.length:=by show (q.ep++q.la).length=_;rw[length_append]
  refine⟨?_,?_,by rw[L];omega,?_,?_⟩
  ·show q.rq.length<=_;omega
  ·show q.im.length<=_;omega
  ·show q.st.length<=_;omega
  ·show q.ex.length<=_;omega
 |error p=>exact .inr ⟨p,J,H⟩
theorem zr3 {k:Int} {n e:BA0} (h:n.toList=dN->k=1):zdE k n e=zaE k n e:=by
 unfold zdE
 split
 ·next q=>
  have w:=eq_of_beq q;rw[h w,zaE,if_pos (by decide),if_pos q]
 ·rfl
theorem zr4 {α:Type} {f g:α->BA0} (l:List α): ∀t,(∀x∈l,f x=g x)->acc f l t=acc g l t:=by
 induction l with
 |nil=>intro t _;rfl
 |cons x l q=>
  intro t h;show acc f l (t++f x)=acc g l (t++g x);rw[h x (mem_cons_self ..)];exact q _ fun y w=>h y (mem_cons_of_mem _ w)
theorem zr5 {m:Md} (h:zcZ m.st):zbX m=zcw m:=zr4 _ _ fun s q=>zr3 (h s q)
theorem zln {m:Md} {w:Bool} {I A:BA0} (N:PrOf (zcw m) m I) (J:PrOf (zbX m) m A):zes I w m↔zes A w m:=by
 by_cases H:zcZ m.st
 ·have:I=A:=by
   rw[zr5 H] at J;rcases N with ⟨a,rfl⟩|⟨a,rfl⟩<;>rcases J with ⟨b,rfl⟩|⟨b,rfl⟩
   ·rfl
   ·exact absurd a b
   ·exact absurd b a
   ·rfl
  rw[this]
 ·have K: ∀t,¬zes t w m:=by
   rintro t ⟨q,L,M⟩;have:=zlk L;rw[<-M] at H;exact H this
  exact⟨fun h=>absurd h (K _),fun h=>absurd h (K _)⟩
def MOk (m:Md):Prop:=∃t,PrOf (zcw m) m t/\zes t false m
theorem zlo {T:BA0} {m:Md} {t u:BA0} (h:PrOf T m t) (k:PrOf T m u):t=u:=by
 rcases h with ⟨a,rfl⟩|⟨a,rfl⟩<;>rcases k with ⟨b,rfl⟩|⟨b,rfl⟩
 ·rfl
 ·exact absurd a b
 ·exact absurd b a
 ·rfl
theorem zr6 {m:Md} {e:Ending} (h:zhp (zcw m) m false e):SameOut (MOk m) e:=by
 obtain⟨t,q,b,rfl,A⟩:=h;exact⟨b,rfl,A.trans ⟨fun k=>⟨t,q,k⟩,fun⟨u,w,k⟩=>zlo w q▸k⟩⟩
theorem zr7 {m:Md} {e:Ending} (h:zhp (zbX m) m false e):SameOut (MOk m) e:=by
 obtain⟨t,A,b,rfl,J⟩:=h;have H: ∃s,PrOf (zcw m) m s:=by
  by_cases w:Tree m
  ·exact⟨_,.inl ⟨w,rfl⟩⟩
  ·exact⟨_,.inr ⟨w,rfl⟩⟩
 obtain⟨s,q⟩:=H;exact⟨b,rfl,J.trans ⟨fun k=>⟨s,q,(zln q A).2 k⟩,fun⟨u,I,k⟩=>(zln q A).1 (zlo I q▸k)⟩⟩
structure FewP (q:PS):Prop where
 rq:q.rq.length<=40
 im:q.im.length<=40
 ep:q.ep.length+q.la.length<=40
 st:q.st.length<=80
 ex:q.ex.length<=300
theorem zr8 {s:BA0} {A:Bool} {q:PS} (h:zbJ s A (.ok q)):FewP q:=by
 refine zho (R:=fun a b=>FewP a->FewP b) h (fun H _=>?_) ⟨by decide,by decide,by decide,by decide,by decide⟩;refine⟨fun _ h=>h,fun h k x=>k (h x),fun _ h=>⟨h.rq,h.im,h.ep,h.st,h.ex⟩,?_,?_,?_,?_,?_⟩
 ·intro x q a h w;obtain⟨rfl,_⟩:=zbG h;exact⟨w.rq,w.im,w.ep,w.st,by show (q.ex++[x]).length<=300;rw[length_append];simp;omega⟩
 ·intro x q a h w;unfold zau at h
  split at h<;>cases h
  exact⟨w.rq,by show (q.im++[x]).length<=40;rw[length_append];simp;omega,w.ep,w.st,w.ex⟩
 ·intro x q _ a h w;unfold zv at h
  split at h
  ·cases h
  ·split at h<;>cases h
   ·exact⟨w.rq,w.im,by show q.ep.length+(q.la++[x]).length<=40;rw[length_append];simp;omega,w.st,w.ex⟩
   ·exact⟨w.rq,w.im,by show (q.ep++[x]).length+q.la.length<=40;rw[length_append];simp;omega,w.st,w.ex⟩
 ·intro q a h w;unfold zR at h
  split at h
  ·split at h
   ·cases h;exact⟨w.rq,w.im,w.ep,w.st,w.ex⟩
   ·split at h<;>cases h
    exact⟨by show (q.rq++[_]).length<=40;rw[length_append];simp;omega,w.im,w.ep,w.st,w.ex⟩
  ·cases h
 ·intro k n q _ a h w;unfold zae at h
  split at h<;>cases h
  exact⟨w.rq,w.im,w.ep,by show (q.st++[_]).length<=80;rw[length_append];simp;omega,w.ex⟩
structure MOkP (m:Md):Prop where
 rq:m.rq.length<=40
 fit: ∀x∈m.ep,zgo x
 nd:m.rq.Nodup
 im:m.im.length<=10000
 ep:m.ep.length<=10000
 st:m.st.length<=10000
 ex:m.ex.length<=10000
 fair:zcZ m.st
theorem MOk.parts {m:Md} (h:MOk m):MOkP m:=by
 obtain⟨t,_,q,A,rfl⟩:=h;have w:=zr8 A;refine⟨w.rq,zry A,zrx A,by have:=w.im;show q.im.length<=_;omega,?_,by have:=w.st;show q.st.length<=_;omega,by have:=w.ex;show q.ex.length<=_;omega,zlk A⟩;have:=w.ep;show (q.ep++q.la).length<=_;rw[length_append];omega
structure Lk where
 frm:Int
 spec:BA0
 to:Int
abbrev Ky:Type:=Int×List UInt8
def zW (l:Lk):Ky:=(l.frm,l.spec.toList)
def zbd (ls:List Lk) (k:Ky):Int:=ls.foldr (fun l r=>if zW l=k then l.to else r) (-1)
theorem zhq (l:Lk) (ls:List Lk) (k:Ky):zbd (l::ls) k=if zW l=k then l.to else zbd ls k:=rfl
variable (w:List Lk) {W:List Lk} {C:Ky} {g:Nat} {S:Lk} {q:List Bool} {z:Nat->List Nat}
theorem zlp (h: ∀l∈W,zW l≠C):zbd W C= -1:=by
 induction W with
 |nil=>rfl
 |cons l W q=>rw[zhq,if_neg (h l (mem_cons_self ..)),q fun x w=>h x (mem_cons_of_mem _ w)]
theorem zlq (q:W[g]? =some S) (w:zW S=C) (h: ∀j x,j<g->W[j]? =some x->zW x≠C):zbd W C=S.to:=by
 induction W generalizing g with
 |nil=>cases q
 |cons y W A=>
  rw[zhq];cases g with
  |zero=>cases q;rw[if_pos w]
  |succ g=>rw[if_neg (h 0 y (by omega) rfl)];exact A q fun j x I H=>h (j+1) x (by omega) H
theorem zlr {ls:List Lk} {k:Ky} (h:zbd ls k≠ -1): ∃l∈ls,zW l=k/\l.to=zbd ls k:=by
 induction ls with
 |nil=>exact absurd rfl h
 |cons l ls w=>
  rw[zhq] at h ⊢;by_cases e:zW l=k
  ·rw[if_pos e];exact⟨l,mem_cons_self ..,e,rfl⟩
  ·rw[if_neg e] at h ⊢;obtain⟨x,H,q,A⟩:=w h;exact⟨x,mem_cons_of_mem _ H,q,A⟩
theorem ziJ (q:(W.map zW).Nodup) (w:S∈W):zbd W (zW S)=S.to:=by
 induction W with
 |nil=>cases w
 |cons y W A=>
  rw[zhq];rw[map_cons,List.nodup_cons] at q;rcases List.mem_cons.1 w with rfl|h
  ·rw[if_pos rfl]
  ·rw[if_neg (show ¬zW y=zW S from fun e=>q.1 (by rw[e];exact mem_map_of_mem h))];exact A q.2 h
def zdF:Nat->List (List BA0)->List Ky
 |_,[]=>[]
 |f,rq::r=>rq.map (fun s=>((f:Int),s.toList))++zdF (f+1) r
def zar (rqs:List (List BA0)):Nat:=(rqs.map List.length).sum
theorem ziK (h:List (List BA0)): ∀f,(zdF f h).length=zar h:=by
 induction h with
 |nil=>intro f;rfl
 |cons r h q=>intro f;rw[zdF,length_append,length_map,q,zar,zar,map_cons,List.sum_cons]
theorem zeL {q:List (List BA0)}: ∀{f},C∈zdF f q↔∃(i:Nat) (rq:List BA0) (s:BA0),q[i]? =some rq/\s∈rq/\C=(((f+i:Nat):Int),s.toList):=by
 induction q with
 |nil=>
  intro f;constructor
  ·intro h;cases h
  ·rintro⟨i,rq,s,h,_⟩;cases h
 |cons r q H=>
  intro f;rw[zdF,List.mem_append,H,List.mem_map];constructor
  ·rintro (⟨s,hs,rfl⟩|⟨i,rq,s,w,A,rfl⟩)
   ·exact⟨0,r,s,rfl,hs,rfl⟩
   ·exact⟨i+1,rq,s,w,A,by rw[show f+1+i=f+(i+1) by omega]⟩
  ·rintro⟨i,rq,s,w,A,rfl⟩;cases i with
   |zero=>cases w;exact .inl ⟨s,A,rfl⟩
   |succ i=>exact .inr ⟨i,rq,s,w,A,by rw[show f+1+i=f+(i+1) by omega]⟩
theorem zls {a b:BA0} (h:a.toList=b.toList):a=b:=(ze6 a b).1 (by rw[h];exact beq_self_eq_true _)
theorem ziL {q:List (List BA0)}: ∀f,(∀rq∈q,rq.Nodup)->(zdF f q).Nodup:=by
 induction q with
 |nil=>intro f _;exact List.nodup_nil
 |cons r q H=>
  intro f h;rw[zdF,List.nodup_append];refine⟨?_,H _ fun x J=>h x (mem_cons_of_mem _ J),?_⟩
  ·have:=h r (mem_cons_self ..);unfold List.Nodup at this ⊢;rw[pairwise_map];exact this.imp fun w e=>w (zls (Prod.mk.inj e).2)
  ·intro a A b I e;obtain⟨s,_,rfl⟩:=List.mem_map.1 A;obtain⟨i,_,_,_,_,rfl⟩:=zeL.1 I;have:=(Prod.mk.inj e).1;omega
theorem zlt {α:Type}[DecidableEq α] {K L:List α} (h:K.Nodup) (A: ∀x∈K,x∈L) (q:L.length<=K.length):L.Perm K:=by
 induction K generalizing L with
 |nil=>cases L with
  |nil=>exact .refl _
  |cons=>simp at q
 |cons a K I=>
  have w:=A a (mem_cons_self ..);rw[List.nodup_cons] at h;refine (List.perm_cons_erase w).trans (.cons a (I h.2 (fun x H=>?_) ?_))
  ·exact (List.mem_erase_of_ne (show x≠a from fun e=>h.1 (by rw[<-e];exact H))).2 (A x (mem_cons_of_mem _ H))
  ·rw[List.length_erase_of_mem w];simp at q;omega
def zgq (rqs:List (List BA0)) (ls:List Lk):Prop:=
 zar rqs=ls.length/\∀(i:Nat) (l:Lk),ls[i]? =some l->0<=l.frm/\l.frm<(rqs.length:Int)/\0<=l.to/\l.to<(rqs.length:Int)/\(∃s∈rqs.getD l.frm.toNat [],s.toList=l.spec.toList)/\∀(k:Nat) (x:Lk),k<i->ls[k]? =some x->zW x≠zW l
def zbM (rqs:List (List BA0)) (ls:List Lk):Prop:=
 ls.length=zar rqs/\∀(f:Nat) (rq:List BA0),rqs[f]? =some rq->∀s∈rq,0<=zbd ls ((f:Int),s.toList)/\zbd ls ((f:Int),s.toList)<(rqs.length:Int)
structure LinksOk (rqs:List (List BA0)) (ls:List Lk):Prop where
 nodup:(ls.map zW).Nodup
 mem: ∀k,k∈ls.map zW↔k∈zdF 0 rqs
 to: ∀l∈ls,0<=l.to/\l.to<(rqs.length:Int)
theorem zr9 (h: ∀(i:Nat) (l:Lk),W[i]? =some l->∀(k:Nat) (x:Lk),k<i->W[k]? =some x->zW x≠zW l):(W.map zW).Nodup:=by
 unfold List.Nodup;rw[pairwise_map,List.pairwise_iff_getElem];intro i j A w q;exact h j _ (gE w) i _ q (gE A)
theorem zrA {q:List (List BA0)} (h:zgq q W):LinksOk q W:=by
 obtain⟨N,h⟩:=h;have I:=zr9 fun i l A=>(h i l A).2.2.2.2.2;have w: ∀k∈W.map zW,k∈zdF 0 q:=by
  intro k K;obtain⟨l,A,rfl⟩:=List.mem_map.1 K;obtain⟨i,H⟩:=List.mem_iff_getElem?.1 A;obtain⟨L,O,_,_,⟨s,M,e⟩,_⟩:=h i l H;refine zeL.2 ⟨l.frm.toNat,q.getD l.frm.toNat [],s,?_,M,?_⟩
  ·rw[List.getD,gE (by omega)];rfl
  ·rw[e,Nat.zero_add,Int.toNat_of_nonneg L];rfl
 have J:=zlt I w (by rw[ziK,N,length_map];exact Nat.le_refl _);refine⟨I,fun k=>(J.mem_iff).symm,fun l A=>?_⟩;obtain⟨i,H⟩:=List.mem_iff_getElem?.1 A;exact⟨(h i l H).2.2.1,(h i l H).2.2.2.1⟩
theorem zlu {q:List (List BA0)} (K: ∀rq∈q,rq.Nodup) (h:zbM q W):LinksOk q W:=by
 obtain⟨N,h⟩:=h;have w: ∀k∈zdF 0 q,k∈W.map zW:=by
  intro k M;obtain⟨f,rq,s,J,I,rfl⟩:=zeL.1 M;rw[Nat.zero_add];obtain⟨O,_⟩:=h f rq J s I;obtain⟨l,A,e,_⟩:=zlr (ls:=W) (k:=((f:Int),s.toList)) (by omega);exact e▸mem_map_of_mem A
 have H:=zlt (ziL 0 K) w (by rw[ziK,N.symm,length_map];exact Nat.le_refl _);have L:(W.map zW).Nodup:=H.nodup_iff.2 (ziL 0 K);refine⟨L,fun k=>H.mem_iff,fun l A=>?_⟩;obtain⟨f,rq,s,J,I,e⟩:=zeL.1 (H.mem_iff.1 (mem_map_of_mem A));rw[Nat.zero_add] at e;have:=h f rq J s I;rw[<-e,ziJ L A] at this;exact this
theorem LinksOk.len {q:List (List BA0)} (A: ∀rq∈q,rq.Nodup) (h:LinksOk q W):W.length=zar q:=by
 rw[<-ziK q 0,<-length_map (f:=zW)];refine Nat.le_antisymm ?_ ?_
 ·exact List.Nodup.length_le_of_subset h.nodup fun k w=>(h.mem k).1 w
 ·exact List.Nodup.length_le_of_subset (ziL 0 A) fun k w=>(h.mem k).2 w
theorem LinksOk.toI {q:List (List BA0)} (H: ∀rq∈q,rq.Nodup) (h:LinksOk q W):zbM q W:=by
 refine⟨h.len H,fun f rq A s I=>?_⟩;obtain⟨l,w,e⟩:=List.mem_map.1 ((h.mem ((f:Int),s.toList)).2 (zeL.2 ⟨f,rq,s,A,I,by rw[Nat.zero_add]⟩));rw[<-e,ziJ h.nodup w];exact h.to l w
theorem LinksOk.toS {q:List (List BA0)} (V: ∀rq∈q,rq.Nodup) (h:LinksOk q W):zgq q W:=by
 refine⟨(h.len V).symm,fun i l N=>?_⟩;have I:=mG N;obtain⟨f,rq,s,M,U,e⟩:=zeL.1 ((h.mem _).1 (mem_map_of_mem I));rw[Nat.zero_add] at e;obtain⟨A,X⟩:=Prod.mk.inj e;have A:l.frm=(f:Int):=A;have Z:=(gS M).1;refine⟨by omega,by omega,(h.to l I).1,(h.to l I).2,⟨s,?_,X.symm⟩,fun k x O Y=>?_⟩
 ·rw[A,Int.toNat_natCast,List.getD,M];exact U
 ·have L:=h.nodup;unfold List.Nodup at L;rw[pairwise_map,List.pairwise_iff_getElem] at L;obtain⟨J,H⟩:=gS Y;obtain⟨w,K⟩:=gS N;rw[<-H,<-K];exact L k i J w O
theorem zlv {q:List (List BA0)} (w: ∀rq∈q,rq.Nodup):zgq q W↔zbM q W:=
 ⟨fun h=>(zrA h).toI w,fun h=>(zlu w h).toS w⟩
def Rch (nx:Nat->List Nat) (j:Nat):Prop:=∀S:Nat->Prop,S 0->(∀a b,S a->b∈nx a->S b)->S j
def zF (b:List Bool):Nat:=b.count true
def LeB (b c:List Bool):Prop:=b.length=c.length/\∀j:Nat,b[j]? =some true->c[j]? =some true
theorem LeB.refl (b:List Bool):LeB b b:=⟨rfl,fun _ h=>h⟩
theorem LeB.trans {b c:List Bool} (h:LeB q b) (k:LeB b c):LeB q c:=⟨h.1.trans k.1,fun j s=>k.2 j (h.2 j s)⟩
theorem LeB.set (b:List Bool) (m:Nat):LeB b (b.set m true):=by
 refine⟨by simp,fun j h=>?_⟩;rw[getElem?_set]
 split
 ·next e=>rw[if_pos (by subst e;exact (gS h).1)]
 ·exact h
theorem LeB.cnt {c:List Bool} (h:LeB q c):zF q<=zF c/\(zF c<=zF q->q=c):=by
 induction q generalizing c with
 |nil=>cases c with
  |nil=>exact⟨Nat.le_refl _,fun _=>rfl⟩
  |cons=>have:=h.1;simp at this
 |cons x q A=>
  cases c with
  |nil=>have:=h.1;simp at this
  |cons y c=>
   have I:LeB q c:=⟨by have:=h.1;simpa using this,fun j w=>h.2 (j+1) w⟩;have J:=h.2 0;obtain⟨s,H⟩:=A I;unfold zF at s H ⊢;cases x<;>cases y<;>simp_all;omega
theorem zdG (b:List Bool):zF b<=b.length:=List.count_le_length ..
theorem zgr:zF q=q.length↔∀j:Nat,j<q.length->q[j]? =some true:=by
 unfold zF;rw[List.count_eq_length];constructor
 ·intro h j s;rw[gE s,<-h _ (List.getElem_mem s)]
 ·intro h x A;obtain⟨i,w⟩:=List.mem_iff_getElem?.1 A;have:=h i (gS w).1;rw[w] at this;exact (oI this).symm
def zbZ (b:List Bool) (l:Lk):List Bool:=if b.getD l.frm.toNat false=true then b.set l.to.toNat true else b
def zbr (ls:List Lk) (b:List Bool):List Bool:=ls.foldl zbZ b
def zai (ls:List Lk):Nat->List Bool->List Bool
 |0,b=>b
 |k+1,b=>zai ls k (zbr ls b)
theorem ziM (ls:List Lk): ∀(k:Nat) (b:List Bool),zai ls (k+1) b=zbr ls (zai ls k b)
 |0,_=>rfl
 |k+1,b=>ziM ls k (zbr ls b)
theorem zlw (b:List Bool) (l:Lk):LeB b (zbZ b l):=by
 unfold zbZ
 split
 ·exact .set _ _
 ·exact .refl _
theorem zhr: ∀b,LeB b (zbr w b):=by
 induction w with
 |nil=>intro b;exact .refl _
 |cons l w h=>intro b;exact (zlw b l).trans (h _)
theorem zgs (ls:List Lk): ∀(k:Nat) (b:List Bool),(zai ls k b).length=b.length
 |0,_=>rfl
 |k+1,b=>(zgs ls k _).trans (zhr ls b).1.symm
theorem ziN (ls:List Lk): ∀(k:Nat) (b:List Bool),LeB b (zai ls k b)
 |0,_=>.refl _
 |k+1,b=>(zhr ls b).trans (ziN ls k _)
def zhs (ls:List Lk) (b:List Bool):Prop:=∀l∈ls,b[l.frm.toNat]? =some true->l.to.toNat<b.length->b[l.to.toNat]? =some true
theorem zrB (h:zbZ q S=q):q[S.frm.toNat]? =some true->S.to.toNat<q.length->q[S.to.toNat]? =some true:=by
 intro w s;unfold zbZ at h;rw[if_pos (by rw[List.getD,w];rfl)] at h;rw[<-h,getElem?_set,if_pos rfl,if_pos (by rw[<-h] at s;simpa using s)]
theorem zlx {b:List Bool} (h:LeB q b) (k:LeB b q):q=b:=h.cnt.2 k.cnt.1
theorem zrC (h:zbr W q=q):zhs W q:=by
 induction W with
 |nil=>intro l s;cases s
 |cons x W A=>
  have w:zbZ q x=q:=(zlx (zlw q x) (by have:=zhr W (zbZ q x);rw[show zbr W (zbZ q x)=q from h] at this;exact this)).symm;have H:zbr W q=q:=by rw[show zbr (x::W) q=zbr W (zbZ q x) from rfl,w] at h;exact h
  intro l s;rcases List.mem_cons.1 s with rfl|s
  ·exact zrB w
  ·exact A H l s
theorem zly: ∀(k:Nat) (b:List Bool),zhs w (zai w k b)∨zF b+k<=zF (zai w k b):=by
 intro k
 induction k with
 |zero=>intro b;exact .inr (Nat.le_refl _)
 |succ k A=>
  intro b;by_cases e:zbr w b=b
  ·left;have I:=zrC e;have: ∀j,zai w j b=b:=by
    intro j
    induction j with
    |zero=>rfl
    |succ j s=>rw[zai,e];exact s
   rw[this];exact I
  ·rcases A (zbr w b) with h|h
   ·exact .inl h
   ·right;have H:=(zhr w b).cnt;have:zF b<zF (zbr w b):=by
     rcases Nat.lt_or_ge (zF b) (zF (zbr w b)) with q|q
     ·exact q
     ·exact absurd (H.2 q).symm e
    show _<=zF (zai w k (zbr w b));omega
theorem zrD {S:Nat->Prop} (A: ∀l∈W,S l.frm.toNat->S l.to.toNat): ∀b:List Bool,(∀j,b[j]? =some true->S j)->∀j,(zbr W b)[j]? =some true->S j:=by
 induction W with
 |nil=>intro b h;exact h
 |cons x W I=>
  intro b h;refine I (fun l J=>A l (mem_cons_of_mem _ J)) (zbZ b x) fun j q=>?_;unfold zbZ at q
  split at q
  ·next w=>
   rw[getElem?_set] at q
   split at q
   ·next e=>
    rw[<-e];refine A x (mem_cons_self ..) (h _ ?_);rw[List.getD] at w;cases H:b[x.frm.toNat]? with
    |none=>rw[H] at w;cases w
    |some v=>rw[H] at w;exact congrArg some w
   ·exact h j q
  ·exact h j q
theorem ziO {ls:List Lk} {S:Nat->Prop} (q: ∀l∈ls,S l.frm.toNat->S l.to.toNat): ∀(k:Nat) (b:List Bool),(∀j,b[j]? =some true->S j)->∀j,(zai ls k b)[j]? =some true->S j
 |0,_,h=>h
 |k+1,b,h=>ziO q k _ (zrD q b h)
def zbh (n:Nat):List Bool:=(replicate n false).set 0 true
theorem zlz (hn:0<g) (V: ∀l∈W,l.to.toNat∈z l.frm.toNat) (O: ∀a,a<g->∀b∈z a,b<g/\∃l∈W,l.frm.toNat=a/\l.to.toNat=b) (j:Nat):
  (zai W g (zbh g))[j]? =some true↔Rch z j:=by
 have H:(zbh g).length=g:=by simp[zbh]
 have N:1<=zF (zbh g):=by
  unfold zF zbh;cases g with
  |zero=>omega
  |succ g=>rw[List.replicate_succ];simp
 constructor
 ·intro h S X M;refine ziO (S:=S) (fun l A Z=>M _ _ Z (V l A)) g (zbh g) (fun k q=>?_) j h;unfold zbh at q;rw[getElem?_set] at q
  split at q
  ·next e=>rw[<-e];exact X
  ·rw[List.getElem?_replicate] at q
   split at q
   ·cases q
   ·cases q
 ·intro h;have w:=zgs W g (zbh g);rw[H] at w;have I:zhs W (zai W g (zbh g)):=by
   rcases zly W g (zbh g) with k|k
   ·exact k
   ·have:=zdG (zai W g (zbh g));omega
  refine h (fun j=>(zai W g (zbh g))[j]? =some true) ?_ ?_
  ·refine (ziN W g (zbh g)).2 0 ?_;unfold zbh;rw[getElem?_set,if_pos rfl,if_pos (by simpa using hn)]
  ·intro a b L Y;have J:a<g:=by have:=(gS L).1;omega
   obtain⟨U,l,A,rfl,rfl⟩:=O a J b Y;exact I l A L (by omega)
def dfs (nx:Nat->List Nat):Nat->Nat->List Bool×List Nat->List Bool×List Nat
 |0,_,s=>s
 |f+1,m,s=>if s.1.getD m true=true then s else
  let t:=(nx m).foldl (fun s k=>dfs nx f k s) (s.1.set m true,s.2)
  (t.1,t.2++[m])
structure DfsP (nx:Nat->List Nat) (S:Nat->Prop) (ms:List Nat) (s t:List Bool×List Nat):Prop where
 le:LeB s.1 t.1
 begun: ∀m∈ms,t.1[m]? =some true
 new: ∀j:Nat,t.1[j]? =some true->s.1[j]? =some true∨S j
 shut: ∀j:Nat,t.1[j]? =some true->s.1[j]? =some true∨∀k∈nx j,t.1[k]? =some true
 cnt:t.2.length+zF s.1=s.2.length+zF t.1
theorem zgt (h:q[g]? =some false):zF (q.set g true)=zF q+1:=by
 induction q generalizing g with
 |nil=>cases h
 |cons x q s=>
  cases g with
  |zero=>cases h;simp[zF]
  |succ g=>
   have:=s h;unfold zF at this ⊢;rw[List.set_cons_succ,List.count_cons,List.count_cons,this];omega
theorem ziP (Z: ∀m,m<g->∀k∈z m,k<g) {S:Nat->Prop} (hS: ∀a b,S a->b∈z a->S b): ∀(f m:Nat) (s:List Bool×List Nat),s.1.length=g->m<g->g<=f+zF s.1->S m->DfsP z S [m] s (dfs z f m s):=by
 intro f
 induction f with
 |zero=>
  intro m s O hm Y _;have:zF s.1=s.1.length:=by have:=zdG s.1;omega
  have A:=zgr.1 this m (by omega);exact⟨.refl _,fun k q=>by rw[List.mem_singleton.1 q];exact A,fun j h=>.inl h,fun j h=>.inl h,rfl⟩
 |succ f ih=>
  intro m s O hm Y N;have aa: ∀(M:List Nat) (s:List Bool×List Nat),(∀k∈M,k<g/\S k)->s.1.length=g->g<=f+zF s.1->DfsP z S M s (M.foldl (fun s k=>dfs z f k s) s):=by
   intro M
   induction M with
   |nil=>intro s _ _ _;exact⟨.refl _,fun k q=>(by cases q),fun j h=>.inl h,fun j h=>.inl h,rfl⟩
   |cons k M V=>
    intro s I O Y;have w:=ih k s O (I k (mem_cons_self ..)).1 Y (I k (mem_cons_self ..)).2;have J:=V (dfs z f k s) (fun x U=>I x (mem_cons_of_mem _ U)) (w.le.1.symm.trans O) (by have:=w.le.cnt.1;omega);refine⟨w.le.trans J.le,fun x U=>?_,fun j L=>?_,fun j L=>?_,?_⟩
    ·rcases List.mem_cons.1 U with rfl|U
     ·exact J.le.2 _ (w.begun _ (List.mem_singleton.2 rfl))
     ·exact J.begun x U
    ·rcases J.new j L with h|h
     ·exact w.new j h
     ·exact .inr h
    ·rcases J.shut j L with h|h
     ·rcases w.shut j h with X|X
      ·exact .inl X
      ·exact .inr fun k q=>J.le.2 _ (X k q)
     ·exact .inr h
    ·have e1:=w.cnt;have e2:=J.cnt;simp only[List.foldl_cons];omega
  rw[dfs]
  split
  ·next A=>
   have A:s.1[m]? =some true:=by
    rw[List.getD,gE (by omega)] at A;rw[gE (by omega)];exact congrArg some A
   exact⟨.refl _,fun k q=>by rw[List.mem_singleton.1 q];exact A,fun j h=>.inl h,fun j h=>.inl h,rfl⟩
  ·next A=>
   have A:s.1[m]? =some false:=by
    rw[List.getD,gE (by omega)] at A;rw[gE (by omega)];exact congrArg some (by simpa using A)
   have hc:=zgt A;have K:(s.1.set m true)[m]? =some true:=by rw[getElem?_set,if_pos rfl,if_pos (by omega)]
   have w:=aa (z m) (s.1.set m true,s.2) (fun k q=>⟨Z m hm k q,hS m k N q⟩) (by simpa using O) (by show g<=f+zF (s.1.set m true);omega);refine⟨(LeB.set _ _).trans w.le,fun k q=>by rw[List.mem_singleton.1 q];exact w.le.2 m K,fun j L=>?_,fun j L=>?_,?_⟩
   ·rcases w.new j L with h|h
    ·have h:(s.1.set m true)[j]? =some true:=h;rw[getElem?_set] at h
     split at h
     ·next e=>rw[<-e];exact .inr N
     ·exact .inl h
    ·exact .inr h
   ·rcases w.shut j L with h|h
    ·have h:(s.1.set m true)[j]? =some true:=h;rw[getElem?_set] at h
     split at h
     ·next e=>rw[<-e];exact .inr fun k q=>w.begun k q
     ·exact .inl h
    ·exact .inr h
   ·have e:=w.cnt;simp only[length_append,List.length_singleton] at e ⊢;omega
theorem zrE (hn:0<g) (O: ∀m,m<g->∀k∈z m,k<g):
  (dfs z g 0 (replicate g false,[])).2.length=g↔∀j,j<g->Rch z j:=by
 have U:zF (replicate g false)=0:=by unfold zF;rw[List.count_replicate];rfl
 have I: ∀S:Nat->Prop,S 0->(∀a b,S a->b∈z a->S b)->DfsP z S [0] (replicate g false,[]) (dfs z g 0 (replicate g false,[])):=fun S V N=>
  ziP O N g 0 (replicate g false,[]) (by simp) hn (by show g<=g+zF (replicate g false);omega) V
 have J: ∀j:Nat,¬(replicate g false)[j]? =some true:=by
  intro j h;rw[List.getElem?_replicate] at h
  split at h<;>cases h
 have M:=I (fun _=>True) trivial (fun _ _ _ _=>trivial);have L:(dfs z g 0 (replicate g false,[])).1.length=g:=by rw[<-M.le.1];simp
 have w:=M.cnt;rw[show zF (replicate g false,([]:List Nat)).1=0 from U] at w;constructor
 ·intro h j Y S V N;have X:=I S V N;have H:zF (dfs z g 0 (replicate g false,[])).1=(dfs z g 0 (replicate g false,[])).1.length:=by
   rw[L];simp only[List.length_nil] at w;omega
  rcases X.new j (zgr.1 H j (by omega)) with A|A
  ·exact absurd A (J j)
  ·exact A
 ·intro h;have K: ∀j,j<(dfs z g 0 (replicate g false,[])).1.length->(dfs z g 0 (replicate g false,[])).1[j]? =some true:=by
   intro j Y;refine h j (by omega) (fun j=>(dfs z g 0 (replicate g false,[])).1[j]? =some true) (M.begun 0 (List.mem_singleton.2 rfl)) fun a b Z hb=>?_;rcases M.shut a Z with A|A
   ·exact absurd A (J a)
   ·exact A b hb
  have:=zgr.2 K;simp only[List.length_nil] at w;omega
def zaQ (rqs:List (List BA0)) (ls:List Lk) (m:Nat):List Nat:=(rqs.getD m []).map fun s=>(zbd ls ((m:Int),s.toList)).toNat
variable {w:List Lk} {W:List BA0} {s:BA0} {g:Nat} {C:List Im}
theorem zht {q:List (List BA0)} (h:zbM q w) (m k:Nat) (I:k∈zaQ q w m):k<q.length:=by
 obtain⟨s,S,rfl⟩:=List.mem_map.1 I;cases A:q[m]? with
 |none=>rw[List.getD,A] at S;cases S
 |some H=>
  rw[List.getD,A] at S;have:=h.2 m H A s S;omega
theorem zl0 {q:List (List BA0)} (X: ∀rq∈q,rq.Nodup) (S:zbM q w) (K:0<q.length):
  (∀j,j<q.length->(zai w q.length (zbh q.length))[j]? =some true)↔(dfs (zaQ q w) q.length 0 (List.replicate q.length false,[])).2.length=q.length:=by
 have h:=zlu X S;have O: ∀l∈w,l.to.toNat∈zaQ q w l.frm.toNat:=by
  intro l A;obtain⟨f,rq,s,V,H,e⟩:=zeL.1 ((h.mem _).1 (List.mem_map_of_mem A));rw[Nat.zero_add] at e;have I:l.frm=(f:Int):=(Prod.mk.inj e).1;rw[I,Int.toNat_natCast];refine List.mem_map.2 ⟨s,by rw[List.getD,V];exact H,?_⟩;rw[<-e,ziJ h.nodup A]
 have M: ∀a,a<q.length->∀b∈zaQ q w a,b<q.length/\∃l∈w,l.frm.toNat=a/\l.to.toNat=b:=by
  intro a N b U;refine⟨zht S a b U,?_⟩;obtain⟨s,H,rfl⟩:=List.mem_map.1 U;rw[List.getD,gE N] at H;have L:=S.2 a _ (gE N) s H;obtain⟨l,A,e,Y⟩:=zlr (ls:=w) (k:=((a:Int),s.toList)) (by omega);have I:l.frm=(a:Int):=(Prod.mk.inj e).1;exact⟨l,A,by rw[I,Int.toNat_natCast],by rw[Y]⟩
 rw[zrE K fun m _ k L=>zht S m k L];exact⟨fun k j J=>(zlz K O M j).1 (k j J),fun k j J=>(zlz K O M j).2 (k j J)⟩
def inL (l:List BA0) (s:BA0):Bool:=l.any fun x=>x.toList==s.toList
def twB (l:List BA0):Bool:=(List.range l.length).any fun i=>inL (l.take i) (l.getD i sNone)
theorem zhu:inL W s=true↔s∈W:=by
 simp only[inL,List.any_eq_true];constructor
 ·rintro⟨x,q,h⟩;rw[(ze6 _ _).1 h] at q;exact q
 ·intro h;exact⟨s,h,(ze6 _ _).2 rfl⟩
theorem zrF {k:Nat} (q:k<W.length) (h:((W.getD k sNone).toList==s.toList)=true):inL W s=true:=by
 rw[inL,List.any_eq_true];exact⟨W[k],List.getElem_mem q,by simpa [List.getD,gE q] using h⟩
theorem zrG (h: ∀j,j<W.length->((W.getD j sNone).toList==s.toList)=false):inL W s=false:=by
 rw[inL,List.any_eq_false];intro x w;obtain⟨j,q,rfl⟩:=List.mem_iff_getElem.1 w;have:=h j q
 simpa [List.getD,gE q] using this
theorem zl1 (q:g<W.length) (h:inL (W.take g) (W.getD g sNone)=true):twB W=true:=by
 rw[twB,List.any_eq_true];exact⟨g,List.mem_range.2 q,h⟩
theorem zrH (h: ∀j,j<W.length->inL (W.take j) (W.getD j sNone)=false):twB W=false:=by
 rw[twB,List.any_eq_false];intro k q;rw[h k (List.mem_range.1 q)];exact Bool.false_ne_true
def epN (l:List Ep):List BA0:=(l.filter fun x=> !(x.kind==3)).map (·.name)
def spB (l:List Im) (n:BA0):Bool:=match l.find? (fun x=>x.loc.toList==n.toList) with|some x=>x.first.toList==[42]|none=>false
def unB (ns:List BA0) (l:List Ep):Bool:=l.any fun x=>x.kind==1&&(!(x.loc.toList==dN)&& !inL ns x.loc)
def seB (im:List Im) (l:List Ep):Bool:=l.any fun x=>x.kind==1&&spB im x.loc
def sxB (im:List Im) (l:List Ex):Bool:=l.any fun x=>(x.kind==2||x.kind==3)&&spB im x.name
def mxB (im:List Im) (l:List Ex):Bool:=l.any fun x=>(x.kind==4||x.kind==5)&& !spB im x.name
def ssB (im:List Im) (l:List Sm):Bool:=l.any fun x=>x.kind==3&&spB im x.name
def zax (m:Md):Int:=
 if twB (zbY m) then 1 else if twB (epN m.ep) then 2 else if unB (zbY m) m.ep then 3
 else if seB m.im m.ep||sxB m.im m.ex||ssB m.im m.st then 4 else if mxB m.im m.ex then 5 else 0
theorem zrI {x:Im} (q:C[g]? =some x) (H:(x.loc.toList==s.toList)=true) (h: ∀(j:Nat) (y:Im),j<g->C[j]? =some y->(y.loc.toList==s.toList)=false):spB C s=(x.first.toList==[42]):=by
 have:C.find? (fun x=>x.loc.toList==s.toList)=some x:=by
  rw[List.find?_eq_some_iff_getElem];obtain⟨A,rfl⟩:=gS q;exact⟨H,g,A,rfl,fun j w=>by rw[h j C[j] w (gE _)];rfl⟩
 rw[spB,this]
theorem zrJ (h: ∀(j:Nat) (y:Im),C[j]? =some y->(y.loc.toList==s.toList)=false):spB C s=false:=by
 have:C.find? (fun x=>x.loc.toList==s.toList)=none:=by
  rw[List.find?_eq_none];intro x q;obtain⟨j,w,rfl⟩:=List.mem_iff_getElem.1 q;rw[h j _ (gE w)];exact Bool.false_ne_true
 rw[spB,this]
open Nat (add_zero mul_one le_refl not_lt_zero succ_mul)
open List (mem_of_getElem? take_length)
open Go.Proofs.Tryz
set_option maxRecDepth 100000
set_option maxHeartbeats 3200000
def zew (x:BA0):Prop:=x.size<=9223372036854775807
theorem zlA (a:Option Addr) (O:Nat) (l:List BA0) (left:Int) (w:World) (Y:RowAt w a (fun x=>[Value.string x]) 1 l) (hl:l.length<=9223372036854775807) (A: ∀x∈l,zew x) (h0:0<=left) (h1:left<=1048576):
  Calls prog 34 #[.slice a l.length O,.int .i64 left] w fun e w'=>zc6 left (l.length+zE zb6 l) e/\Bw w w':=by
 have HR:=zc Y;have HG:=zc A;clear Y A;by_cases aa:(l.length:Int)<=left
 case neg=>
  go_enter func34,ntmps34;go_wp2;go_ret;exact⟨⟨-1,rfl,by omega,by omega,fun h=>by omega⟩,Below.refl _ _⟩
 go_enter func34,ntmps34;go_wp2;go_loopg [1,5] l.length (fun k s1 s5 wr=>∃(j:Nat) (z:Int),s5= .int .i64 j/\s1= .int .i64 z/\j+k=l.length/\0<=z/\z<=left/\z+((l.length+zE zb6 (l.take j):Nat):Int)=left/\Bw w wr)
 case atStart=>exact⟨0,_,rfl,rfl,by omega,by omega,by omega,by simp[zE],Below.refl _ _⟩
 case round=>
  obtain⟨j,z,rfl,rfl,hj,ab,V,H,A⟩:=hrel;have Z:=zc H;have L:=zc A;clear H A;by_cases N:j<l.length
  ·have J:(j:Int)<(l.length:Int):=by omega
   obtain⟨x,M⟩: ∃x,l[j]? =some x:=⟨_,gE N⟩;obtain⟨b,ac,rfl,hc⟩:=(HR.o.later L.o).get M;have I:=HG.o x (mem_of_getElem? M);have HC:=zc (zeM zb6 M);have c0:=hc 0 _ rfl;simp only[add_zero,mul_one] at c0;clear hc M;obtain⟨K,q⟩: ∃K,K=j+1:=⟨_,rfl⟩;have ej:(j:Int)+1=(K:Int):=by omega
   have X:=zc q;clear q;unfold zew at I;by_cases U:0<=z-(x.size:Int)
   ·go_wp2;go_roundg (gk-1)
    case rel=>exact⟨K,_,rfl,rfl,by have:=X.o;omega,U,by omega,by have:=Z.o;have:zb6 x=x.size:=rfl;rw[X.o,HC.o];omega,L.o⟩
    case measure=>omega
   ·go_wp2;go_ret;exact⟨⟨-1,rfl,by omega,by omega,fun h=>by omega⟩,L.o⟩
  ·have J: ¬(j:Int)<(l.length:Int):=by omega
   obtain rfl:j=l.length:=by omega
   go_wp2;go_ret;exact⟨⟨z,rfl,by omega,V,fun _=>by have:=Z.o;rw[take_length] at this;exact this⟩,L.o⟩
def zeN (x:Im):Prop:=x.spec.size<=9223372036854775807/\x.first.size<=9223372036854775807/\x.loc.size<=9223372036854775807
theorem zrR (x:Im) (left:Int) (w:World) (q:zeN x) (J:0<=left) (I:left<=1048576):
  Calls prog 117 #[.agg #[.string x.spec,.string x.first,.string x.loc],.int .i64 left] w fun e w'=>zc6 left (zcn x) e/\Bw w w':=by
 unfold zeN at q;obtain⟨H,A,K⟩:=q;go_enter func117,ntmps117;go_wp2
 ·go_ret;exact⟨⟨-1,rfl,by omega,by omega,fun h=>by omega⟩,bA0⟩
 ·go_ret;exact⟨⟨-1,rfl,by omega,by omega,fun h=>by omega⟩,bA0⟩
 ·go_ret;exact⟨⟨-1,rfl,by omega,by omega,fun h=>by omega⟩,bA0⟩
 ·go_ret;exact⟨⟨_,rfl,by omega,by omega,fun _=>by unfold zcn;omega⟩,bA0⟩
theorem zrS (a:Option Addr) (aa:Nat) (l:List Im) (left:Int) (w:World) (hr:RowAt w a imL 3 l) (hl:l.length<=9223372036854775807) (H: ∀x∈l,zeN x) (h0:0<=left) (h1:left<=1048576):
  Calls prog 91 #[.slice a l.length aa,.int .i64 left] w fun e w'=>zc6 left (l.length+zE zcn l) e/\Bw w w':=by
 have HR:=zc hr;have HG:=zc H;clear hr H;by_cases ad:(l.length:Int)<=left
 case neg=>
  go_enter func91,ntmps91;go_wp2;go_ret;exact⟨⟨-1,rfl,by omega,by omega,fun h=>by omega⟩,Below.refl _ _⟩
 go_enter func91,ntmps91;go_wp2;go_loopg [1,5] l.length (fun k s1 s5 wr=>∃(j:Nat) (z:Int),s5= .int .i64 j/\s1= .int .i64 z/\j+k=l.length/\0<=z/\z<=left/\z+((l.length+zE zcn (l.take j):Nat):Int)=left/\Bw w wr)
 case atStart=>exact⟨0,_,rfl,rfl,by omega,by omega,by omega,by simp[zE],Below.refl _ _⟩
 case round=>
  obtain⟨j,z,rfl,rfl,hj,Z,ab,K,H⟩:=hrel;have HZ:=zc K;have U:=zc H;clear K H;by_cases Y:j<l.length
  ·have N:(j:Int)<(l.length:Int):=by omega
   obtain⟨x,V⟩: ∃x,l[j]? =some x:=⟨_,gE Y⟩;obtain⟨b,af,rfl,X⟩:=(HR.o.later U.o).get V;have q:=HG.o x (mem_of_getElem? V);have HC:=zc (zeM zcn V);have c0:=X 0 _ rfl;have c1:=X 1 _ rfl;have c2:=X 2 _ rfl;simp only[add_zero] at c0;clear X V;obtain⟨O,A⟩: ∃O,O=j+1:=⟨_,rfl⟩;have ej:(j:Int)+1=(O:Int):=by omega
   have HJ:=zc A;clear A;go_wp2_with fail;refine (zrR x z _ q Z (by omega)).mono ?_;rintro e w1 ⟨⟨z1,rfl,ag,ae,J⟩,M⟩;have L:=zc (U.o.trans (M.mono U.o.size));have ac:=zc J;clear M J q c0 c1 c2;by_cases I:0<=z1
   ·go_wp2;go_roundg (gk-1)
    case rel=>exact⟨O,z1,rfl,rfl,by have:=HJ.o;omega,I,by omega,by have:=HZ.o;have:=ac.o I;rw[HJ.o,HC.o];omega,L.o⟩
    case measure=>omega
   ·go_wp2;go_ret;exact⟨⟨-1,rfl,by omega,by omega,fun h=>by omega⟩,L.o⟩
  ·have N: ¬(j:Int)<(l.length:Int):=by omega
   obtain rfl:j=l.length:=by omega
   go_wp2;go_ret;exact⟨⟨z,rfl,by omega,ab,fun _=>by have:=HZ.o;rw[take_length] at this;exact this⟩,U.o⟩
def zeO (x:Ep):Prop:=x.name.size<=9223372036854775807/\x.loc.size<=9223372036854775807/\x.spec.size<=9223372036854775807
theorem zrT (x:Ep) (left:Int) (w:World) (q:zeO x) (J:0<=left) (I:left<=1048576):
  Calls prog 118 #[.agg #[.int .i64 x.kind,.string x.name,.string x.loc,.string x.spec],.int .i64 left] w fun e w'=>zc6 left (zco x) e/\Bw w w':=by
 unfold zeO at q;obtain⟨H,A,K⟩:=q;go_enter func118,ntmps118;go_wp2
 ·go_ret;exact⟨⟨-1,rfl,by omega,by omega,fun h=>by omega⟩,bA0⟩
 ·go_ret;exact⟨⟨-1,rfl,by omega,by omega,fun h=>by omega⟩,bA0⟩
 ·go_ret;exact⟨⟨-1,rfl,by omega,by omega,fun h=>by omega⟩,bA0⟩
 ·go_ret;exact⟨⟨_,rfl,by omega,by omega,fun _=>by unfold zco;omega⟩,bA0⟩
theorem zrU (a:Option Addr) (aa:Nat) (l:List Ep) (left:Int) (w:World) (hr:RowAt w a epL 4 l) (hl:l.length<=9223372036854775807) (H: ∀x∈l,zeO x) (h0:0<=left) (h1:left<=1048576):
  Calls prog 92 #[.slice a l.length aa,.int .i64 left] w fun e w'=>zc6 left (l.length+zE zco l) e/\Bw w w':=by
 have HR:=zc hr;have HG:=zc H;clear hr H;by_cases ad:(l.length:Int)<=left
 case neg=>
  go_enter func92,ntmps92;go_wp2;go_ret;exact⟨⟨-1,rfl,by omega,by omega,fun h=>by omega⟩,Below.refl _ _⟩
 go_enter func92,ntmps92;go_wp2;go_loopg [1,5] l.length (fun k s1 s5 wr=>∃(j:Nat) (z:Int),s5= .int .i64 j/\s1= .int .i64 z/\j+k=l.length/\0<=z/\z<=left/\z+((l.length+zE zco (l.take j):Nat):Int)=left/\Bw w wr)
 case atStart=>exact⟨0,_,rfl,rfl,by omega,by omega,by omega,by simp[zE],Below.refl _ _⟩
 case round=>
  obtain⟨j,z,rfl,rfl,hj,Z,ab,K,H⟩:=hrel;have HZ:=zc K;have V:=zc H;clear K H;by_cases Y:j<l.length
  ·have N:(j:Int)<(l.length:Int):=by omega
   obtain⟨x,X⟩: ∃x,l[j]? =some x:=⟨_,gE Y⟩;obtain⟨b,af,rfl,O⟩:=(HR.o.later V.o).get X;have q:=HG.o x (mem_of_getElem? X);have HC:=zc (zeM zco X);have c0:=O 0 _ rfl;have c1:=O 1 _ rfl;have c2:=O 2 _ rfl;have c3:=O 3 _ rfl;simp only[add_zero] at c0;clear O X;obtain⟨U,A⟩: ∃U,U=j+1:=⟨_,rfl⟩;have ej:(j:Int)+1=(U:Int):=by omega
   have HJ:=zc A;clear A;go_wp2_with fail;refine (zrT x z _ q Z (by omega)).mono ?_;rintro e w1 ⟨⟨z1,rfl,ag,ae,J⟩,M⟩;have L:=zc (V.o.trans (M.mono V.o.size));have ac:=zc J;clear M J q c0 c1 c2 c3;by_cases I:0<=z1
   ·go_wp2;go_roundg (gk-1)
    case rel=>exact⟨U,z1,rfl,rfl,by have:=HJ.o;omega,I,by omega,by have:=HZ.o;have:=ac.o I;rw[HJ.o,HC.o];omega,L.o⟩
    case measure=>omega
   ·go_wp2;go_ret;exact⟨⟨-1,rfl,by omega,by omega,fun h=>by omega⟩,L.o⟩
  ·have N: ¬(j:Int)<(l.length:Int):=by omega
   obtain rfl:j=l.length:=by omega
   go_wp2;go_ret;exact⟨⟨z,rfl,by omega,ab,fun _=>by have:=HZ.o;rw[take_length] at this;exact this⟩,V.o⟩
def zeP (x:Sm):Prop:=x.name.size<=9223372036854775807
theorem zrV (x:Sm) (left:Int) (w:World) (q:zeP x) (H:0<=left) (A:left<=1048576):
  Calls prog 119 #[.agg #[.int .i64 x.kind,.string x.name,.int .i64 x.expr],.int .i64 left] w fun e w'=>zc6 left (zc7 x) e/\Bw w w':=by
 unfold zeP at q;go_enter func119,ntmps119;go_wp2
 ·go_ret;exact⟨⟨-1,rfl,by omega,by omega,fun h=>by omega⟩,bA0⟩
 ·go_ret;exact⟨⟨_,rfl,by omega,by omega,fun _=>by unfold zc7;omega⟩,bA0⟩
theorem zrW (a:Option Addr) (aa:Nat) (l:List Sm) (left:Int) (w:World) (hr:RowAt w a smL 3 l) (hl:l.length<=9223372036854775807) (H: ∀x∈l,zeP x) (h0:0<=left) (h1:left<=1048576):
  Calls prog 93 #[.slice a l.length aa,.int .i64 left] w fun e w'=>zc6 left (l.length+zE zc7 l) e/\Bw w w':=by
 have HR:=zc hr;have HG:=zc H;clear hr H;by_cases ad:(l.length:Int)<=left
 case neg=>
  go_enter func93,ntmps93;go_wp2;go_ret;exact⟨⟨-1,rfl,by omega,by omega,fun h=>by omega⟩,Below.refl _ _⟩
 go_enter func93,ntmps93;go_wp2;go_loopg [1,5] l.length (fun k s1 s5 wr=>∃(j:Nat) (z:Int),s5= .int .i64 j/\s1= .int .i64 z/\j+k=l.length/\0<=z/\z<=left/\z+((l.length+zE zc7 (l.take j):Nat):Int)=left/\Bw w wr)
 case atStart=>exact⟨0,_,rfl,rfl,by omega,by omega,by omega,by simp[zE],Below.refl _ _⟩
 case round=>
  obtain⟨j,z,rfl,rfl,hj,Z,ab,K,H⟩:=hrel;have HZ:=zc K;have U:=zc H;clear K H;by_cases Y:j<l.length
  ·have N:(j:Int)<(l.length:Int):=by omega
   obtain⟨x,V⟩: ∃x,l[j]? =some x:=⟨_,gE Y⟩;obtain⟨b,af,rfl,X⟩:=(HR.o.later U.o).get V;have q:=HG.o x (mem_of_getElem? V);have HC:=zc (zeM zc7 V);have c0:=X 0 _ rfl;have c1:=X 1 _ rfl;have c2:=X 2 _ rfl;simp only[add_zero] at c0;clear X V;obtain⟨O,A⟩: ∃O,O=j+1:=⟨_,rfl⟩;have ej:(j:Int)+1=(O:Int):=by omega
   have HJ:=zc A;clear A;go_wp2_with fail;refine (zrV x z _ q Z (by omega)).mono ?_;rintro e w1 ⟨⟨z1,rfl,ag,ae,J⟩,M⟩;have L:=zc (U.o.trans (M.mono U.o.size));have ac:=zc J;clear M J q c0 c1 c2;by_cases I:0<=z1
   ·go_wp2;go_roundg (gk-1)
    case rel=>exact⟨O,z1,rfl,rfl,by have:=HJ.o;omega,I,by omega,by have:=HZ.o;have:=ac.o I;rw[HJ.o,HC.o];omega,L.o⟩
    case measure=>omega
   ·go_wp2;go_ret;exact⟨⟨-1,rfl,by omega,by omega,fun h=>by omega⟩,L.o⟩
  ·have N: ¬(j:Int)<(l.length:Int):=by omega
   obtain rfl:j=l.length:=by omega
   go_wp2;go_ret;exact⟨⟨z,rfl,by omega,ab,fun _=>by have:=HZ.o;rw[take_length] at this;exact this⟩,U.o⟩
def zeQ (x:Ex):Prop:=x.name.size<=9223372036854775807/\x.field.size<=9223372036854775807
theorem zrX (x:Ex) (left:Int) (w:World) (q:zeQ x) (J:0<=left) (I:left<=1048576):
  Calls prog 120 #[.agg #[.int .i64 x.kind,.int .i64 x.num,.string x.name,.string x.field,.int .i64 x.l,.int .i64 x.r],.int .i64 left] w fun e w'=>zc6 left (zda x) e/\Bw w w':=by
 unfold zeQ at q;obtain⟨H,A⟩:=q;go_enter func120,ntmps120;go_wp2
 ·go_ret;exact⟨⟨-1,rfl,by omega,by omega,fun h=>by omega⟩,bA0⟩
 ·go_ret;exact⟨⟨-1,rfl,by omega,by omega,fun h=>by omega⟩,bA0⟩
 ·go_ret;exact⟨⟨_,rfl,by omega,by omega,fun _=>by unfold zda;omega⟩,bA0⟩
theorem zrY (a:Option Addr) (aa:Nat) (l:List Ex) (left:Int) (w:World) (hr:RowAt w a exL 6 l) (hl:l.length<=9223372036854775807) (I: ∀x∈l,zeQ x) (h0:0<=left) (h1:left<=1048576):
  Calls prog 94 #[.slice a l.length aa,.int .i64 left] w fun e w'=>zc6 left (l.length+zE zda l) e/\Bw w w':=by
 have HR:=zc hr;have HG:=zc I;clear hr I;by_cases ad:(l.length:Int)<=left
 case neg=>
  go_enter func94,ntmps94;go_wp2;go_ret;exact⟨⟨-1,rfl,by omega,by omega,fun h=>by omega⟩,Below.refl _ _⟩
 go_enter func94,ntmps94;go_wp2;go_loopg [1,5] l.length (fun k s1 s5 wr=>∃(j:Nat) (z:Int),s5= .int .i64 j/\s1= .int .i64 z/\j+k=l.length/\0<=z/\z<=left/\z+((l.length+zE zda (l.take j):Nat):Int)=left/\Bw w wr)
 case atStart=>exact⟨0,_,rfl,rfl,by omega,by omega,by omega,by simp[zE],Below.refl _ _⟩
 case round=>
  obtain⟨j,z,rfl,rfl,hj,Z,ab,L,I⟩:=hrel;have HZ:=zc L;have V:=zc I;clear L I;by_cases Y:j<l.length
  ·have O:(j:Int)<(l.length:Int):=by omega
   obtain⟨x,X⟩: ∃x,l[j]? =some x:=⟨_,gE Y⟩;obtain⟨b,af,rfl,A⟩:=(HR.o.later V.o).get X;have q:=HG.o x (mem_of_getElem? X);have HC:=zc (zeM zda X);have c0:=A 0 _ rfl;have c1:=A 1 _ rfl;have c2:=A 2 _ rfl;have c3:=A 3 _ rfl;have c4:=A 4 _ rfl;have c5:=A 5 _ rfl;simp only[add_zero] at c0;clear A X;obtain⟨U,H⟩: ∃U,U=j+1:=⟨_,rfl⟩;have ej:(j:Int)+1=(U:Int):=by omega
   have HJ:=zc H;clear H;go_wp2_with fail;refine (zrX x z _ q Z (by omega)).mono ?_;rintro e w1 ⟨⟨z1,rfl,ag,ae,K⟩,N⟩;have M:=zc (V.o.trans (N.mono V.o.size));have ac:=zc K;clear N K q c0 c1 c2 c3 c4 c5;by_cases J:0<=z1
   ·go_wp2;go_roundg (gk-1)
    case rel=>exact⟨U,z1,rfl,rfl,by have:=HJ.o;omega,J,by omega,by have:=HZ.o;have:=ac.o J;rw[HJ.o,HC.o];omega,M.o⟩
    case measure=>omega
   ·go_wp2;go_ret;exact⟨⟨-1,rfl,by omega,by omega,fun h=>by omega⟩,M.o⟩
  ·have O: ¬(j:Int)<(l.length:Int):=by omega
   obtain rfl:j=l.length:=by omega
   go_wp2;go_ret;exact⟨⟨z,rfl,by omega,ab,fun _=>by have:=HZ.o;rw[take_length] at this;exact this⟩,V.o⟩
structure MA where
 a0:Option Addr
 a1:Option Addr
 a2:Option Addr
 a3:Option Addr
 a4:Option Addr
 c0:Nat
 c1:Nat
 c2:Nat
 c3:Nat
 c4:Nat
def zgv (A:MA) (m:Md):Value:=.agg #[.slice A.a0 m.rq.length A.c0,.slice A.a1 m.im.length A.c1,.slice A.a2 m.ep.length A.c2,.slice A.a3 m.st.length A.c3,.slice A.a4 m.ex.length A.c4]
def ModIn (w:World) (A:MA) (m:Md):Prop:=RowAt w A.a0 (fun x=>[Value.string x]) 1 m.rq/\RowAt w A.a1 imL 3 m.im/\RowAt w A.a2 epL 4 m.ep/\RowAt w A.a3 smL 3 m.st/\RowAt w A.a4 exL 6 m.ex
theorem ModIn.later {w w':World} {A:MA} {m:Md} (h:ModIn w A m) (q:Bw w w'):ModIn w' A m:=⟨h.1.later q,h.2.1.later q,h.2.2.1.later q,h.2.2.2.1.later q,h.2.2.2.2.later q⟩
def zgw (m:Md):Prop:=(m.rq.length<=9223372036854775807/\∀x∈m.rq,zew x)/\(m.im.length<=9223372036854775807/\∀x∈m.im,zeN x)/\(m.ep.length<=9223372036854775807/\∀x∈m.ep,zeO x)/\(m.st.length<=9223372036854775807/\∀x∈m.st,zeP x)/\(m.ex.length<=9223372036854775807/\∀x∈m.ex,zeQ x)
theorem zrZ (A:MA) (m:Md) (left:Int) (w:World) (hr:ModIn w A m) (q:zgw m) (h0:0<=left) (h1:left<=1048576):
  Calls prog 65 #[zgv A m,.int .i64 left] w fun e w'=>zc6 left (zaU m) e/\Bw w w':=by
 have HR:=zc hr;have H:=zc q;clear hr q;unfold zgv;go_enter func65,ntmps65;go_upto_region 1 with fail;have HW:Hid (Bw w (w.alloc (.cells #[.slice A.a0 m.rq.length A.c0,.slice A.a1 m.im.length A.c1,.slice A.a2 m.ep.length A.c2,.slice A.a3 m.st.length A.c3,.slice A.a4 m.ex.length A.c4] 91))):=bA0;refine zp (R:=fun W=>W.heap[w.heap.size]? =some (.cells #[.slice A.a0 m.rq.length A.c0,.slice A.a1 m.im.length A.c1,.slice A.a2 m.ep.length A.c2,.slice A.a3 m.st.length A.c3,.slice A.a4 m.ex.length A.c4] 91 (0,0))/\ModIn W A m/\Below w.heap.size w W) ⟨hN0 w _,HR.o.later HW.o,HW.o⟩ ?_;obtain⟨gx,Y⟩: ∃gx,gx=w.heap.size:=⟨_,rfl⟩;rw[<-Y];rintro w0 ⟨hx,hm,q⟩;rw[Y] at q;clear Y HW HR;have X0:=zc hx;have M0:=zc hm;have Z:=zc q;clear hx hm q;obtain⟨N,I,J,L,M,K⟩:=zl X0.o;go_wp2_with fail;refine (zlA A.a0 A.c0 m.rq left w0 M0.o.1 H.o.1.1 H.o.1.2 (by omega) (by omega)).mono ?_;rintro e w1 ⟨⟨z0,rfl,y0,u0,v0⟩,q⟩;have U:=zc (Z.o.trans (q.mono Z.o.size));have M1:=zc (M0.o.later q);have X1:=zc ((q.block _ (aLt X0.o)).trans X0.o);have V0:=zc v0;clear q v0 N I J L M K;obtain⟨N,I,J,L,M,K⟩:=zl X1.o;by_cases t0:0<=z0
 case neg=>
  go_wp2;go_ret;exact⟨⟨-1,rfl,by omega,by omega,fun h=>by omega⟩,U.o⟩
 go_wp2_with fail;refine (zrS A.a1 A.c1 m.im z0 w1 M1.o.2.1 H.o.2.1.1 H.o.2.1.2 (by omega) (by omega)).mono ?_;rintro e w2 ⟨⟨z1,rfl,y1,u1,v1⟩,q⟩;have V:=zc (U.o.trans (q.mono U.o.size));have M2:=zc (M1.o.later q);have X2:=zc ((q.block _ (aLt X1.o)).trans X1.o);have V1:=zc v1;clear q v1 N I J L M K;obtain⟨N,I,J,L,M,K⟩:=zl X2.o;by_cases t1:0<=z1
 case neg=>
  go_wp2;go_ret;exact⟨⟨-1,rfl,by omega,by omega,fun h=>by omega⟩,V.o⟩
 go_wp2_with fail;refine (zrU A.a2 A.c2 m.ep z1 w2 M2.o.2.2.1 H.o.2.2.1.1 H.o.2.2.1.2 (by omega) (by omega)).mono ?_;rintro e w3 ⟨⟨z2,rfl,y2,u2,v2⟩,q⟩;have O:=zc (V.o.trans (q.mono V.o.size));have M3:=zc (M2.o.later q);have X3:=zc ((q.block _ (aLt X2.o)).trans X2.o);have V2:=zc v2;clear q v2 N I J L M K;obtain⟨N,I,J,L,M,K⟩:=zl X3.o;by_cases t2:0<=z2
 case neg=>
  go_wp2;go_ret;exact⟨⟨-1,rfl,by omega,by omega,fun h=>by omega⟩,O.o⟩
 go_wp2_with fail;refine (zrW A.a3 A.c3 m.st z2 w3 M3.o.2.2.2.1 H.o.2.2.2.1.1 H.o.2.2.2.1.2 (by omega) (by omega)).mono ?_;rintro e w4 ⟨⟨z3,rfl,y3,u3,v3⟩,q⟩;have X:=zc (O.o.trans (q.mono O.o.size));have M4:=zc (M3.o.later q);have X4:=zc ((q.block _ (aLt X3.o)).trans X3.o);have V3:=zc v3;clear q v3 N I J L M K;obtain⟨N,I,J,L,M,K⟩:=zl X4.o;by_cases t3:0<=z3
 case neg=>
  go_wp2;go_ret;exact⟨⟨-1,rfl,by omega,by omega,fun h=>by omega⟩,X.o⟩
 go_wp2_with fail;refine (zrY A.a4 A.c4 m.ex z3 w4 M4.o.2.2.2.2 H.o.2.2.2.2.1 H.o.2.2.2.2.2 (by omega) (by omega)).mono ?_;rintro e w5 ⟨⟨z4,rfl,y4,u4,v4⟩,q⟩;have aa:=zc (X.o.trans (q.mono X.o.size));have M5:=zc (M4.o.later q);have X5:=zc ((q.block _ (aLt X4.o)).trans X4.o);have V4:=zc v4;clear q v4 N I J L M K;obtain⟨N,I,J,L,M,K⟩:=zl X5.o;by_cases t4:0<=z4
 case neg=>
  go_wp2;go_ret;exact⟨⟨-1,rfl,by omega,by omega,fun h=>by omega⟩,aa.o⟩
 go_wp2;go_ret;exact⟨⟨z4,rfl,by omega,by omega,fun _=>by have q0:=V0.o t0;have q1:=V1.o t1;have q2:=V2.o t2;have q3:=V3.o t3;have q4:=V4.o t4;unfold zaU;omega⟩,aa.o⟩
theorem Tryz.infoTStr:(prog.info? 9).map (fun i=>(i.zero,i.size,i.bytes))=some (some (.string {data:=#[]}),1,16):=by kernel_rfl
variable (w:Option Addr) (g:Nat)
theorem zlB (l:List BA0) (W:World) (hr:RowAt W w (fun x=>[Value.string x]) 1 l) (hl:l.length<=1048576):
  Calls prog 43 #[.slice w l.length g] W fun e w'=>zf0 W 9 1 l.length (l.flatMap (fun x=>[Value.string x])) e w':=by
 have HR:=zc hr;clear hr;obtain⟨i0,hi,V,Z,aa⟩:=info_parts Tryz.infoTStr;go_enter func43,ntmps43;go_wp2_with (first|(at_make;refine wpList_make_full W rfl _ _ 22 rfl W.heap.size 9 i0 _ 1 underlying22 hi V Z .i64 .i64 _ _ l.length (by rfl) (by rfl) rfl rfl (by rw[aa];omega) (by unfold maxLen;omega) (le_refl _) ?_));intro O q A;have ac:=zc ((Below.refl _ _).grown A (le_refl _) (fun k h=>by cases h):Bw W O);have H:Hid (OwnC O W.heap.size 9 1 W.heap.size l.length (l.flatMap (fun x=>[Value.string x])) 0):=⟨_,q,fun j hj=>absurd hj (not_lt_zero j)⟩;clear q A;obtain⟨C,J⟩: ∃C,C=W.heap.size:=⟨_,rfl⟩;have ab:=zc J;rw[<-J];rw[<-J] at H;have ad:Hid (OwnC O W.heap.size 9 1 C l.length (l.flatMap (fun x=>[Value.string x])) 0):=by rw[<-J];exact H.o
 clear J H;go_wp2;go_loopg [4] l.length (fun k i wr=>∃j:Nat,i= .int .i64 j/\j+k=l.length/\OwnC wr W.heap.size 9 1 C l.length (l.flatMap (fun x=>[Value.string x])) (j*1)/\Bw W wr)
 case atStart=>exact⟨0,rfl,by omega,ad.o,ac.o⟩
 case round=>
  obtain⟨j,rfl,hj,ho,hb⟩:=hrel;have M:=zc ho;have X:=zc hb;clear ho hb;by_cases U:j<l.length
  ·have K:(j:Int)<(l.length:Int):=by omega
   obtain⟨x,hx⟩: ∃x,l[j]? =some x:=⟨_,gE U⟩;obtain⟨b,ae,rfl,hc⟩:=(HR.o.later X.o).get hx;have HX:=zc hx;clear hx;have c0:=hc 0 _ rfl;simp only[add_zero,mul_one] at c0;clear hc;obtain⟨L,I⟩: ∃L,L=j+1:=⟨_,rfl⟩;have ej:(j:Int)+1=(L:Int):=by omega
   have HJ:=zc I;clear I;obtain⟨v0,g0⟩:=M.o.has (j*1) (by omega);have f0:=M.o.free (j*1);have HN:=zc (M.o.put (by omega) (zbx (f:=(fun x=>[Value.string x])) (m:=1) (fun _=>rfl) l j x 0 _ HX.o rfl));simp only[mul_one] at g0 f0;have N:W.heap.size<=C:=by have:=ab.o;omega
   go_wp2;go_roundg (gk-1)
   case rel=>exact⟨L,rfl,by have:=HJ.o;omega,by have:=HN.o;simp only[mul_one] at this;rw[HJ.o,mul_one];exact this,(X.o.setCell N _)⟩
   case measure=>omega
  ·have K: ¬(j:Int)<(l.length:Int):=by omega
   obtain rfl:j=l.length:=by omega
   go_wp2;go_ret;exact⟨C,rfl,M.o.all (zev (f:=(fun x=>[Value.string x])) (fun _=>rfl) l),X.o⟩
theorem Tryz.infoTIm:(prog.info? 101).map (fun i=>(i.zero,i.size,i.bytes))=some (some (.agg #[.string {data:=#[]},.string {data:=#[]},.string {data:=#[]}]),3,48):=by kernel_rfl
theorem zsa (x:Im) (w:World):
  Calls prog 136 #[.agg #[.string x.spec,.string x.first,.string x.loc]] w fun e w'=>e= .returned (.agg #[.string x.spec,.string x.first,.string x.loc])/\Bw w w':=by
 go_enter func136,ntmps136;go_wp2;refine bodyPost_ret (results_cell_row rfl _ _ (w.heap.size+1) 101 #[.string x.spec,.string x.first,.string x.loc] (0,0) _ rfl ?_ underlying101 rfl (by kernel_rfl)) rfl ?_
 ·rw[heap_alloc_old _ _ (by show _<((w.heap.push _).push _).size;simp)];exact heap_alloc2_new w _ _
 ·exact⟨rfl,((bA0).alloc (by show _<=(w.heap.push _).size;simp) _).alloc (by show _<=((w.heap.push _).push _).size;simp;omega) _⟩
theorem zsb (l:List Im) (W:World) (hr:RowAt W w imL 3 l) (hl:l.length<=1048576):
  Calls prog 103 #[.slice w l.length g] W fun e w'=>zf0 W 101 3 l.length (l.flatMap imL) e w':=by
 have HR:=zc hr;clear hr;obtain⟨i0,hi,Z,ab,ac⟩:=info_parts Tryz.infoTIm;go_enter func103,ntmps103;go_wp2_with (first|(at_make;refine wpList_make_full W rfl _ _ 54 rfl W.heap.size 101 i0 _ 3 underlying54 hi Z ab .i64 .i64 _ _ l.length (by rfl) (by rfl) rfl rfl (by rw[ac];omega) (by unfold maxLen;omega) (le_refl _) ?_));intro X A H;have ae:=zc ((Below.refl _ _).grown H (le_refl _) (fun k h=>by cases h):Bw W X);have J:Hid (OwnC X W.heap.size 101 3 W.heap.size l.length (l.flatMap imL) 0):=⟨_,A,fun j hj=>absurd hj (not_lt_zero j)⟩;clear A H;obtain⟨C,M⟩: ∃C,C=W.heap.size:=⟨_,rfl⟩;have ad:=zc M;rw[<-M];rw[<-M] at J;have af:Hid (OwnC X W.heap.size 101 3 C l.length (l.flatMap imL) 0):=by rw[<-M];exact J.o
 clear M J;go_wp2;go_loopg [4] l.length (fun k i wr=>∃j:Nat,i= .int .i64 j/\j+k=l.length/\OwnC wr W.heap.size 101 3 C l.length (l.flatMap imL) (j*3)/\Bw W wr)
 case atStart=>exact⟨0,rfl,by omega,af.o,ae.o⟩
 case round=>
  obtain⟨j,rfl,hj,ho,hb⟩:=hrel;have HO:=zc ho;have U:=zc hb;clear ho hb;by_cases Y:j<l.length
  ·have N:(j:Int)<(l.length:Int):=by omega
   obtain⟨x,hx⟩: ∃x,l[j]? =some x:=⟨_,gE Y⟩;obtain⟨b,ah,rfl,V⟩:=(HR.o.later U.o).get hx;have HX:=zc hx;clear hx;have c0:=V 0 _ rfl;have c1:=V 1 _ rfl;have c2:=V 2 _ rfl;simp only[add_zero] at c0;clear V;obtain⟨O,L⟩: ∃O,O=j+1:=⟨_,rfl⟩;have ej:(j:Int)+1=(O:Int):=by omega
   have HJ:=zc L;clear L;go_wp2_with fail;refine (zsa x _).mono ?_;rintro e w2 ⟨rfl,K⟩;have q:=zc (HO.o.later K);have ag:=zc (U.o.trans (K.mono U.o.size));clear K c0 c1 c2;obtain⟨v0,g0⟩:=q.o.has (j*3) (by omega);have f0:=q.o.free (j*3);obtain⟨v1,g1⟩:=q.o.has (j*3+1) (by omega);have f1:=q.o.free (j*3+1);obtain⟨v2,g2⟩:=q.o.has (j*3+2) (by omega);have f2:=q.o.free (j*3+2);have HN:=zc (((q.o.put (by omega) (zbx (f:=imL) (m:=3) (fun _=>rfl) l j x 0 _ HX.o rfl)).put (by omega) (zbx (f:=imL) (m:=3) (fun _=>rfl) l j x 1 _ HX.o rfl)).put (by omega) (zbx (f:=imL) (m:=3) (fun _=>rfl) l j x 2 _ HX.o rfl));have I:W.heap.size<=C:=by have:=ad.o;omega
   go_wp2;go_roundg (gk-1)
   case rel=>exact⟨O,rfl,by have:=HJ.o;omega,by rw[HJ.o,succ_mul];exact HN.o,(((ag.o.setCell I _).setCell I _).setCell I _)⟩
   case measure=>omega
  ·have N: ¬(j:Int)<(l.length:Int):=by omega
   obtain rfl:j=l.length:=by omega
   go_wp2;go_ret;exact⟨C,rfl,HO.o.all (zev (f:=imL) (fun _=>rfl) l),U.o⟩
theorem Tryz.infoTEp:(prog.info? 103).map (fun i=>(i.zero,i.size,i.bytes))=some (some (.agg #[.int .i64 0,.string {data:=#[]},.string {data:=#[]},.string {data:=#[]}]),4,56):=by kernel_rfl
theorem zsc (x:Ep) (w:World):
  Calls prog 137 #[.agg #[.int .i64 x.kind,.string x.name,.string x.loc,.string x.spec]] w fun e w'=>e= .returned (.agg #[.int .i64 x.kind,.string x.name,.string x.loc,.string x.spec])/\Bw w w':=by
 go_enter func137,ntmps137;go_wp2;refine bodyPost_ret (results_cell_row rfl _ _ (w.heap.size+1) 103 #[.int .i64 x.kind,.string x.name,.string x.loc,.string x.spec] (0,0) _ rfl ?_ underlying103 rfl (by kernel_rfl)) rfl ?_
 ·rw[heap_alloc_old _ _ (by show _<((w.heap.push _).push _).size;simp)];exact heap_alloc2_new w _ _
 ·exact⟨rfl,((bA0).alloc (by show _<=(w.heap.push _).size;simp) _).alloc (by show _<=((w.heap.push _).push _).size;simp;omega) _⟩
theorem zsd (l:List Ep) (W:World) (hr:RowAt W w epL 4 l) (hl:l.length<=1048576):
  Calls prog 104 #[.slice w l.length g] W fun e w'=>zf0 W 103 4 l.length (l.flatMap epL) e w':=by
 have HR:=zc hr;clear hr;obtain⟨i0,hi,aa,ac,ad⟩:=info_parts Tryz.infoTEp;go_enter func104,ntmps104;go_wp2_with (first|(at_make;refine wpList_make_full W rfl _ _ 55 rfl W.heap.size 103 i0 _ 4 underlying55 hi aa ac .i64 .i64 _ _ l.length (by rfl) (by rfl) rfl rfl (by rw[ad];omega) (by unfold maxLen;omega) (le_refl _) ?_));intro Y A I;have af:=zc ((Below.refl _ _).grown I (le_refl _) (fun k h=>by cases h):Bw W Y);have J:Hid (OwnC Y W.heap.size 103 4 W.heap.size l.length (l.flatMap epL) 0):=⟨_,A,fun j hj=>absurd hj (not_lt_zero j)⟩;clear A I;obtain⟨C,M⟩: ∃C,C=W.heap.size:=⟨_,rfl⟩;have ae:=zc M;rw[<-M];rw[<-M] at J;have ag:Hid (OwnC Y W.heap.size 103 4 C l.length (l.flatMap epL) 0):=by rw[<-M];exact J.o
 clear M J;go_wp2;go_loopg [4] l.length (fun k i wr=>∃j:Nat,i= .int .i64 j/\j+k=l.length/\OwnC wr W.heap.size 103 4 C l.length (l.flatMap epL) (j*4)/\Bw W wr)
 case atStart=>exact⟨0,rfl,by omega,ag.o,af.o⟩
 case round=>
  obtain⟨j,rfl,hj,ho,hb⟩:=hrel;have HO:=zc ho;have V:=zc hb;clear ho hb;by_cases Z:j<l.length
  ·have N:(j:Int)<(l.length:Int):=by omega
   obtain⟨x,hx⟩: ∃x,l[j]? =some x:=⟨_,gE Z⟩;obtain⟨b,ai,rfl,O⟩:=(HR.o.later V.o).get hx;have X:=zc hx;clear hx;have c0:=O 0 _ rfl;have c1:=O 1 _ rfl;have c2:=O 2 _ rfl;have c3:=O 3 _ rfl;simp only[add_zero] at c0;clear O;obtain⟨U,L⟩: ∃U,U=j+1:=⟨_,rfl⟩;have ej:(j:Int)+1=(U:Int):=by omega
   have HJ:=zc L;clear L;go_wp2_with fail;refine (zsc x _).mono ?_;rintro e w2 ⟨rfl,K⟩;have q:=zc (HO.o.later K);have ah:=zc (V.o.trans (K.mono V.o.size));clear K c0 c1 c2 c3;obtain⟨v0,g0⟩:=q.o.has (j*4) (by omega);have f0:=q.o.free (j*4);obtain⟨v1,g1⟩:=q.o.has (j*4+1) (by omega);have f1:=q.o.free (j*4+1);obtain⟨v2,g2⟩:=q.o.has (j*4+2) (by omega);have f2:=q.o.free (j*4+2);obtain⟨v3,g3⟩:=q.o.has (j*4+3) (by omega);have f3:=q.o.free (j*4+3);have HN:=zc ((((q.o.put (by omega) (zbx (f:=epL) (m:=4) (fun _=>rfl) l j x 0 _ X.o rfl)).put (by omega) (zbx (f:=epL) (m:=4) (fun _=>rfl) l j x 1 _ X.o rfl)).put (by omega) (zbx (f:=epL) (m:=4) (fun _=>rfl) l j x 2 _ X.o rfl)).put (by omega) (zbx (f:=epL) (m:=4) (fun _=>rfl) l j x 3 _ X.o rfl));have H:W.heap.size<=C:=by have:=ae.o;omega
   go_wp2;go_roundg (gk-1)
   case rel=>exact⟨U,rfl,by have:=HJ.o;omega,by rw[HJ.o,succ_mul];exact HN.o,((((ah.o.setCell H _).setCell H _).setCell H _).setCell H _)⟩
   case measure=>omega
  ·have N: ¬(j:Int)<(l.length:Int):=by omega
   obtain rfl:j=l.length:=by omega
   go_wp2;go_ret;exact⟨C,rfl,HO.o.all (zev (f:=epL) (fun _=>rfl) l),V.o⟩
theorem Tryz.infoTSm:(prog.info? 108).map (fun i=>(i.zero,i.size,i.bytes))=some (some (.agg #[.int .i64 0,.string {data:=#[]},.int .i64 0]),3,32):=by kernel_rfl
theorem zse (x:Sm) (w:World):
  Calls prog 138 #[.agg #[.int .i64 x.kind,.string x.name,.int .i64 x.expr]] w fun e w'=>e= .returned (.agg #[.int .i64 x.kind,.string x.name,.int .i64 x.expr])/\Bw w w':=by
 go_enter func138,ntmps138;go_wp2;refine bodyPost_ret (results_cell_row rfl _ _ (w.heap.size+1) 108 #[.int .i64 x.kind,.string x.name,.int .i64 x.expr] (0,0) _ rfl ?_ underlying108 rfl (by kernel_rfl)) rfl ?_
 ·rw[heap_alloc_old _ _ (by show _<((w.heap.push _).push _).size;simp)];exact heap_alloc2_new w _ _
 ·exact⟨rfl,((bA0).alloc (by show _<=(w.heap.push _).size;simp) _).alloc (by show _<=((w.heap.push _).push _).size;simp;omega) _⟩
theorem zsf (l:List Sm) (W:World) (hr:RowAt W w smL 3 l) (hl:l.length<=1048576):
  Calls prog 105 #[.slice w l.length g] W fun e w'=>zf0 W 108 3 l.length (l.flatMap smL) e w':=by
 have HR:=zc hr;clear hr;obtain⟨i0,hi,Z,ab,ac⟩:=info_parts Tryz.infoTSm;go_enter func105,ntmps105;go_wp2_with (first|(at_make;refine wpList_make_full W rfl _ _ 56 rfl W.heap.size 108 i0 _ 3 underlying56 hi Z ab .i64 .i64 _ _ l.length (by rfl) (by rfl) rfl rfl (by rw[ac];omega) (by unfold maxLen;omega) (le_refl _) ?_));intro X A H;have ae:=zc ((Below.refl _ _).grown H (le_refl _) (fun k h=>by cases h):Bw W X);have J:Hid (OwnC X W.heap.size 108 3 W.heap.size l.length (l.flatMap smL) 0):=⟨_,A,fun j hj=>absurd hj (not_lt_zero j)⟩;clear A H;obtain⟨C,M⟩: ∃C,C=W.heap.size:=⟨_,rfl⟩;have ad:=zc M;rw[<-M];rw[<-M] at J;have af:Hid (OwnC X W.heap.size 108 3 C l.length (l.flatMap smL) 0):=by rw[<-M];exact J.o
 clear M J;go_wp2;go_loopg [4] l.length (fun k i wr=>∃j:Nat,i= .int .i64 j/\j+k=l.length/\OwnC wr W.heap.size 108 3 C l.length (l.flatMap smL) (j*3)/\Bw W wr)
 case atStart=>exact⟨0,rfl,by omega,af.o,ae.o⟩
 case round=>
  obtain⟨j,rfl,hj,ho,hb⟩:=hrel;have HO:=zc ho;have U:=zc hb;clear ho hb;by_cases Y:j<l.length
  ·have N:(j:Int)<(l.length:Int):=by omega
   obtain⟨x,hx⟩: ∃x,l[j]? =some x:=⟨_,gE Y⟩;obtain⟨b,ah,rfl,V⟩:=(HR.o.later U.o).get hx;have HX:=zc hx;clear hx;have c0:=V 0 _ rfl;have c1:=V 1 _ rfl;have c2:=V 2 _ rfl;simp only[add_zero] at c0;clear V;obtain⟨O,L⟩: ∃O,O=j+1:=⟨_,rfl⟩;have ej:(j:Int)+1=(O:Int):=by omega
   have HJ:=zc L;clear L;go_wp2_with fail;refine (zse x _).mono ?_;rintro e w2 ⟨rfl,K⟩;have q:=zc (HO.o.later K);have ag:=zc (U.o.trans (K.mono U.o.size));clear K c0 c1 c2;obtain⟨v0,g0⟩:=q.o.has (j*3) (by omega);have f0:=q.o.free (j*3);obtain⟨v1,g1⟩:=q.o.has (j*3+1) (by omega);have f1:=q.o.free (j*3+1);obtain⟨v2,g2⟩:=q.o.has (j*3+2) (by omega);have f2:=q.o.free (j*3+2);have HN:=zc (((q.o.put (by omega) (zbx (f:=smL) (m:=3) (fun _=>rfl) l j x 0 _ HX.o rfl)).put (by omega) (zbx (f:=smL) (m:=3) (fun _=>rfl) l j x 1 _ HX.o rfl)).put (by omega) (zbx (f:=smL) (m:=3) (fun _=>rfl) l j x 2 _ HX.o rfl));have I:W.heap.size<=C:=by have:=ad.o;omega
   go_wp2;go_roundg (gk-1)
   case rel=>exact⟨O,rfl,by have:=HJ.o;omega,by rw[HJ.o,succ_mul];exact HN.o,(((ag.o.setCell I _).setCell I _).setCell I _)⟩
   case measure=>omega
  ·have N: ¬(j:Int)<(l.length:Int):=by omega
   obtain rfl:j=l.length:=by omega
   go_wp2;go_ret;exact⟨C,rfl,HO.o.all (zev (f:=smL) (fun _=>rfl) l),U.o⟩
theorem Tryz.infoTEx:(prog.info? 106).map (fun i=>(i.zero,i.size,i.bytes))=some (some (.agg #[.int .i64 0,.int .i64 0,.string {data:=#[]},.string {data:=#[]},.int .i64 0,.int .i64 0]),6,64):=by kernel_rfl
theorem zsg (x:Ex) (w:World):
  Calls prog 139 #[.agg #[.int .i64 x.kind,.int .i64 x.num,.string x.name,.string x.field,.int .i64 x.l,.int .i64 x.r]] w fun e w'=>e= .returned (.agg #[.int .i64 x.kind,.int .i64 x.num,.string x.name,.string x.field,.int .i64 x.l,.int .i64 x.r])/\Bw w w':=by
 go_enter func139,ntmps139;go_wp2;refine bodyPost_ret (results_cell_row rfl _ _ (w.heap.size+1) 106 #[.int .i64 x.kind,.int .i64 x.num,.string x.name,.string x.field,.int .i64 x.l,.int .i64 x.r] (0,0) _ rfl ?_ underlying106 rfl (by kernel_rfl)) rfl ?_
 ·rw[heap_alloc_old _ _ (by show _<((w.heap.push _).push _).size;simp)];exact heap_alloc2_new w _ _
 ·exact⟨rfl,((bA0).alloc (by show _<=(w.heap.push _).size;simp) _).alloc (by show _<=((w.heap.push _).push _).size;simp;omega) _⟩
theorem zsh (l:List Ex) (W:World) (hr:RowAt W w exL 6 l) (hl:l.length<=1048576):
  Calls prog 106 #[.slice w l.length g] W fun e w'=>zf0 W 106 6 l.length (l.flatMap exL) e w':=by
 have HR:=zc hr;clear hr;obtain⟨i0,hi,aa,ac,ad⟩:=info_parts Tryz.infoTEx;go_enter func106,ntmps106;go_wp2_with (first|(at_make;refine wpList_make_full W rfl _ _ 57 rfl W.heap.size 106 i0 _ 6 underlying57 hi aa ac .i64 .i64 _ _ l.length (by rfl) (by rfl) rfl rfl (by rw[ad];omega) (by unfold maxLen;omega) (le_refl _) ?_));intro Y H I;have af:=zc ((Below.refl _ _).grown I (le_refl _) (fun k h=>by cases h):Bw W Y);have J:Hid (OwnC Y W.heap.size 106 6 W.heap.size l.length (l.flatMap exL) 0):=⟨_,H,fun j hj=>absurd hj (not_lt_zero j)⟩;clear H I;obtain⟨C,O⟩: ∃C,C=W.heap.size:=⟨_,rfl⟩;have ae:=zc O;rw[<-O];rw[<-O] at J;have ag:Hid (OwnC Y W.heap.size 106 6 C l.length (l.flatMap exL) 0):=by rw[<-O];exact J.o
 clear O J;go_wp2;go_loopg [4] l.length (fun k i wr=>∃j:Nat,i= .int .i64 j/\j+k=l.length/\OwnC wr W.heap.size 106 6 C l.length (l.flatMap exL) (j*6)/\Bw W wr)
 case atStart=>exact⟨0,rfl,by omega,ag.o,af.o⟩
 case round=>
  obtain⟨j,rfl,hj,ho,hb⟩:=hrel;have HO:=zc ho;have X:=zc hb;clear ho hb;by_cases Z:j<l.length
  ·have U:(j:Int)<(l.length:Int):=by omega
   obtain⟨x,hx⟩: ∃x,l[j]? =some x:=⟨_,gE Z⟩;obtain⟨b,ai,rfl,L⟩:=(HR.o.later X.o).get hx;have M:=zc hx;clear hx;have c0:=L 0 _ rfl;have c1:=L 1 _ rfl;have c2:=L 2 _ rfl;have c3:=L 3 _ rfl;have c4:=L 4 _ rfl;have c5:=L 5 _ rfl;simp only[add_zero] at c0;clear L;obtain⟨V,N⟩: ∃V,V=j+1:=⟨_,rfl⟩;have ej:(j:Int)+1=(V:Int):=by omega
   have HJ:=zc N;clear N;go_wp2_with fail;refine (zsg x _).mono ?_;rintro e w2 ⟨rfl,K⟩;have q:=zc (HO.o.later K);have ah:=zc (X.o.trans (K.mono X.o.size));clear K c0 c1 c2 c3 c4 c5;obtain⟨v0,g0⟩:=q.o.has (j*6) (by omega);have f0:=q.o.free (j*6);obtain⟨v1,g1⟩:=q.o.has (j*6+1) (by omega);have f1:=q.o.free (j*6+1);obtain⟨v2,g2⟩:=q.o.has (j*6+2) (by omega);have f2:=q.o.free (j*6+2);obtain⟨v3,g3⟩:=q.o.has (j*6+3) (by omega);have f3:=q.o.free (j*6+3);obtain⟨v4,g4⟩:=q.o.has (j*6+4) (by omega);have f4:=q.o.free (j*6+4);obtain⟨v5,g5⟩:=q.o.has (j*6+5) (by omega);have f5:=q.o.free (j*6+5);have HN:=zc ((((((q.o.put (by omega) (zbx (f:=exL) (m:=6) (fun _=>rfl) l j x 0 _ M.o rfl)).put (by omega) (zbx (f:=exL) (m:=6) (fun _=>rfl) l j x 1 _ M.o rfl)).put (by omega) (zbx (f:=exL) (m:=6) (fun _=>rfl) l j x 2 _ M.o rfl)).put (by omega) (zbx (f:=exL) (m:=6) (fun _=>rfl) l j x 3 _ M.o rfl)).put (by omega) (zbx (f:=exL) (m:=6) (fun _=>rfl) l j x 4 _ M.o rfl)).put (by omega) (zbx (f:=exL) (m:=6) (fun _=>rfl) l j x 5 _ M.o rfl));have A:W.heap.size<=C:=by have:=ae.o;omega
   go_wp2;go_roundg (gk-1)
   case rel=>exact⟨V,rfl,by have:=HJ.o;omega,by rw[HJ.o,succ_mul];exact HN.o,((((((ah.o.setCell A _).setCell A _).setCell A _).setCell A _).setCell A _).setCell A _)⟩
   case measure=>omega
  ·have U: ¬(j:Int)<(l.length:Int):=by omega
   obtain rfl:j=l.length:=by omega
   go_wp2;go_ret;exact⟨C,rfl,HO.o.all (zev (f:=exL) (fun _=>rfl) l),X.o⟩
open List (map_cons sum_cons length_cons size_toArray length_nil)
theorem zgy {α:Type} (f:α->BA0) (l:List α): ∀t:BA0,(acc f l t).size=t.size+(l.map fun x=>(f x).size).sum:=by
 induction l with
 |nil=>intro t;rfl
 |cons x l h=>
  intro t;show (acc f l (t++f x)).size=_;rw[h,sA,map_cons,sum_cons,Nat.add_assoc]
theorem zhz {α:Type} {f c:α->Nat} (l:List α) (h: ∀x∈l,f x<=40+c x):(l.map f).sum<=40*l.length+zE c l:=by
 induction l with
 |nil=>exact Nat.le_refl _
 |cons x l q=>
  have A:=h x (List.mem_cons_self ..);have H:=q fun y w=>h y (List.mem_cons_of_mem _ w);unfold zE at*;rw[map_cons,sum_cons,map_cons,sum_cons,length_cons];omega
theorem zlJ {α:Type} {f c g:α->Nat} (l:List α) (h: ∀x∈l,f x<=40+c x+g x):(l.map f).sum<=40*l.length+zE c l+(l.map g).sum:=by
 induction l with
 |nil=>exact Nat.le_refl _
 |cons x l q=>
  have A:=h x (List.mem_cons_self ..);have H:=q fun y w=>h y (List.mem_cons_of_mem _ w);unfold zE at*;rw[map_cons,sum_cons,map_cons,sum_cons,map_cons,sum_cons,length_cons];omega
theorem zc8 {α:Type} {c:α->Nat} {l:List α} {x:α} (h:x∈l):c x<=zE c l:=by
 induction l with
 |nil=>cases h
 |cons y l q=>
  unfold zE at*;rw[map_cons,sum_cons];rcases List.mem_cons.1 h with rfl|h
  ·omega
  ·have:=q h;omega
theorem zdn (a:Array UInt8):(⟨a⟩:BA0).size=a.size:=rfl
variable (s:BA0) {w:Md}
theorem zf1:(za7 s).size=s.size+2:=by
 rw[za7,sA,sA,zdn];show 1+s.size+1=_;omega
theorem zlK (b:BA0):(asT s b).size<=s.size+b.size+4:=by
 unfold asT
 split
 ·omega
 ·have z:(({data:=#[32,97,115,32]}:BA0)).size=4:=rfl;rw[sA,sA,z];omega
theorem zsR:(rqT s).size<=40+zb6 s:=by
 rw[rqT,sA,sA,zf1,zdn,zdn];show 7+(s.size+2)+2<=40+s.size;omega
theorem zsS (x:Im):(zak x).size<=40+zcn x:=by
 have h:=zlK x.first x.loc;unfold zak zcn
 split
 ·simp only[sA,zf1,zdn];simp only[size_toArray,length_cons,length_nil];omega
 ·split
  ·simp only[sA,zf1,zdn];simp only[size_toArray,length_cons,length_nil];omega
  ·simp only[sA,zf1,zdn];simp only[size_toArray,length_cons,length_nil];omega
theorem zsT (x:Ep):(epF x).size<=40+zco x:=by
 have h:=zlK x.loc x.name;unfold epF
 split
 ·exact Nat.zero_le _
 ·unfold zb5 zco
  split
  ·simp only[sA,zf1,zdn];simp only[size_toArray,length_cons,length_nil];omega
  ·split
   ·simp only[sA,zf1,zdn];simp only[size_toArray,length_cons,length_nil];omega
   ·simp only[sA,zdn];simp only[size_toArray,length_cons,length_nil];omega
theorem zlL (k:Int) (n e:BA0):(zaE k n e).size<=40+n.size+e.size:=by
 unfold zaE
 repeat' split
 all_goals
  simp only[sA,zdn];simp only[size_toArray,length_cons,length_nil];omega
theorem zsU (k:Int) (n e:BA0):(zdE k n e).size<=40+n.size+e.size:=by
 unfold zdE
 split
 ·simp only[sA,zdn];simp only[size_toArray,length_cons,length_nil];omega
 ·exact zlL k n e
theorem zsV (l:List Ex):(l.map zen).sum<=40*l.length+zE zda l:=zhz l fun x _=>by unfold zen zda;omega
theorem zsW (m:Md):(zcv m).size<=40*m.rq.length+zE zb6 m.rq+(40*m.im.length+zE zcn m.im)+(40*m.ep.length+zE zco m.ep):=by
 have h:=zhz (c:=zb6) m.rq fun x _=>zsR x;have q:=zhz (c:=zcn) m.im fun x _=>zsS x;have w:=zhz (c:=zco) m.ep fun x _=>zsT x;rw[zcv,zgy,zgy,zgy];have:sNone.size=0:=rfl;omega
theorem zlM (t:Tree w) (h:zay w.ex):(zcw w).size<=40*zaU w/\(zbX w).size<=40*zaU w:=by
 have H:=zsW w;have A:=zpJ t h;have J:=zsV w.ex;have W:=zlJ (c:=zc7) (g:=fun s=>wt w.ex s.expr.toNat) (f:=fun s=>(stF w.ex s).size) w.st fun s _=>zlL s.kind s.name _;have q:=zlJ (c:=zc7) (g:=fun s=>wt w.ex s.expr.toNat) (f:=fun s=>(zcY w.ex s).size) w.st fun s _=>zsU s.kind s.name _;have I:zaU w=(w.rq.length+zE zb6 w.rq)+(w.im.length+zE zcn w.im)+(w.ep.length+zE zco w.ep)+(w.st.length+zE zc7 w.st)+(w.ex.length+zE zda w.ex):=rfl;constructor
 ·rw[zcw,zgy];omega
 ·rw[zbX,zgy];omega
theorem zsX (h:zaU w<=67108864) (W:zay w.ex):Small w:=by
 have A:zaU w=(w.rq.length+zE zb6 w.rq)+(w.im.length+zE zcn w.im)+(w.ep.length+zE zco w.ep)+(w.st.length+zE zc7 w.st)+(w.ex.length+zE zda w.ex):=rfl;refine⟨fun x q=>?_,fun x q=>?_,fun x q=>?_,fun x q=>?_,W,?_,?_,?_,?_,?_⟩
 ·have e:zb6 x=x.size:=rfl;have:=zc8 (c:=zb6) q;omega
 ·have:=zc8 (c:=zcn) q;have e:zcn x=x.spec.size+x.first.size+x.loc.size:=rfl;omega
 ·have:=zc8 (c:=zco) q;have e:zco x=x.name.size+x.loc.size+x.spec.size:=rfl;omega
 ·have:=zc8 (c:=zc7) q;have e:zc7 x=x.name.size:=rfl;omega
 all_goals omega
theorem zlN (h:zaU w<=1048576) (q:zay w.ex):Small w:=zsX (Nat.le_trans h (by decide)) q
set_option maxHeartbeats 1600000
abbrev RowS (w:World) (a:Option Addr) (l:List BA0):Prop:=RowAt w a (fun x=>[Value.string x]) 1 l
variable {g:Nat} {w:World} {W:Rw}
theorem RowAt.take {α:Type} {f:α->List Value} {a:Option Addr} {l:List α} (h:RowAt w a f g l) (k:Nat):RowAt w a f g (l.take k):=by
 rcases h with rfl|⟨b,H,I,A,J⟩
 ·exact .inl (List.take_nil)
 ·refine .inr ⟨b,H,I,A,fun j x q=>?_⟩;rw[List.getElem?_take] at q
  split at q
  ·exact J j x q
  ·cases q
theorem zg9 (a:Option Addr) (I n:Nat) (l:List BA0) (s:BA0) (w:World) (U:n=l.length) (N:RowS w a l) (hl:n<=1048576):
  Calls prog 39 #[.slice a n I,.string s] w fun e w'=>e= .returned (.bool (inL l s))/\w'=w:=by
 have Z:=zc N;have O:=zc U;clear N U;go_enter func39,ntmps39;go_wp2;go_loop [5] (fun i=>∃k:Nat,k<=n/\i= .int .i64 k/\(∀j,j<k->((l.getD j sNone).toList==s.toList)=false)) (fun i=>(n-intOf i).toNat)
 case atStart=>exact⟨0,by omega,rfl,fun j K=>absurd K (Nat.not_lt_zero j)⟩
 case round=>
  obtain⟨k,hk,rfl,A⟩:=hrel;have H:=zc A;clear A;by_cases X:k<n
  ·have q:k<l.length:=by have:=O.o;omega
   obtain⟨x,J⟩: ∃x,l[k]? =some x:=⟨_,gE q⟩;obtain⟨b,aa,rfl,V⟩:=Z.o.get J;have h:l.getD k sNone=x:=by simp[List.getD,J]
   have Y:=V 0 _ rfl;simp only[Nat.add_zero,Nat.mul_one] at Y;clear V J;cases M:(x.toList==s.toList) with
   |true=>
    have L:Hid (inL l s=true):=zrF (k:=k) q (by rw[h];exact M);clear h q;go_wp2;go_ret;exact⟨zk L.o.symm,rfl⟩
   |false=>
    have HX:Hid (∀j,j<k+1->((l.getD j sNone).toList==s.toList)=false):=fun j K=>by
     by_cases e:j=k
     ·rw[e,h];exact M
     ·exact H.o j (by omega)
    clear h q;go_wp2;go_round
    case rel=>exact⟨k+1,by omega,by go_num,HX.o⟩
    case measure=>simp[intOf];omega
  ·have L:Hid (inL l s=false):=zrG fun j K=>H.o j (by have:=O.o;omega);go_wp2;go_ret;exact⟨zk L.o.symm,rfl⟩
theorem znC (a:Option Addr) (h n:Nat) (l:List BA0) (w:World) (hn:n=l.length) (Y:RowS w a l) (hl:n<=1048576) (V:n<=h):
  Calls prog 72 #[.slice a n h] w fun e w'=>e= .returned (.bool (twB l))/\Bw w w':=by
 have X:=zc Y;have Z:=zc hn;clear Y hn;go_enter func72,ntmps72;go_wp2;go_loopg [3] n (fun k i wr=>∃j:Nat,i= .int .i64 j/\j+k=n/\(∀i,i<j->inL (l.take i) (l.getD i sNone)=false)/\Bw w wr)
 case atStart=>exact⟨0,rfl,by omega,fun j hj=>absurd hj (Nat.not_lt_zero j),Below.refl _ _⟩
 case round=>
  obtain⟨j,rfl,hj,A,U⟩:=hrel;have J:=zc A;have K:=zc U;clear A U;by_cases aa:j<n
  ·have M:(j:Int)<(n:Int):=by omega
   have I:j<l.length:=by have:=Z.o;omega
   have ac:(j:Int)<=(h:Int):=by omega
   obtain⟨x,N⟩: ∃x,l[j]? =some x:=⟨_,gE I⟩;obtain⟨b,ab,rfl,hc⟩:=(X.o.later K.o).get N;have H:l.getD j sNone=x:=by simp[List.getD,N]
   have c0:=hc 0 _ rfl;simp only[Nat.add_zero,Nat.mul_one] at c0;clear hc N;have HT:=zc ((X.o.later K.o).take j);have HL:Hid (j=(l.take j).length):=by show j=_;rw[List.length_take];omega
   obtain⟨v,hv⟩: ∃v,inL (l.take j) x=v:=⟨_,rfl⟩;have q:=zc hv;have L:=zc H;clear hv H;go_wp2_with fail;go_region_with (first|(go_at_call 39;refine (zg9 _ h j (l.take j) x _ HL.o (by exact HT.o) (by omega)).mono ?_;rintro e w' ⟨rfl,rfl⟩;rw[q.o]))
   all_goals
    cases v with
    |true=>
     have O:Hid (twB l=true):=zl1 I (by rw[L.o];exact q.o);go_wp2;go_ret;exact⟨zk O.o.symm,K.o.drew⟩
    |false=>
     have HX:Hid (∀i,i<j+1->inL (l.take i) (l.getD i sNone)=false):=fun i hi=>by
      by_cases e:i=j
      ·rw[e,L.o];exact q.o
      ·exact J.o i (by omega)
     go_wp2;go_roundg (gk-1)
     case rel=>exact⟨j+1,by go_num,by omega,HX.o,K.o.drew⟩
     case measure=>omega
  ·have M: ¬(j:Int)<(n:Int):=by omega
   have O:Hid (twB l=false):=zrH fun i hi=>J.o i (by have:=Z.o;omega);go_wp2;go_ret;exact⟨zk O.o.symm,K.o⟩
theorem RowAt.of {α:Type} {f:α->List Value} {m:Nat} (A: ∀x,(f x).length=m) {b0:Nat} {e:TypeId} {l:List α} (h:OwnR w b0 e m W l.length (l.flatMap f)):RowAt w W.a f m l:=by
 cases I:l with
 |nil=>exact .inl rfl
 |cons y t=>
  rw[<-I];obtain⟨g,H,_⟩:=OwnR.elem A h (j:=0) (x:=y) (by rw[I];rfl);refine .inr ⟨g,0,H,(h.typed (by rw[Rw.blk,H];rfl)).2.1,fun j x K i v J=>?_⟩;obtain⟨N,q,L⟩:=OwnR.elem A h K;rw[H] at q;cases q;obtain⟨M,_⟩:=gS J;rw[Nat.zero_add,L i (by rw[<-A x];exact M)];exact J
theorem RowS.of {l:List BA0} (h:OwnR w g 9 1 W l.length (l.map .string)):RowS w W.a l:=by
 refine RowAt.of (f:=fun x=>[Value.string x]) (fun _=>rfl) (b0:=g) (e:=9) ?_;have e:(l.flatMap fun x=>[Value.string x])=l.map .string:=by
  clear h
  induction l with
  |nil=>rfl
  |cons x l q=>rw[List.flatMap_cons,List.map_cons,q];rfl
 rw[e];exact h
def zj6 (l:List Im) (n:BA0) (z:Int):Prop:=
 (z= -1/\∀(j:Nat) (y:Im),l[j]? =some y->(y.loc.toList==n.toList)=false)∨
 ∃(k:Nat) (x:Im),z=k/\l[k]? =some x/\(x.loc.toList==n.toList)=true/\∀(j:Nat) (y:Im),j<k->l[j]? =some y->(y.loc.toList==n.toList)=false
def zxj (l:List Im) (n:BA0) (e:Ending):Prop:=∃z,e= .returned (.int .i64 z)/\zj6 l n z
theorem zxk (V:Sv) (m:Md) (n:BA0) (w:World) (J:RowAt w V.im.a imL 3 m.im) (hl:m.im.length<=1048576):
  Calls prog 102 #[zo V m,.string n] w fun e w'=>zxj m.im n e/\Bw w w':=by
 obtain⟨a,O⟩: ∃a,V.im.a=a:=⟨_,rfl⟩;unfold zo;rw[O] at J ⊢;have I:Hid (Bw w (w.alloc (.cells #[.slice V.rq.a m.rq.length V.rq.cap,.slice a m.im.length V.im.cap,.slice V.ep.a m.ep.length V.ep.cap,.slice V.st.a m.st.length V.st.cap,.slice V.ex.a m.ex.length V.ex.cap] 59))):=bA0;have Y:=zc (J.later I.o);clear J O;go_enter func102,ntmps102;go_wp2;go_loop [5] (fun i=>∃k:Nat,k<=m.im.length/\i= .int .i64 k/\(∀(j:Nat) (y:Im),j<k->m.im[j]? =some y->(y.loc.toList==n.toList)=false)) (fun i=>(m.im.length-intOf i).toNat)
 case atStart=>exact⟨0,by omega,rfl,fun j _ N=>absurd N (Nat.not_lt_zero j)⟩
 case round=>
  obtain⟨k,hk,rfl,A⟩:=hrel;have h:=zc A;clear A;by_cases H:k<m.im.length
  ·obtain⟨x,K⟩: ∃x,m.im[k]? =some x:=⟨_,gE H⟩;obtain⟨b,Z,rfl,U⟩:=Y.o.get K;have X:=zc K;have c0:=U 2 _ rfl;clear U K;cases M:(x.loc.toList==n.toList) with
   |true=>
    have L:Hid (zj6 m.im n k):=.inr ⟨k,x,rfl,X.o,M,h.o⟩;go_wp2;go_ret;exact⟨⟨_,rfl,L.o⟩,I.o⟩
   |false=>
    have HY:Hid (∀(j:Nat) (y:Im),j<k+1->m.im[j]? =some y->(y.loc.toList==n.toList)=false):=fun j y N q=>by
     by_cases e:j=k
     ·rw[e,X.o] at q;cases q;exact M
     ·exact h.o j y (by omega) q
    go_wp2;go_round
    case rel=>exact⟨k+1,by omega,by go_num,HY.o⟩
    case measure=>simp[intOf];omega
  ·have L:Hid (zj6 m.im n (-1)):=.inl ⟨rfl,fun j y q=>h.o j y (by have:=(gS q).1;omega) q⟩;go_wp2;go_ret;exact⟨⟨_,rfl,L.o⟩,I.o⟩
theorem ze1 (V:Sv) (m:Md) (n:BA0) (w:World) (N:RowAt w V.im.a imL 3 m.im) (hl:m.im.length<=1048576):
  Calls prog 73 #[zo V m,.string n] w fun e w'=>e= .returned (.bool (spB m.im n))/\Bw w w':=by
 have L:=zc N;clear N;have K:Hid (Bw w (w.alloc (.cells (bxA V m) 59))):=bA0;unfold zo;go_enter func73,ntmps73;go_wp2_with fail;refine (zxk V m n _ (L.o.later K.o) hl).mono ?_;rintro e w1 ⟨⟨z,rfl,M⟩,H⟩;have q:=zc (K.o.trans (H.mono (by rw[zh];omega)));obtain⟨c0,Y,c2,c3,c4,cf⟩:=zl ((H.block w.heap.size (by rw[zh];omega)).trans (hN0 w _));have U:=zc M;clear M H;rcases U.o with ⟨rfl,h⟩|⟨k,x,rfl,A,J,h⟩
 ·have I:Hid (spB m.im n=false):=zrJ h;clear h;go_wp2;go_ret;exact⟨zk I.o.symm,q.o⟩
 ·have I:Hid (spB m.im n=(x.first.toList==[42])):=zrI A J h;have hk:=(gS A).1;obtain⟨b,Z,O,X⟩:=(L.o.later q.o).get A;have d0:=X 1 _ rfl;rw[O] at Y;clear X h J A O U;go_wp2;go_ret;exact⟨zk I.o.symm,q.o⟩
theorem znT {w:World} {base g n A:Nat} {e:TypeId} {xs:List BA0} (h:zbw w base e g n A xs):base<=g/\g<w.heap.size:=by
 rcases h.1.2 with ⟨q,_⟩|⟨L,H,I,q,J,K,_⟩
 ·simp at q
 ·simp only[vI,sI0,Addr.mk.injEq,and_true,true_and] at q;obtain⟨rfl,rfl⟩:=q;exact⟨J,(aLt K)⟩
theorem zxL {w W:World} {base g n q:Nat} {e:TypeId} {xs:List BA0} (h:zbw w base e g n q xs) (K:W.heap[g]? =w.heap[g]?):zbw W base e g n q xs:=by
 refine⟨⟨h.1.1,?_⟩,h.2⟩;rcases h.1.2 with ⟨A,_⟩|⟨N,J,H,A,I,M,L⟩
 ·simp at A
 ·simp only[vI,sI0,Addr.mk.injEq,and_true,true_and] at A;obtain⟨rfl,rfl⟩:=A;exact .inr ⟨g,q,H,rfl,I,K.trans M,L⟩
def inT (l:List BA0) (s:BA0):Bool:=l.any fun y=>y.toList==s.toList
def zhW (s x:BA0):Bool:=Op.bytesLess s.toList x.toList
def zjK (s:BA0):List BA0->List BA0
 |[]=>[s]
 |x::l=>if zhW s x then s::x::l else x::zjK s l
def zxM (l:List BA0) (s:BA0):List BA0:=if inT l s then l else zjK s l
def z0c (s:BA0) (b:Bool) (l:List BA0):List BA0:=if b then zjK s l else l
def z0d (s:BA0) (b:Bool) (l:List BA0):Prop:=if b then ∃x∈l,zhW s x=true else ∀x∈l,zhW s x=false
def zxN (k:Int):Bool:=k==2||k==3||k==4||k==5
def zfJ {α:Type} (p:α->Bool) (f:α->BA0) (l:List α) (acc:List BA0):List BA0:=l.foldl (fun acc x=>if p x=true then zxM acc (f x) else acc) acc
def zxO (m:Md):List BA0:=zfJ (fun x=>zxN x.kind) (fun x=>x.name) m.ex []
def zxP (m:Md):List BA0:=zfJ (fun x=>x.kind==3) (fun x=>x.name) m.st (zxO m)
def zxQ (m:Md):List BA0:=zfJ (fun x=>x.kind==1) (fun x=>x.loc) m.ep (zxP m)
def zxR (m:Md):List BA0:=zfJ (fun x=> !inT (zxQ m) x.loc) (fun x=>x.loc) m.im []
def z0e (m:Md):Md:={m with im:=m.im.filter fun x=> !inT (zxR m) x.loc}
def zxS (m:Md):List BA0:=zfJ (fun x=>(x.kind==2||x.kind==3)&& !inT (zbY m) x.name) (fun x=>x.name) m.ex []
def z0f (m:Md):List BA0:=zfJ (fun x=>x.kind==3&& !inT (zbY m) x.name) (fun x=>x.name) m.st (zxS m)
theorem zxT {α:Type} {l:List α} {j:Nat} {x:α} (h:l[j]? =some x):l.take (j+1)=l.take j++[x]:=by
 obtain⟨q,rfl⟩:=gS h;exact tG q
def z0g (l:List BA0):Prop:=l.Pairwise fun a b=>zhW a b=true
def zbj (l:List Sm):List BA0:=(l.filter fun x=>x.kind==3).map fun x=>x.name
def zaV (l:List Ex):List BA0:=(l.filter fun x=>x.kind==2||x.kind==3).map fun x=>x.name
def z0h (l:List Ex):List BA0:=(l.filter fun x=>x.kind==4||x.kind==5).map fun x=>x.name
def z0i (l:List Ep):List BA0:=(l.filter fun x=>x.kind==1).map fun x=>x.loc
