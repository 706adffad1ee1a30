/-
  Two programs in memory side by side. No program is spoken of but for the numbers of its types.
  Lines of a program's text,as plain functions. No program is spoken of.
  A program's text: its lines,one behind the other. No program is spoken of.
  A program that was read has no statement of DefaultName that is no let. No program is spoken of.
  What a Print and a Parse tell,as a ModOk takes it. No program is spoken of but for the numbers of its types.
  What l4Same of the specification answers,the model's != handed in: the walk.
-/
import Derived.Deep.Cut
import Derived.Test.YtgchhhmfloemlaaGreatClEqRow
import Derived.Test.YtgchhhmfloemlaaGreatClBytesToTreeMath
import Derived.Test.YtgchhhmfloemlaaGreatClParseMemToModMem
namespace Go.Proofs.YtgchhhmfloemlaaGreat
open Go.RowKit Go.PlainAid Go.Sort

theorem zjb (l : List ByteArray) : l.map Value.string = l.flatMap (fun x => [Value.string x]):=by
 induction l with
 | nil => rfl
 | cons x l ih => rw [List.map_cons,List.flatMap_cons,ih]; rfl
/-- Two programs side by side, each in its box. -/
def TwoM (w0 : World) (b1 b2 : Nat) (S1 S2 : Sv) (m1 m2 : Md) (w : World) : Prop :=
 w.heap[w0.heap.size]? = some (.cells #[.slice S1.rq.a m1.rq.length S1.rq.cap,.slice S1.im.a m1.im.length S1.im.cap,.slice S1.ep.a m1.ep.length S1.ep.cap,.slice S1.st.a m1.st.length S1.st.cap,.slice S1.ex.a m1.ex.length S1.ex.cap] 36 (0,0)) ∧ w.heap[w0.heap.size + 1]? = some (.cells #[.slice S2.rq.a m2.rq.length S2.rq.cap,.slice S2.im.a m2.im.length S2.im.cap,.slice S2.ep.a m2.ep.length S2.ep.cap,.slice S2.st.a m2.st.length S2.st.cap,.slice S2.ex.a m2.ex.length S2.ex.cap] 36 (0,0)) ∧ OwnMd w b1 S1 m1 ∧ OwnMd w b2 S2 m2 ∧ Below w0.heap.size w0 w
theorem TwoM.later {w0 w w' : World} {b1 b2 : Nat} {S1 S2 : Sv} {m1 m2 : Md} (h : TwoM w0 b1 b2 S1 S2 m1 m2 w) (hb : Below w.heap.size w w') : TwoM w0 b1 b2 S1 S2 m1 m2 w' :=
 ⟨(hb.block _ (Array.getElem?_eq_some_iff.1 h.1).1).trans h.1,(hb.block _ (Array.getElem?_eq_some_iff.1 h.2.1).1).trans h.2.1,h.2.2.1.later hb,h.2.2.2.1.later hb,h.2.2.2.2.trans (hb.mono h.2.2.2.2.size)⟩
theorem znu (w : World) (b1 b2 : Nat) (S1 S2 : Sv) (m1 m2 : Md) (h1 : OwnMd w b1 S1 m1) (h2 : OwnMd w b2 S2 m2) : TwoM w b1 b2 S1 S2 m1 m2 ((w.alloc (.cells #[.slice S1.rq.a m1.rq.length S1.rq.cap,.slice S1.im.a m1.im.length S1.im.cap,.slice S1.ep.a m1.ep.length S1.ep.cap,.slice S1.st.a m1.st.length S1.st.cap,.slice S1.ex.a m1.ex.length S1.ex.cap] 36)).alloc (.cells #[.slice S2.rq.a m2.rq.length S2.rq.cap,.slice S2.im.a m2.im.length S2.im.cap,.slice S2.ep.a m2.ep.length S2.ep.cap,.slice S2.st.a m2.st.length S2.st.cap,.slice S2.ex.a m2.ex.length S2.ex.cap] 36)):=by
 have a1 : Below w.heap.size w (w.alloc (.cells #[.slice S1.rq.a m1.rq.length S1.rq.cap,.slice S1.im.a m1.im.length S1.im.cap,.slice S1.ep.a m1.ep.length S1.ep.cap,.slice S1.st.a m1.st.length S1.st.cap,.slice S1.ex.a m1.ex.length S1.ex.cap] 36)):=(Below.refl _ _).alloc (Nat.le_refl _) _
 have a2 : Below (w.alloc (.cells #[.slice S1.rq.a m1.rq.length S1.rq.cap,.slice S1.im.a m1.im.length S1.im.cap,.slice S1.ep.a m1.ep.length S1.ep.cap,.slice S1.st.a m1.st.length S1.st.cap,.slice S1.ex.a m1.ex.length S1.ex.cap] 36)).heap.size (w.alloc (.cells #[.slice S1.rq.a m1.rq.length S1.rq.cap,.slice S1.im.a m1.im.length S1.im.cap,.slice S1.ep.a m1.ep.length S1.ep.cap,.slice S1.st.a m1.st.length S1.st.cap,.slice S1.ex.a m1.ex.length S1.ex.cap] 36)) ((w.alloc (.cells #[.slice S1.rq.a m1.rq.length S1.rq.cap,.slice S1.im.a m1.im.length S1.im.cap,.slice S1.ep.a m1.ep.length S1.ep.cap,.slice S1.st.a m1.st.length S1.st.cap,.slice S1.ex.a m1.ex.length S1.ex.cap] 36)).alloc (.cells #[.slice S2.rq.a m2.rq.length S2.rq.cap,.slice S2.im.a m2.im.length S2.im.cap,.slice S2.ep.a m2.ep.length S2.ep.cap,.slice S2.st.a m2.st.length S2.st.cap,.slice S2.ex.a m2.ex.length S2.ex.cap] 36)):=(Below.refl _ _).alloc (Nat.le_refl _) _
 refine ⟨(a2.block _ (by rw [ze]; omega)).trans (heap_alloc_new w _),?_,(h1.later a1).later a2,(h2.later a1).later a2,a1.trans (a2.mono (by rw [ze]; omega))⟩
 have:=heap_alloc_new (w.alloc (.cells #[.slice S1.rq.a m1.rq.length S1.rq.cap,.slice S1.im.a m1.im.length S1.im.cap,.slice S1.ep.a m1.ep.length S1.ep.cap,.slice S1.st.a m1.st.length S1.st.cap,.slice S1.ex.a m1.ex.length S1.ex.cap] 36)) (.cells #[.slice S2.rq.a m2.rq.length S2.rq.cap,.slice S2.im.a m2.im.length S2.im.cap,.slice S2.ep.a m2.ep.length S2.ep.cap,.slice S2.st.a m2.st.length S2.st.cap,.slice S2.ex.a m2.ex.length S2.ex.cap] 36)
 rw [ze] at this
 exact this
def zos (m : Md) : Prop:=m.rq.length ≤ 4294967296 ∧ m.im.length ≤ 4294967296 ∧ m.ep.length ≤ 4294967296 ∧ m.st.length ≤ 4294967296 ∧ m.ex.length ≤ 4294967296
theorem zbiu {a b : Md} (h1 : a.rq = b.rq) (h2 : a.im = b.im) (h3 : a.ep = b.ep) (h4 : a.st = b.st) (h5 : a.ex = b.ex) : a = b:=by
 cases a
 cases b
 simp only at h1 h2 h3 h4 h5
 rw [h1,h2,h3,h4,h5]
end Go.Proofs.YtgchhhmfloemlaaGreat
namespace Go.Proofs.YtgchhhmfloemlaaGreat
open Go.RowKit Go.PlainAid

def zcd (s : ByteArray) : ByteArray:=({ data:=#[34] } : ByteArray) ++ s ++ ({ data:=#[34] } : ByteArray)
def asT (a b : ByteArray) : ByteArray:=if a.toList == b.toList then a else a ++ ({ data:=#[32,97,115,32] } : ByteArray) ++ b
def impT (x : Im) : ByteArray :=
 if x.first.toList == [42] then ({ data:=#[105,109,112,111,114,116,32,42,32,97,115,32] } : ByteArray) ++ x.loc ++ ({ data:=#[32,102,114,111,109,32] } : ByteArray) ++ zcd x.spec ++ ({ data:=#[59,10] } : ByteArray)
 else if x.first.toList == [100,101,102,97,117,108,116] then ({ data:=#[105,109,112,111,114,116,32] } : ByteArray) ++ x.loc ++ ({ data:=#[32,102,114,111,109,32] } : ByteArray) ++ zcd x.spec ++ ({ data:=#[59,10] } : ByteArray)
 else ({ data:=#[105,109,112,111,114,116,32,123,32] } : ByteArray) ++ asT x.first x.loc ++ ({ data:=#[32,125,32,102,114,111,109,32] } : ByteArray) ++ zcd x.spec ++ ({ data:=#[59,10] } : ByteArray)
def expT (x : Ep) : ByteArray :=
 if x.kind == 3 then ({ data:=#[101,120,112,111,114,116,32,42,32,102,114,111,109,32] } : ByteArray) ++ zcd x.spec ++ ({ data:=#[59,10] } : ByteArray)
 else if x.kind == 2 then ({ data:=#[101,120,112,111,114,116,32,123,32] } : ByteArray) ++ asT x.loc x.name ++ ({ data:=#[32,125,32,102,114,111,109,32] } : ByteArray) ++ zcd x.spec ++ ({ data:=#[59,10] } : ByteArray)
 else ({ data:=#[101,120,112,111,114,116,32,123,32] } : ByteArray) ++ asT x.loc x.name ++ ({ data:=#[32,125,59,10] } : ByteArray)
def zcv (k : Int) (n e : ByteArray) : ByteArray :=
 if k == 1 then (if n.toList == [42,100,101,102,97,117,108,116] then ({ data:=#[101,120,112,111,114,116,32,100,101,102,97,117,108,116,32] } : ByteArray) ++ e ++ ({ data:=#[59,10] } : ByteArray) else ({ data:=#[108,101,116,32] } : ByteArray) ++ n ++ ({ data:=#[32,61,32] } : ByteArray) ++ e ++ ({ data:=#[59,10] } : ByteArray))
 else if k == 2 then ({ data:=#[102,117,110,99,116,105,111,110,32] } : ByteArray) ++ n ++ ({ data:=#[40,41,32,123,32,114,101,116,117,114,110,32] } : ByteArray) ++ e ++ ({ data:=#[59,32,125,10] } : ByteArray)
 else if k == 3 then n ++ ({ data:=#[32,61,32] } : ByteArray) ++ e ++ ({ data:=#[59,10] } : ByteArray)
 else if k == 4 then ({ data:=#[112,114,105,110,116,40] } : ByteArray) ++ e ++ ({ data:=#[41,59,10] } : ByteArray)
 else if k == 5 then ({ data:=#[116,104,114,111,119,32] } : ByteArray) ++ e ++ ({ data:=#[59,10] } : ByteArray)
 else ({ data:=#[102,97,105,108,32] } : ByteArray) ++ e ++ ({ data:=#[59,10] } : ByteArray)
/-- impl's: of DefaultName export default, whatever the kind. -/
def zht (k : Int) (n e : ByteArray) : ByteArray:=if n.toList == [42,100,101,102,97,117,108,116] then ({ data:=#[101,120,112,111,114,116,32,100,101,102,97,117,108,116,32] } : ByteArray) ++ e ++ ({ data:=#[59,10] } : ByteArray) else zcv k n e
def rqT (s : ByteArray) : ByteArray:=({ data:=#[105,109,112,111,114,116,32] } : ByteArray) ++ zcd s ++ ({ data:=#[59,10] } : ByteArray)
end Go.Proofs.YtgchhhmfloemlaaGreat
namespace Go.Proofs.YtgchhhmfloemlaaGreat
open Go.RowKit Go.PlainAid

/-- Pieces laid behind a text. -/
def acc {α : Type} (f : α → ByteArray) (l : List α) (t : ByteArray) : ByteArray:=l.foldl (fun t x => t ++ f x) t
theorem zel {α : Type} (f : α → ByteArray) {l : List α} {j : Nat} {x : α} (h : l[j]? = some x) (t : ByteArray) : acc f (l.take (j + 1)) t = acc f (l.take j) t ++ f x:=by
 obtain ⟨hj,rfl⟩:=List.getElem?_eq_some_iff.1 h
 rw [List.take_succ_eq_append_getElem hj,acc,List.foldl_append]
 rfl
theorem zic {α : Type} (f : α → ByteArray) (l : List α) : ∀ t : ByteArray,t.size ≤ (acc f l t).size:=by
 induction l with
 | nil => intro t; exact Nat.le_refl _
 | cons x l ih =>
  intro t
  refine Nat.le_trans ?_ (ih (t ++ f x))
  rw [ByteArray.size_append]
  omega
theorem zbka {α : Type} (f : α → ByteArray) (a b : List α) (t : ByteArray) : acc f (a ++ b) t = acc f b (acc f a t):=by rw [acc,List.foldl_append]; rfl
theorem zhc {α : Type} (f : α → ByteArray) (l : List α) (j : Nat) (t : ByteArray) : (acc f (l.take j) t).size ≤ (acc f l t).size:=by
 have : acc f l t = acc f (l.drop j) (acc f (l.take j) t):=by rw [← zbka,List.take_append_drop]
 rw [this]
 exact zic f _ _
def epF (x : Ep) : ByteArray:=if x.loc.toList == [42,100,101,102,97,117,108,116] then sNone else expT x
def stF (ex : List Ex) (s : Sm) : ByteArray:=zcv s.kind s.name (prX ex s.expr.toNat)
def stFI (ex : List Ex) (s : Sm) : ByteArray:=zht s.kind s.name (prX ex s.expr.toNat)
def zgu (m : Md) : ByteArray:=acc epF m.ep (acc impT m.im (acc rqT m.rq sNone))
/-- The specification's text, and impl's. -/
def zhl (m : Md) : ByteArray:=acc (stF m.ex) m.st (zgu m)
def zgh (m : Md) : ByteArray:=acc (stFI m.ex) m.st (zgu m)
/-- What Print may tell. -/
def PrintOut (T : ByteArray) (m : Md) (e : Ending) : Prop:=(Tree m ∧ e = .returned (.string T)) ∨ (¬ Tree m ∧ e = .returned (.string sNone))
/-- No name is longer than a text may be. -/
structure Small (m : Md) : Prop where
 rq : ∀ x ∈ m.rq,x.size ≤ 4294967296
 im : ∀ x ∈ m.im,x.spec.size ≤ 4294967296 ∧ x.first.size ≤ 4294967296 ∧ x.loc.size ≤ 4294967296
 ep : ∀ x ∈ m.ep,x.spec.size ≤ 4294967296 ∧ x.name.size ≤ 4294967296 ∧ x.loc.size ≤ 4294967296
 st : ∀ x ∈ m.st,x.name.size ≤ 4294967296
 nums : Nums m.ex
 few : m.rq.length ≤ 4294967296 ∧ m.im.length ≤ 4294967296 ∧ m.ep.length ≤ 4294967296 ∧ m.st.length ≤ 4294967296 ∧ m.ex.length ≤ 4294967296
end Go.Proofs.YtgchhhmfloemlaaGreat
namespace Go.Proofs.YtgchhhmfloemlaaGreat
open Go.RowKit Go.PlainAid

abbrev dN : List UInt8:=[42,100,101,102,97,117,108,116]
/-- A statement of DefaultName is a let. -/
def zga (st : List Sm) : Prop:=∀ s ∈ st,s.name.toList = dN → s.kind = 1
/-- No word among the tokens is DefaultName. -/
def zmm (ts : List Tk) : Prop:=∀ t ∈ ts,t.kind = 1 → t.text.toList ≠ dN
theorem zbgm {s : ByteArray} {scr : Bool} {a e : Nat} {t : Tk} (ha : a < s.size) (h : Tok s scr a t e) : t.kind = 1 → t.text.toList ≠ dN:=by
 have he:=(zkg ha h).1
 have he2:=(zkg ha h).2.1
 cases h with
 | name h1 _ =>
  intro _ k
  have k0 : bt (s.extract a e) 0 = 42:=by
   rw [zie,← Lib.toList_data,k]
   rfl
  have hx : bt (s.extract a e) 0 = bt s a:=by
   rw [zie,zie,ByteArray.data_extract]
   simp only [List.getD,List.getElem?_map,Array.getElem?_toList,Array.getElem?_extract]
   rw [if_pos (by have : s.data.size = s.size:=rfl; omega),Nat.add_zero]
  rw [← hx,k0] at h1
  cases scr <;> revert h1 <;> decide
 | num _ _ => intro k; cases k
 | str _ _ => intro k; cases k
 | sign _ => intro k; cases k
theorem zbkb {s : ByteArray} {scr : Bool} {a n : Nat} {r : Except Nat (List Tk)} (h : Lx s scr a n r) : ∀ ts,r = .ok ts → zmm ts:=by
 induction h with
 | done => intro ts k; cases k; intro t ht; cases ht
 | bad _ _ => intro ts k; cases k
 | @tok a n e b t r h hn ht hs hr ih =>
  intro ts k
  cases r with
  | error p => cases k
  | ok l =>
   cases k
   intro u hu
   rcases List.mem_cons.1 hu with rfl | hu
   ·exact zbgm h ht
   ·exact ih l rfl u hu
theorem zbav {C : Cx} (hC : zmm C.ts) {i : Nat} {o : Bool} (h : zba C i o = true) : (zd C i).text.toList ≠ dN:=by
 have hi:=zkl h
 have e : zd C i = C.ts[i]:=by simp [zd,List.getD,List.getElem?_eq_getElem hi]
 simp only [zba,Bool.and_eq_true,beq_iff_eq] at h
 rw [e] at h ⊢
 exact hC _ (List.getElem_mem hi) h.1
theorem zqw {C : Cx} (hC : zmm C.ts) {o : Bool} {q : PS} {y : PS × ByteArray} (h : zl C o q = .ok y) : y.2.toList ≠ dN ∧ y.1.st = q.st:=by
 obtain ⟨rfl,hp⟩:=zcx h
 exact ⟨zbav hC hp,rfl⟩
theorem zbs {C : Cx} {k : Int} {x : ByteArray} {q q' : PS} (h : tokP C k x q = .ok q') : q'.st = q.st:=by
 obtain ⟨rfl,_⟩:=zed h
 rfl
theorem zid {C : Cx} {x : Ex} {q q' : PS} (h : zbq C x q = .ok q') : q'.st = q.st:=by
 obtain ⟨rfl,_⟩:=zdk h
 rfl
theorem zvm {C : Cx} {n : ByteArray} {q q' : PS} (h : zfw C n q = .ok q') : q'.st = q.st:=by
 unfold zfw at h
 split at h
 ·obtain ⟨a,h1,h2⟩:=zc h
  obtain ⟨b,h3,h4⟩:=zc h1
  rw [zid h2,zbs h4,zbs h3]
 ·exact zid h
theorem zbkc {C : Cx} {n f : ByteArray} {q q' : PS} (h : memP C n f q = .ok q') : q'.st = q.st:=by
 unfold memP at h
 split at h
 ·obtain ⟨a,h1,h2⟩:=zc h
  obtain ⟨b,h3,h4⟩:=zc h1
  rw [zid h2,zbs h4,zbs h3]
 ·exact zid h
theorem zgc {C : Cx} {o : Bool} {q : PS} {y : PS × ByteArray} (h : zl C o q = .ok y) : y.1.st = q.st:=by
 obtain ⟨rfl,_⟩:=zcx h
 rfl
theorem zbmz {C : Cx} (f : Nat) : ∀ (nt : NT) (d : Nat) (q q' : PS),ev C f nt d q = .ok q' → q'.st = q.st:=by
 induction f with
 | zero => intro nt d q q' h; cases nt <;> cases h
 | succ f ih =>
  intro nt d q q' h
  cases nt with
  | sum =>
   rw [ev] at h
   obtain ⟨a,h1,h2⟩:=zc h
   exact (ih _ _ _ _ h2).trans (ih _ _ _ _ h1)
  | prod =>
   rw [ev] at h
   obtain ⟨a,h1,h2⟩:=zc h
   exact (ih _ _ _ _ h2).trans (ih _ _ _ _ h1)
  | sumT =>
   rw [ev] at h
   split at h
   ·obtain ⟨a,h1,h2⟩:=zc h
    obtain ⟨b,h3,h4⟩:=zc h1
    exact (ih _ _ _ _ h2).trans ((zid h4).trans (show b.st = (adv q).st from ih _ _ _ _ h3))
   ·cases h; rfl
  | prodT =>
   rw [ev] at h
   split at h
   ·obtain ⟨a,h1,h2⟩:=zc h
    obtain ⟨b,h3,h4⟩:=zc h1
    exact (ih _ _ _ _ h2).trans ((zid h4).trans (show b.st = (adv q).st from ih _ _ _ _ h3))
   ·cases h; rfl
  | part =>
   rw [ev] at h
   split at h
   ·exact (show q'.st = (adv q).st from zid h)
   ·split at h
    ·split at h
     ·cases h
     ·obtain ⟨a,h1,h2⟩:=zc h
      exact (zbs h2).trans (show a.st = (adv q).st from ih _ _ _ _ h1)
    ·split at h
     ·exact (show q'.st = (adv q).st from zvm h)
     ·obtain ⟨a,h1,h2⟩:=zc h
      split at h2
      ·obtain ⟨b,h3,h4⟩:=zc h2
       exact (zbkc h4).trans ((show b.1.st = (adv a.1).st from zgc h3).trans (zgc h1))
      ·exact (zvm h2).trans (zgc h1)
theorem zot {C : Cx} {nt : NT} {d : Nat} {q q' : PS} (h : pE C nt d q = .ok q') : q'.st = q.st:=zbmz _ _ _ _ _ h
theorem zvn {C : Cx} {q : PS} {a : PS × ByteArray} (h : zbo C q = .ok a) : a.1.st = q.st:=by
 unfold zbo at h
 split at h
 ·split at h
  ·cases h; rfl
  ·split at h
   ·cases h
   ·cases h; rfl
 ·cases h
theorem zhm {C : Cx} {k : Int} {n : ByteArray} {q q' : PS} (h : zbz C k n q = .ok q') (hq : zga q.st) (hn : n.toList = dN → k = 1) : zga q'.st:=by
 unfold zbz at h
 split at h
 ·cases h
 ·cases h
  intro s hs
  rcases List.mem_append.1 hs with hs | hs
  ·exact hq s hs
  ·rw [List.mem_singleton] at hs
   rw [hs]
   exact hn
theorem zpy {C : Cx} {y : Im} {q q' : PS} (h : zci C y q = .ok q') : q'.st = q.st:=by
 unfold zci at h
 split at h
 ·cases h
 ·cases h; rfl
theorem zjc {C : Cx} {y : Ep} {q q' : PS} (h : zt C y q = .ok q') : q'.st = q.st:=by
 unfold zt at h
 split at h
 ·cases h
 ·split at h
  ·cases h; rfl
  ·cases h; rfl
theorem znv {α : Type} {f : α → PS → PR} (hf : ∀ a q q',f a q = .ok q' → q'.st = q.st) (l : List α) : ∀ (x : PR) (q' : PS),zbc f l x = .ok q' → ∃ q,x = .ok q ∧ q'.st = q.st:=by
 induction l with
 | nil => intro x q' h; exact ⟨q',h,rfl⟩
 | cons a l ih =>
  intro x q' h
  obtain ⟨b,h1,h2⟩:=ih _ _ h
  obtain ⟨c,h3,h4⟩:=zc h1
  exact ⟨c,h3,h2.trans (hf _ _ _ h4)⟩
theorem zbmi {C : Cx} {exp : Bool} {a b : PS × ByteArray} (h : asP C exp a = .ok b) : b.1.st = a.1.st:=by
 unfold asP at h
 split at h
 ·exact (show b.1.st = (adv a.1).st from zgc h)
 ·split at h
  ·cases h
  ·cases h; rfl
theorem zbgn {C : Cx} {exp : Bool} (f : Nat) : ∀ (q : PS) (acc : List Ep) (a : PS × List Ep),zjx C exp f q acc = .ok a → a.1.st = q.st:=by
 induction f with
 | zero => intro q acc a h; cases h
 | succ f ih =>
  intro q acc a h
  rw [zjx] at h
  obtain ⟨b,h1,h2⟩:=zc h
  obtain ⟨c,h3,h4⟩:=zc h2
  have e1:=zgc h1
  have e2:=zbmi h3
  split at h4
  ·exact (ih _ _ _ h4).trans (e2.trans e1)
  ·obtain ⟨d,h5,h6⟩:=zc h4
   cases h6
   exact (zbs h5).trans (e2.trans e1)
theorem zvo {C : Cx} {exp : Bool} {q : PS} {a : PS × List Ep} (h : zil C exp q = .ok a) : a.1.st = q.st:=by
 obtain ⟨b,h1,h2⟩:=zc h
 exact (zbgn _ _ _ _ h2).trans (zbs h1)
theorem zlu {C : Cx} {x : PR} {b : PS × ByteArray} (h : zeq C (zdi C x) = .ok b) : ∃ q,x = .ok q ∧ b.1.st = q.st:=by
 obtain ⟨a,h1,h2⟩:=zc h
 obtain ⟨c,h3,h4⟩:=zc h2
 obtain ⟨d,h5,h6⟩:=zc h1
 obtain ⟨e,h7,h8⟩:=zc h5
 cases h4
 exact ⟨e,h7,(zbs h3).trans ((zvn h6).trans (zbs h8))⟩
theorem zbaw {C : Cx} {q q' : PS} (h : zct C q = .ok q') : q'.st = q.st:=by
 obtain ⟨q1,h1,h2⟩:=zc h
 have e1:=zbs h1
 split at h2
 ·obtain ⟨a,h3,h4⟩:=zc h2
  obtain ⟨b,h5,h6⟩:=zc h4
  obtain ⟨d,h9,h10⟩:=zlu h5
  obtain ⟨f,h11,h12⟩:=znv (fun _ _ _ h => zpy h) _ _ _ h6
  cases h9
  cases h11
  exact h12.trans (h10.trans ((zvo h3).trans e1))
 ·split at h2
  ·obtain ⟨a,h3,h4⟩:=zc h2
   obtain ⟨b,h5,h6⟩:=zc h4
   obtain ⟨c,h7,h8⟩:=zc h3
   obtain ⟨d,h9,h10⟩:=zc h7
   obtain ⟨f,h11,h12⟩:=zlu h5
   cases h11
   exact (zpy h6).trans (h12.trans ((zgc h8).trans ((zbs h10).trans ((zbs h9).trans e1))))
  ·split at h2
   ·obtain ⟨a,h3,h4⟩:=zc h2
    obtain ⟨b,h5,h6⟩:=zc h4
    obtain ⟨f,h11,h12⟩:=zlu h5
    cases h11
    exact (zpy h6).trans (h12.trans ((zgc h3).trans e1))
   ·obtain ⟨a,h3,h4⟩:=zc h2
    exact (zbs h4).trans ((zvn h3).trans e1)
theorem zsw {C : Cx} {q : PS} {a : PS × ByteArray} (h : letP C q = .ok a) (hq : zga q.st) : zga a.1.st:=by
 obtain ⟨b,h1,h2⟩:=zmf h
 obtain ⟨c,h3,h4⟩:=zc h1
 obtain ⟨d,h5,h6⟩:=zc h2
 obtain ⟨f,h7,h8⟩:=zc h5
 obtain ⟨g,h9,h10⟩:=zc h7
 refine zhm h6 ?_ (fun _ => rfl)
 rw [zbs h8,zot h10,zbs (show tokP C 4 cEq b.1 = .ok g from h9),zgc h4,zbs h3]
 exact hq
theorem zvp {C : Cx} (hC : zmm C.ts) {q : PS} {a : PS × ByteArray} (h : fnP C q = .ok a) (hq : zga q.st) : zga a.1.st:=by
 obtain ⟨b,h1,h2⟩:=zmf h
 obtain ⟨c,h3,h4⟩:=zc h1
 obtain ⟨d,h5,h6⟩:=zc h2
 obtain ⟨f,h7,h8⟩:=zc h5
 obtain ⟨g,h9,h10⟩:=zc h7
 obtain ⟨i,h11,h12⟩:=zc h9
 obtain ⟨j,h13,h14⟩:=zc h11
 obtain ⟨k,h15,h16⟩:=zc h13
 obtain ⟨l,h17,h18⟩:=zc h15
 refine zhm h6 ?_ (fun hn => absurd hn (zqw hC h4).1)
 rw [zbs h8,zbs h10,zot h12,zbs h14,zbs h16,zbs h18,zbs (show tokP C 4 zr b.1 = .ok l from h17),zgc h4,zbs h3]
 exact hq
theorem zvq {C : Cx} (hC : zmm C.ts) {q q' : PS} (h : zbi C q = .ok q') (hq : zga q.st) : zga q'.st:=by
 obtain ⟨q1,h1,h2⟩:=zc h
 have e1:=zbs h1
 rw [← e1] at hq
 split at h2
 ·obtain ⟨a,h3,h4⟩:=zc h2
  have e2:=zvo h3
  split at h4
  ·obtain ⟨b,h5,h6⟩:=zc h4
   obtain ⟨f,h11,h12⟩:=znv (fun _ _ _ h => zjc h) _ _ _ h6
   have e4:=zbs h5
   cases h11
   rw [h12,e4,e2]
   exact hq
  ·obtain ⟨b,h5,h6⟩:=zc h4
   obtain ⟨d,h9,h10⟩:=zlu h5
   obtain ⟨f,h11,h12⟩:=znv (fun _ _ _ h => zjc h) _ _ _ h6
   cases h9
   cases h11
   rw [h12,h10,e2]
   exact hq
 ·split at h2
  ·obtain ⟨b,h5,h6⟩:=zc h2
   obtain ⟨d,h9,h10⟩:=zlu h5
   rw [zjc h6,h10,zbs h9]
   exact hq
  ·split at h2
   ·obtain ⟨a,h3,h4⟩:=zc h2
    obtain ⟨b,h5,h6⟩:=zc h3
    obtain ⟨c,h7,h8⟩:=zc h5
    obtain ⟨d,h9,h10⟩:=zc h7
    rw [zjc h4]
    refine zhm h6 ?_ (fun _ => rfl)
    rw [zbs h8,zot h10,zbs h9]
    exact hq
   ·split at h2
    ·obtain ⟨a,h3,h4⟩:=zc h2
     rw [zjc h4]
     exact zsw h3 hq
    ·split at h2
     ·obtain ⟨a,h3,h4⟩:=zc h2
      rw [zjc h4]
      exact zvp hC h3 hq
     ·cases h2
theorem zvr {k : Int} (h : sNone.toList = dN) : k = 1:=by
 rw [Lib.toList_data] at h
 cases h
theorem zsx {C : Cx} {s : ByteArray} {k : Int} {q q' : PS} (h : bd (bd (bd (tokP C 1 s q) (pE C .sum 0)) (tokP C 4 cSemi)) (zbz C k sNone) = .ok q') (hq : zga q.st) : zga q'.st:=by
 obtain ⟨a,h1,h2⟩:=zc h
 obtain ⟨b,h3,h4⟩:=zc h1
 obtain ⟨c,h5,h6⟩:=zc h3
 refine zhm h2 ?_ zvr
 rw [zbs h4,zot h6,zbs h5]
 exact hq
theorem zbax {C : Cx} (hC : zmm C.ts) {q q' : PS} (h : zbd C q = .ok q') (hq : zga q.st) : zga q'.st:=by
 unfold zbd at h
 split at h
 ·rw [zbaw h]; exact hq
 ·split at h
  ·exact zvq hC h hq
  ·split at h
   ·obtain ⟨a,h1,h2⟩:=zc h
    cases h2
    exact zsw h1 hq
   ·split at h
    ·obtain ⟨a,h1,h2⟩:=zc h
     cases h2
     exact zvp hC h1 hq
    ·split at h
     ·obtain ⟨a,h1,h2⟩:=zc h
      obtain ⟨b,h3,h4⟩:=zc h1
      obtain ⟨c,h5,h6⟩:=zc h3
      obtain ⟨d,h7,h8⟩:=zc h5
      obtain ⟨e,h9,h10⟩:=zc h7
      refine zhm h2 ?_ zvr
      rw [zbs h4,zbs h6,zot h8,zbs h10,zbs h9]
      exact hq
     ·split at h
      ·exact zsx h hq
      ·split at h
       ·exact zsx h hq
       ·obtain ⟨a,h1,h2⟩:=zc h
        obtain ⟨b,h3,h4⟩:=zc h2
        obtain ⟨c,h5,h6⟩:=zc h3
        obtain ⟨d,h7,h8⟩:=zc h5
        refine zhm h4 ?_ (fun hn => absurd hn (zqw hC h1).1)
        rw [zbs h6,zot h8,zbs h7,zgc h1]
        exact hq
theorem zyh {C : Cx} (hC : zmm C.ts) (f : Nat) : ∀ (q q' : PS),zim C f q = .ok q' → zga q.st → zga q'.st:=by
 induction f with
 | zero => intro q q' h; cases h
 | succ f ih =>
  intro q q' h hq
  rw [zim] at h
  split at h
  ·obtain ⟨a,h1,h2⟩:=zc h
   exact ih _ _ h2 (zbax hC h1 hq)
  ·cases h
   exact hq
/-- What was read is fair. -/
theorem zbay {s : ByteArray} {scr : Bool} {q : PS} (h : zfq s scr (.ok q)) : zga q.st:=by
 obtain ⟨r,⟨a,_,hl⟩,e⟩:=h
 cases r with
 | error p => cases e
 | ok ts => exact zyh (zbkb hl ts rfl) _ _ _ e.symm (fun s hs => by cases hs)
end Go.Proofs.YtgchhhmfloemlaaGreat
namespace Go.Proofs.YtgchhhmfloemlaaGreat
open Go.RowKit Go.PlainAid Go.Sort

/-- The text that a Print tells. -/
def PrOf (T : ByteArray) (m : Md) (t : ByteArray) : Prop:=(Tree m ∧ t = T) ∨ (¬ Tree m ∧ t = sNone)
theorem PrintOut.form {T : ByteArray} {m : Md} {e : Ending} (h : PrintOut T m e) : ∃ t,PrOf T m t ∧ e = .returned (.string t):=by
 rcases h with ⟨h1,h2⟩ | ⟨h1,h2⟩
 ·exact ⟨T,.inl ⟨h1,rfl⟩,h2⟩
 ·exact ⟨sNone,.inr ⟨h1,rfl⟩,h2⟩
theorem PrOf.size {T t : ByteArray} {m : Md} {n : Nat} (h : PrOf T m t) (hs : Tree m → T.size ≤ n) : t.size ≤ n:=by
 rcases h with ⟨h1,rfl⟩ | ⟨_,rfl⟩
 ·exact hs h1
 ·exact Nat.zero_le _
/-- A text is read as just that program. -/
def OkOf (t : ByteArray) (scr : Bool) (m : Md) : Prop:=∃ q,zfq t scr (.ok q) ∧ mdOf q = m
def zbiv (T : ByteArray) (m : Md) (scr : Bool) (e : Ending) : Prop:=∃ t,PrOf T m t ∧ zfk (OkOf t scr m) e
theorem zbdm {t : ByteArray} {scr : Bool} {m : Md} {p : Nat} (h : zfq t scr (.error p)) : ¬ OkOf t scr m:=by
 rintro ⟨q,hq,_⟩
 cases zqs h hq
theorem zbdn {t : ByteArray} {scr : Bool} {m n : Md} {q : PS} (h : zfq t scr (.ok q)) (hn : n = mdOf q) : OkOf t scr m ↔ n = m:=by
 constructor
 ·rintro ⟨q',hq,he⟩
  cases zqs h hq
  rw [hn]
  exact he
 ·intro e
  exact ⟨q,h,by rw [← hn]; exact e⟩
theorem ParseOut.md {s : ByteArray} {scr : Bool} {w w' : World} {e : Ending} (h : ParseOut s scr w e w') :
  (∃ (q : PS) (S : Sv) (n : Md),zfq s scr (.ok q) ∧ n = mdOf q ∧ e = .returned (.tuple #[modD S n,.int .i64 (-1)]) ∧ OwnMd w' w.heap.size S n ∧ zos n) ∨ ∃ p : Nat,zfq s scr (.error p) ∧ e = .returned (.tuple #[.agg #[.slice none 0 0,.slice none 0 0,.slice none 0 0,.slice none 0 0,.slice none 0 0],.int .i64 p]):=by
 obtain ⟨y,hy,hm⟩:=h
 cases y with
 | ok q =>
  obtain ⟨S,he,ho⟩:=hm
  refine .inl ⟨q,S,mdOf q,hy,rfl,he,ho.md,?_⟩
  have hi:=ho.inv
  have hl : (mdOf q).ep.length = q.ep.length + q.la.length:=by show (q.ep ++ q.la).length = _; rw [List.length_append]
  refine ⟨?_,?_,by rw [hl]; omega,?_,?_⟩
  ·show q.rq.length ≤ _; omega
  ·show q.im.length ≤ _; omega
  ·show q.st.length ≤ _; omega
  ·show q.ex.length ≤ _; omega
 | error p => exact .inr ⟨p,hy,hm⟩
theorem zbdo {k : Int} {n e : ByteArray} (h : n.toList = dN → k = 1) : zht k n e = zcv k n e:=by
 unfold zht
 split
 ·next hn =>
  have e1:=eq_of_beq hn
  rw [h e1,zcv,if_pos (by decide),if_pos hn]
 ·rfl
theorem zbdp {α : Type} {f g : α → ByteArray} (l : List α) : ∀ t,(∀ x ∈ l,f x = g x) → acc f l t = acc g l t:=by
 induction l with
 | nil => intro t _; rfl
 | cons x l ih =>
  intro t h
  show acc f l (t ++ f x) = acc g l (t ++ g x)
  rw [h x (List.mem_cons_self ..)]
  exact ih _ fun y hy => h y (List.mem_cons_of_mem _ hy)
theorem zbdq {m : Md} (h : zga m.st) : zgh m = zhl m:=zbdp _ _ fun s hs => zbdo (h s hs)
/-- Both ModOks tell the same. -/
theorem zbkd {m : Md} {scr : Bool} {t1 t2 : ByteArray} (h1 : PrOf (zhl m) m t1) (h2 : PrOf (zgh m) m t2) : OkOf t1 scr m ↔ OkOf t2 scr m:=by
 by_cases hf : zga m.st
 ·have : t1 = t2:=by
   rw [zbdq hf] at h2
   rcases h1 with ⟨a,rfl⟩ | ⟨a,rfl⟩ <;> rcases h2 with ⟨b,rfl⟩ | ⟨b,rfl⟩
   ·rfl
   ·exact absurd a b
   ·exact absurd b a
   ·rfl
  rw [this]
 ·have no : ∀ t,¬ OkOf t scr m:=by
   rintro t ⟨q,hq,he⟩
   have:=zbay hq
   rw [← he] at hf
   exact hf this
  exact ⟨fun h => absurd h (no _),fun h => absurd h (no _)⟩
end Go.Proofs.YtgchhhmfloemlaaGreat
namespace Go.Proofs.YtgchhhmfloemlaaGreat
open Go.RowKit Go.PlainAid Go.Sort

set_option maxRecDepth 100000 in
set_option maxHeartbeats 12800000 in
theorem zyi (hneIm : ∀ (x y : Im) (W : World),Sem.run Tryz.prog (binOp .neq 100 (.agg #[.string x.spec,.string x.first,.string x.loc]) (.agg #[.string y.spec,.string y.first,.string y.loc])) W = .ok (.bool (!eqIm x y)) W) (hgdIm : ∀ (op : BinOp) (a b : Operand) (x y : Im) (W : World),Sem.run Tryz.prog (eqGuard op 100 a b (.agg #[.string x.spec,.string x.first,.string x.loc]) (.agg #[.string y.spec,.string y.first,.string y.loc])) W = .ok () W) (hneEp : ∀ (x y : Ep) (W : World),Sem.run Tryz.prog (binOp .neq 102 (.agg #[.int .i64 x.kind,.string x.name,.string x.loc,.string x.spec]) (.agg #[.int .i64 y.kind,.string y.name,.string y.loc,.string y.spec])) W = .ok (.bool (!eqEp x y)) W) (hgdEp : ∀ (op : BinOp) (a b : Operand) (x y : Ep) (W : World),Sem.run Tryz.prog (eqGuard op 102 a b (.agg #[.int .i64 x.kind,.string x.name,.string x.loc,.string x.spec]) (.agg #[.int .i64 y.kind,.string y.name,.string y.loc,.string y.spec])) W = .ok () W) (hneSm : ∀ (x y : Sm) (W : World),Sem.run Tryz.prog (binOp .neq 104 (.agg #[.int .i64 x.kind,.string x.name,.int .i64 x.expr]) (.agg #[.int .i64 y.kind,.string y.name,.int .i64 y.expr])) W = .ok (.bool (!eqSm x y)) W) (hgdSm : ∀ (op : BinOp) (a b : Operand) (x y : Sm) (W : World),Sem.run Tryz.prog (eqGuard op 104 a b (.agg #[.int .i64 x.kind,.string x.name,.int .i64 x.expr]) (.agg #[.int .i64 y.kind,.string y.name,.int .i64 y.expr])) W = .ok () W) (hneEx : ∀ (x y : Ex) (W : World),Sem.run Tryz.prog (binOp .neq 106 (.agg #[.int .i64 x.kind,.int .i64 x.num,.string x.name,.string x.field,.int .i64 x.l,.int .i64 x.r]) (.agg #[.int .i64 y.kind,.int .i64 y.num,.string y.name,.string y.field,.int .i64 y.l,.int .i64 y.r])) W = .ok (.bool (!eqEx x y)) W) (hgdEx : ∀ (op : BinOp) (a b : Operand) (x y : Ex) (W : World),Sem.run Tryz.prog (eqGuard op 106 a b (.agg #[.int .i64 x.kind,.int .i64 x.num,.string x.name,.string x.field,.int .i64 x.l,.int .i64 x.r]) (.agg #[.int .i64 y.kind,.int .i64 y.num,.string y.name,.string y.field,.int .i64 y.l,.int .i64 y.r])) W = .ok () W) (b1 b2 : Nat) (S1 S2 : Sv) (m1 m2 : Md) (w : World) (h1 : OwnMd w b1 S1 m1) (h2 : OwnMd w b2 S2 m2) (hf : zos m1) :
  Calls Tryz.prog 27 #[modD S1 m1,modD S2 m2] w fun e w' => zfk (m1 = m2) e ∧ Below w.heap.size w w':=by
 have H1:=hidI h1
 have H2:=hidI h2
 obtain ⟨f1,f2,f3,f4,f5⟩:=hf
 clear h1 h2
 unfold modD
 go_enter Tryz.func27,Tryz.ntmps27
 go_upto_region 1 with fail
 refine zv (R:=TwoM w b1 b2 S1 S2 m1 m2) (znu w b1 b2 S1 S2 m1 m2 H1.out H2.out) ?_
 clear H1 H2
 intro w0 h
 have T:=hidI h
 clear h
 obtain ⟨c0,c1,c2,c3,c4,cf⟩:=zi T.out.1
 obtain ⟨d0,d1,d2,d3,d4,df⟩:=zi T.out.2.1
 by_cases q0 : (m1.rq.length : Int) = (m2.rq.length : Int)
 case neg =>
  go_wp2
  go_ret
  exact ⟨⟨false,rfl,⟨fun k => (by cases k),fun k => absurd (by rw [k]) q0⟩⟩,T.out.2.2.2.2⟩
 by_cases q1 : (m1.im.length : Int) = (m2.im.length : Int)
 case neg =>
  go_wp2
  go_ret
  exact ⟨⟨false,rfl,⟨fun k => (by cases k),fun k => absurd (by rw [k]) q1⟩⟩,T.out.2.2.2.2⟩
 by_cases q2 : (m1.ep.length : Int) = (m2.ep.length : Int)
 case neg =>
  go_wp2
  go_ret
  exact ⟨⟨false,rfl,⟨fun k => (by cases k),fun k => absurd (by rw [k]) q2⟩⟩,T.out.2.2.2.2⟩
 by_cases q3 : (m1.st.length : Int) = (m2.st.length : Int)
 case neg =>
  go_wp2
  go_ret
  exact ⟨⟨false,rfl,⟨fun k => (by cases k),fun k => absurd (by rw [k]) q3⟩⟩,T.out.2.2.2.2⟩
 by_cases q4 : (m1.ex.length : Int) = (m2.ex.length : Int)
 case neg =>
  go_wp2
  go_ret
  exact ⟨⟨false,rfl,⟨fun k => (by cases k),fun k => absurd (by rw [k]) q4⟩⟩,T.out.2.2.2.2⟩
 go_wp2
 go_loopg [5] m1.rq.length (fun k i wr => ∃ j : Nat,i = .int .i64 j ∧ j + k = m1.rq.length ∧ m1.rq.take j = m2.rq.take j ∧ TwoM w b1 b2 S1 S2 m1 m2 wr)
 case atStart => exact ⟨0,rfl,by omega,rfl,T.out⟩
 case round =>
  obtain ⟨j,rfl,hj,ht,hT⟩:=hrel
  clear T c0 c1 c2 c3 c4 cf d0 d1 d2 d3 d4 df
  have T:=hidI hT
  have HT:=hidI ht
  clear hT ht
  obtain ⟨c0,c1,c2,c3,c4,cf⟩:=zi T.out.1
  obtain ⟨d0,d1,d2,d3,d4,df⟩:=zi T.out.2.1
  by_cases hlt : j < m1.rq.length
  ·have hlti : (j : Int) < (m1.rq.length : Int):=by omega
   have hlt2 : (j : Int) < (m2.rq.length : Int):=by omega
   obtain ⟨x,hx⟩:=zcu hlt
   obtain ⟨y,hy⟩:=zcu (show j < m2.rq.length by omega)
   obtain ⟨g1,ga,h1⟩:=OwnR.elem (f:=(fun x => [Value.string x])) (m:=1) (fun _ => rfl) (show OwnR wr b1 9 1 S1.rq m1.rq.length (m1.rq.flatMap (fun x => [Value.string x])) by rw [← zjb]; exact T.out.2.2.1.rq) hx
   obtain ⟨g2,gb,h2⟩:=OwnR.elem (f:=(fun x => [Value.string x])) (m:=1) (fun _ => rfl) (show OwnR wr b2 9 1 S2.rq m2.rq.length (m2.rq.flatMap (fun x => [Value.string x])) by rw [← zjb]; exact T.out.2.2.2.1.rq) hy
   rw [ga] at c0
   rw [gb] at d0
   have C0:=hidI (h1 0 (by omega))
   have D0:=hidI (h2 0 (by omega))
   have HX:=hidI hx
   have HY:=hidI hy
   clear h1 h2 ga gb hx hy
   obtain ⟨j1,hj1⟩ : ∃ j1,j1 = j + 1:=⟨_,rfl⟩
   have ej : (j : Int) + 1 = (j1 : Int):=by omega
   have HJ:=hidI hj1
   clear hj1
   obtain ⟨b,hxy⟩ : ∃ b,zbau x y = b:=⟨_,rfl⟩
   have hxz : (x.toList == y.toList) = b:=hxy
   go_wp2
   have kc:=cell_regrown c0
   have kd:=cell_regrown d0
   have k0:=cell_regrown C0.out
   have v0:=cell_regrown D0.out
   simp only [Nat.add_zero,Nat.mul_one] at k0 v0
   refine wp_region_quiet_below (by kernel_rfl) (by kernel_rfl) ?_
   repeat (go_big_quiet_step (fail))
   refine wpQuiet_nil ?_
   intro w2 hw'
   obtain ⟨⟨dq,osq⟩,hw''⟩:=hw'
   have T2 : Hid (TwoM w b1 b2 S1 S2 m1 m2 w2):=by show TwoM _ _ _ _ _ _ _ _; rw [hw'']; exact T.out.later (below_regrown wr dq osq)
   clear hw'' kc kd c0 c1 c2 c3 c4 cf d0 d1 d2 d3 d4 df k0 v0 C0 D0
   cases b with
   | true =>
    go_wp2
    go_roundg (gk - 1)
    case rel => exact ⟨j1,rfl,by have:=HJ.out; omega,by rw [HJ.out]; have e:=zld.1 hxy; exact zfj HT.out HX.out (by rw [e]; exact HY.out),T2.out⟩
    case measure => omega
   | false =>
    go_wp2
    go_ret
    exact ⟨⟨false,rfl,⟨fun k => (by cases k),fun k => (by have e:=HX.out; rw [k,HY.out] at e; cases e; rw [zld.2 rfl] at hxy; cases hxy)⟩⟩,T2.out.2.2.2.2⟩
  ·have hlti : ¬ (j : Int) < (m1.rq.length : Int):=by omega
   obtain rfl : j = m1.rq.length:=by omega
   have A0:=hidI (zgb (by omega) HT.out)
   clear HT hlti hlt hj
   go_wp2
   go_loopg [6] m1.im.length (fun k i wr => ∃ j : Nat,i = .int .i64 j ∧ j + k = m1.im.length ∧ m1.im.take j = m2.im.take j ∧ TwoM w b1 b2 S1 S2 m1 m2 wr)
   case atStart => exact ⟨0,rfl,by omega,rfl,T.out⟩
   case round =>
    obtain ⟨j,rfl,hj,ht,hT⟩:=hrel
    clear T c0 c1 c2 c3 c4 cf d0 d1 d2 d3 d4 df
    have T:=hidI hT
    have HT:=hidI ht
    clear hT ht
    obtain ⟨c0,c1,c2,c3,c4,cf⟩:=zi T.out.1
    obtain ⟨d0,d1,d2,d3,d4,df⟩:=zi T.out.2.1
    by_cases hlt : j < m1.im.length
    ·have hlti : (j : Int) < (m1.im.length : Int):=by omega
     have hlt2 : (j : Int) < (m2.im.length : Int):=by omega
     obtain ⟨x,hx⟩:=zcu hlt
     obtain ⟨y,hy⟩:=zcu (show j < m2.im.length by omega)
     obtain ⟨g1,ga,h1⟩:=OwnR.elem (f:=imL) (m:=3) (fun _ => rfl) T.out.2.2.1.im hx
     obtain ⟨g2,gb,h2⟩:=OwnR.elem (f:=imL) (m:=3) (fun _ => rfl) T.out.2.2.2.1.im hy
     rw [ga] at c1
     rw [gb] at d1
     have C0:=hidI (h1 0 (by omega))
     have D0:=hidI (h2 0 (by omega))
     have C1:=hidI (h1 1 (by omega))
     have D1:=hidI (h2 1 (by omega))
     have C2:=hidI (h1 2 (by omega))
     have D2:=hidI (h2 2 (by omega))
     have HX:=hidI hx
     have HY:=hidI hy
     clear h1 h2 ga gb hx hy
     obtain ⟨j1,hj1⟩ : ∃ j1,j1 = j + 1:=⟨_,rfl⟩
     have ej : (j : Int) + 1 = (j1 : Int):=by omega
     have HJ:=hidI hj1
     clear hj1
     obtain ⟨b,hxy⟩ : ∃ b,eqIm x y = b:=⟨_,rfl⟩
     have hn1 : ∀ W : World,Sem.run Tryz.prog (binOp .neq 100 (.agg #[.string x.spec,.string x.first,.string x.loc]) (.agg #[.string y.spec,.string y.first,.string y.loc])) W = .ok (.bool !b) W:=fun W => by rw [hneIm,hxy]
     have hg1 : ∀ (op : BinOp) (a b : Operand) (W : World),Sem.run Tryz.prog (eqGuard op 100 a b (.agg #[.string x.spec,.string x.first,.string x.loc]) (.agg #[.string y.spec,.string y.first,.string y.loc])) W = .ok () W:=fun op a b W => hgdIm op a b x y W
     go_wp2
     have kc:=cell_regrown c1
     have kd:=cell_regrown d1
     have k0:=cell_regrown C0.out
     have v0:=cell_regrown D0.out
     have k1:=cell_regrown C1.out
     have v1:=cell_regrown D1.out
     have k2:=cell_regrown C2.out
     have v2:=cell_regrown D2.out
     simp only [Nat.add_zero] at k0 v0
     refine wp_region_quiet_below (by kernel_rfl) (by kernel_rfl) ?_
     repeat (go_big_quiet_step (fail))
     refine wpQuiet_nil ?_
     intro w2 hw'
     obtain ⟨⟨dq,osq⟩,hw''⟩:=hw'
     have T2 : Hid (TwoM w b1 b2 S1 S2 m1 m2 w2):=by show TwoM _ _ _ _ _ _ _ _; rw [hw'']; exact T.out.later (below_regrown wr dq osq)
     clear hw'' kc kd c0 c1 c2 c3 c4 cf d0 d1 d2 d3 d4 df k0 v0 C0 D0 k1 v1 C1 D1 k2 v2 C2 D2
     cases b with
     | true =>
      go_wp2
      go_roundg (gk - 1)
      case rel => exact ⟨j1,rfl,by have:=HJ.out; omega,by rw [HJ.out]; have e:=zmi.1 hxy; exact zfj HT.out HX.out (by rw [e]; exact HY.out),T2.out⟩
      case measure => omega
     | false =>
      go_wp2
      go_ret
      exact ⟨⟨false,rfl,⟨fun k => (by cases k),fun k => (by have e:=HX.out; rw [k,HY.out] at e; cases e; rw [zmi.2 rfl] at hxy; cases hxy)⟩⟩,T2.out.2.2.2.2⟩
    ·have hlti : ¬ (j : Int) < (m1.im.length : Int):=by omega
     obtain rfl : j = m1.im.length:=by omega
     have A1:=hidI (zgb (by omega) HT.out)
     clear HT hlti hlt hj
     go_wp2
     go_loopg [7] m1.ep.length (fun k i wr => ∃ j : Nat,i = .int .i64 j ∧ j + k = m1.ep.length ∧ m1.ep.take j = m2.ep.take j ∧ TwoM w b1 b2 S1 S2 m1 m2 wr)
     case atStart => exact ⟨0,rfl,by omega,rfl,T.out⟩
     case round =>
      obtain ⟨j,rfl,hj,ht,hT⟩:=hrel
      clear T c0 c1 c2 c3 c4 cf d0 d1 d2 d3 d4 df
      have T:=hidI hT
      have HT:=hidI ht
      clear hT ht
      obtain ⟨c0,c1,c2,c3,c4,cf⟩:=zi T.out.1
      obtain ⟨d0,d1,d2,d3,d4,df⟩:=zi T.out.2.1
      by_cases hlt : j < m1.ep.length
      ·have hlti : (j : Int) < (m1.ep.length : Int):=by omega
       have hlt2 : (j : Int) < (m2.ep.length : Int):=by omega
       obtain ⟨x,hx⟩:=zcu hlt
       obtain ⟨y,hy⟩:=zcu (show j < m2.ep.length by omega)
       obtain ⟨g1,ga,h1⟩:=OwnR.elem (f:=epL) (m:=4) (fun _ => rfl) T.out.2.2.1.ep hx
       obtain ⟨g2,gb,h2⟩:=OwnR.elem (f:=epL) (m:=4) (fun _ => rfl) T.out.2.2.2.1.ep hy
       rw [ga] at c2
       rw [gb] at d2
       have C0:=hidI (h1 0 (by omega))
       have D0:=hidI (h2 0 (by omega))
       have C1:=hidI (h1 1 (by omega))
       have D1:=hidI (h2 1 (by omega))
       have C2:=hidI (h1 2 (by omega))
       have D2:=hidI (h2 2 (by omega))
       have C3:=hidI (h1 3 (by omega))
       have D3:=hidI (h2 3 (by omega))
       have HX:=hidI hx
       have HY:=hidI hy
       clear h1 h2 ga gb hx hy
       obtain ⟨j1,hj1⟩ : ∃ j1,j1 = j + 1:=⟨_,rfl⟩
       have ej : (j : Int) + 1 = (j1 : Int):=by omega
       have HJ:=hidI hj1
       clear hj1
       obtain ⟨b,hxy⟩ : ∃ b,eqEp x y = b:=⟨_,rfl⟩
       have hn1 : ∀ W : World,Sem.run Tryz.prog (binOp .neq 102 (.agg #[.int .i64 x.kind,.string x.name,.string x.loc,.string x.spec]) (.agg #[.int .i64 y.kind,.string y.name,.string y.loc,.string y.spec])) W = .ok (.bool !b) W:=fun W => by rw [hneEp,hxy]
       have hg1 : ∀ (op : BinOp) (a b : Operand) (W : World),Sem.run Tryz.prog (eqGuard op 102 a b (.agg #[.int .i64 x.kind,.string x.name,.string x.loc,.string x.spec]) (.agg #[.int .i64 y.kind,.string y.name,.string y.loc,.string y.spec])) W = .ok () W:=fun op a b W => hgdEp op a b x y W
       go_wp2
       have kc:=cell_regrown c2
       have kd:=cell_regrown d2
       have k0:=cell_regrown C0.out
       have v0:=cell_regrown D0.out
       have k1:=cell_regrown C1.out
       have v1:=cell_regrown D1.out
       have k2:=cell_regrown C2.out
       have v2:=cell_regrown D2.out
       have k3:=cell_regrown C3.out
       have v3:=cell_regrown D3.out
       simp only [Nat.add_zero] at k0 v0
       refine wp_region_quiet_below (by kernel_rfl) (by kernel_rfl) ?_
       repeat (go_big_quiet_step (fail))
       refine wpQuiet_nil ?_
       intro w2 hw'
       obtain ⟨⟨dq,osq⟩,hw''⟩:=hw'
       have T2 : Hid (TwoM w b1 b2 S1 S2 m1 m2 w2):=by show TwoM _ _ _ _ _ _ _ _; rw [hw'']; exact T.out.later (below_regrown wr dq osq)
       clear hw'' kc kd c0 c1 c2 c3 c4 cf d0 d1 d2 d3 d4 df k0 v0 C0 D0 k1 v1 C1 D1 k2 v2 C2 D2 k3 v3 C3 D3
       cases b with
       | true =>
        go_wp2
        go_roundg (gk - 1)
        case rel => exact ⟨j1,rfl,by have:=HJ.out; omega,by rw [HJ.out]; have e:=zmj.1 hxy; exact zfj HT.out HX.out (by rw [e]; exact HY.out),T2.out⟩
        case measure => omega
       | false =>
        go_wp2
        go_ret
        exact ⟨⟨false,rfl,⟨fun k => (by cases k),fun k => (by have e:=HX.out; rw [k,HY.out] at e; cases e; rw [zmj.2 rfl] at hxy; cases hxy)⟩⟩,T2.out.2.2.2.2⟩
      ·have hlti : ¬ (j : Int) < (m1.ep.length : Int):=by omega
       obtain rfl : j = m1.ep.length:=by omega
       have A2:=hidI (zgb (by omega) HT.out)
       clear HT hlti hlt hj
       go_wp2
       go_loopg [8] m1.st.length (fun k i wr => ∃ j : Nat,i = .int .i64 j ∧ j + k = m1.st.length ∧ m1.st.take j = m2.st.take j ∧ TwoM w b1 b2 S1 S2 m1 m2 wr)
       case atStart => exact ⟨0,rfl,by omega,rfl,T.out⟩
       case round =>
        obtain ⟨j,rfl,hj,ht,hT⟩:=hrel
        clear T c0 c1 c2 c3 c4 cf d0 d1 d2 d3 d4 df
        have T:=hidI hT
        have HT:=hidI ht
        clear hT ht
        obtain ⟨c0,c1,c2,c3,c4,cf⟩:=zi T.out.1
        obtain ⟨d0,d1,d2,d3,d4,df⟩:=zi T.out.2.1
        by_cases hlt : j < m1.st.length
        ·have hlti : (j : Int) < (m1.st.length : Int):=by omega
         have hlt2 : (j : Int) < (m2.st.length : Int):=by omega
         obtain ⟨x,hx⟩:=zcu hlt
         obtain ⟨y,hy⟩:=zcu (show j < m2.st.length by omega)
         obtain ⟨g1,ga,h1⟩:=OwnR.elem (f:=smL) (m:=3) (fun _ => rfl) T.out.2.2.1.st hx
         obtain ⟨g2,gb,h2⟩:=OwnR.elem (f:=smL) (m:=3) (fun _ => rfl) T.out.2.2.2.1.st hy
         rw [ga] at c3
         rw [gb] at d3
         have C0:=hidI (h1 0 (by omega))
         have D0:=hidI (h2 0 (by omega))
         have C1:=hidI (h1 1 (by omega))
         have D1:=hidI (h2 1 (by omega))
         have C2:=hidI (h1 2 (by omega))
         have D2:=hidI (h2 2 (by omega))
         have HX:=hidI hx
         have HY:=hidI hy
         clear h1 h2 ga gb hx hy
         obtain ⟨j1,hj1⟩ : ∃ j1,j1 = j + 1:=⟨_,rfl⟩
         have ej : (j : Int) + 1 = (j1 : Int):=by omega
         have HJ:=hidI hj1
         clear hj1
         obtain ⟨b,hxy⟩ : ∃ b,eqSm x y = b:=⟨_,rfl⟩
         have hn1 : ∀ W : World,Sem.run Tryz.prog (binOp .neq 104 (.agg #[.int .i64 x.kind,.string x.name,.int .i64 x.expr]) (.agg #[.int .i64 y.kind,.string y.name,.int .i64 y.expr])) W = .ok (.bool !b) W:=fun W => by rw [hneSm,hxy]
         have hg1 : ∀ (op : BinOp) (a b : Operand) (W : World),Sem.run Tryz.prog (eqGuard op 104 a b (.agg #[.int .i64 x.kind,.string x.name,.int .i64 x.expr]) (.agg #[.int .i64 y.kind,.string y.name,.int .i64 y.expr])) W = .ok () W:=fun op a b W => hgdSm op a b x y W
         go_wp2
         have kc:=cell_regrown c3
         have kd:=cell_regrown d3
         have k0:=cell_regrown C0.out
         have v0:=cell_regrown D0.out
         have k1:=cell_regrown C1.out
         have v1:=cell_regrown D1.out
         have k2:=cell_regrown C2.out
         have v2:=cell_regrown D2.out
         simp only [Nat.add_zero] at k0 v0
         refine wp_region_quiet_below (by kernel_rfl) (by kernel_rfl) ?_
         repeat (go_big_quiet_step (fail))
         refine wpQuiet_nil ?_
         intro w2 hw'
         obtain ⟨⟨dq,osq⟩,hw''⟩:=hw'
         have T2 : Hid (TwoM w b1 b2 S1 S2 m1 m2 w2):=by show TwoM _ _ _ _ _ _ _ _; rw [hw'']; exact T.out.later (below_regrown wr dq osq)
         clear hw'' kc kd c0 c1 c2 c3 c4 cf d0 d1 d2 d3 d4 df k0 v0 C0 D0 k1 v1 C1 D1 k2 v2 C2 D2
         cases b with
         | true =>
          go_wp2
          go_roundg (gk - 1)
          case rel => exact ⟨j1,rfl,by have:=HJ.out; omega,by rw [HJ.out]; have e:=zmk.1 hxy; exact zfj HT.out HX.out (by rw [e]; exact HY.out),T2.out⟩
          case measure => omega
         | false =>
          go_wp2
          go_ret
          exact ⟨⟨false,rfl,⟨fun k => (by cases k),fun k => (by have e:=HX.out; rw [k,HY.out] at e; cases e; rw [zmk.2 rfl] at hxy; cases hxy)⟩⟩,T2.out.2.2.2.2⟩
        ·have hlti : ¬ (j : Int) < (m1.st.length : Int):=by omega
         obtain rfl : j = m1.st.length:=by omega
         have A3:=hidI (zgb (by omega) HT.out)
         clear HT hlti hlt hj
         go_wp2
         go_loopg [9] m1.ex.length (fun k i wr => ∃ j : Nat,i = .int .i64 j ∧ j + k = m1.ex.length ∧ m1.ex.take j = m2.ex.take j ∧ TwoM w b1 b2 S1 S2 m1 m2 wr)
         case atStart => exact ⟨0,rfl,by omega,rfl,T.out⟩
         case round =>
          obtain ⟨j,rfl,hj,ht,hT⟩:=hrel
          clear T c0 c1 c2 c3 c4 cf d0 d1 d2 d3 d4 df
          have T:=hidI hT
          have HT:=hidI ht
          clear hT ht
          obtain ⟨c0,c1,c2,c3,c4,cf⟩:=zi T.out.1
          obtain ⟨d0,d1,d2,d3,d4,df⟩:=zi T.out.2.1
          by_cases hlt : j < m1.ex.length
          ·have hlti : (j : Int) < (m1.ex.length : Int):=by omega
           have hlt2 : (j : Int) < (m2.ex.length : Int):=by omega
           obtain ⟨x,hx⟩:=zcu hlt
           obtain ⟨y,hy⟩:=zcu (show j < m2.ex.length by omega)
           obtain ⟨g1,ga,h1⟩:=OwnR.elem (f:=exL) (m:=6) (fun _ => rfl) T.out.2.2.1.ex hx
           obtain ⟨g2,gb,h2⟩:=OwnR.elem (f:=exL) (m:=6) (fun _ => rfl) T.out.2.2.2.1.ex hy
           rw [ga] at c4
           rw [gb] at d4
           have C0:=hidI (h1 0 (by omega))
           have D0:=hidI (h2 0 (by omega))
           have C1:=hidI (h1 1 (by omega))
           have D1:=hidI (h2 1 (by omega))
           have C2:=hidI (h1 2 (by omega))
           have D2:=hidI (h2 2 (by omega))
           have C3:=hidI (h1 3 (by omega))
           have D3:=hidI (h2 3 (by omega))
           have C4:=hidI (h1 4 (by omega))
           have D4:=hidI (h2 4 (by omega))
           have C5:=hidI (h1 5 (by omega))
           have D5:=hidI (h2 5 (by omega))
           have HX:=hidI hx
           have HY:=hidI hy
           clear h1 h2 ga gb hx hy
           obtain ⟨j1,hj1⟩ : ∃ j1,j1 = j + 1:=⟨_,rfl⟩
           have ej : (j : Int) + 1 = (j1 : Int):=by omega
           have HJ:=hidI hj1
           clear hj1
           obtain ⟨b,hxy⟩ : ∃ b,eqEx x y = b:=⟨_,rfl⟩
           have hn1 : ∀ W : World,Sem.run Tryz.prog (binOp .neq 106 (.agg #[.int .i64 x.kind,.int .i64 x.num,.string x.name,.string x.field,.int .i64 x.l,.int .i64 x.r]) (.agg #[.int .i64 y.kind,.int .i64 y.num,.string y.name,.string y.field,.int .i64 y.l,.int .i64 y.r])) W = .ok (.bool !b) W:=fun W => by rw [hneEx,hxy]
           have hg1 : ∀ (op : BinOp) (a b : Operand) (W : World),Sem.run Tryz.prog (eqGuard op 106 a b (.agg #[.int .i64 x.kind,.int .i64 x.num,.string x.name,.string x.field,.int .i64 x.l,.int .i64 x.r]) (.agg #[.int .i64 y.kind,.int .i64 y.num,.string y.name,.string y.field,.int .i64 y.l,.int .i64 y.r])) W = .ok () W:=fun op a b W => hgdEx op a b x y W
           go_wp2
           have kc:=cell_regrown c4
           have kd:=cell_regrown d4
           have k0:=cell_regrown C0.out
           have v0:=cell_regrown D0.out
           have k1:=cell_regrown C1.out
           have v1:=cell_regrown D1.out
           have k2:=cell_regrown C2.out
           have v2:=cell_regrown D2.out
           have k3:=cell_regrown C3.out
           have v3:=cell_regrown D3.out
           have k4:=cell_regrown C4.out
           have v4:=cell_regrown D4.out
           have k5:=cell_regrown C5.out
           have v5:=cell_regrown D5.out
           simp only [Nat.add_zero] at k0 v0
           refine wp_region_quiet_below (by kernel_rfl) (by kernel_rfl) ?_
           repeat (go_big_quiet_step (fail))
           refine wpQuiet_nil ?_
           intro w2 hw'
           obtain ⟨⟨dq,osq⟩,hw''⟩:=hw'
           have T2 : Hid (TwoM w b1 b2 S1 S2 m1 m2 w2):=by show TwoM _ _ _ _ _ _ _ _; rw [hw'']; exact T.out.later (below_regrown wr dq osq)
           clear hw'' kc kd c0 c1 c2 c3 c4 cf d0 d1 d2 d3 d4 df k0 v0 C0 D0 k1 v1 C1 D1 k2 v2 C2 D2 k3 v3 C3 D3 k4 v4 C4 D4 k5 v5 C5 D5
           cases b with
           | true =>
            go_wp2
            go_roundg (gk - 1)
            case rel => exact ⟨j1,rfl,by have:=HJ.out; omega,by rw [HJ.out]; have e:=zml.1 hxy; exact zfj HT.out HX.out (by rw [e]; exact HY.out),T2.out⟩
            case measure => omega
           | false =>
            go_wp2
            go_ret
            exact ⟨⟨false,rfl,⟨fun k => (by cases k),fun k => (by have e:=HX.out; rw [k,HY.out] at e; cases e; rw [zml.2 rfl] at hxy; cases hxy)⟩⟩,T2.out.2.2.2.2⟩
          ·have hlti : ¬ (j : Int) < (m1.ex.length : Int):=by omega
           obtain rfl : j = m1.ex.length:=by omega
           have A4:=hidI (zgb (by omega) HT.out)
           clear HT hlti hlt hj
           go_wp2
           go_ret
           exact ⟨⟨true,rfl,⟨fun _ => zbiu A0.out A1.out A2.out A3.out A4.out,fun _ => rfl⟩⟩,T.out.2.2.2.2⟩
end Go.Proofs.YtgchhhmfloemlaaGreat
