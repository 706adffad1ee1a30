/-
  Plain facts on texts as lists of numbers. No program is spoken of.
  Tokens of a text,as plain relations: where a run of bytes ends,which token stands at a place,what is passed over,and that each of these is one alone. No program is spoken of.
  Programs,as plain functions: what a row of tokens means. No program is spoken of.
  Plain facts on decimal digits. No program is spoken of.
  Texts of programs,as plain functions. No program is spoken of.
  An expression that is used once: the texts of all statements' expressions are together no longer than what all expressions cost. No program is spoken of.
-/
import Derived.Lib.Strings
import Derived.Test.YtgchhhmfloemlaaGreatClStr
namespace Go.Proofs.YtgchhhmfloemlaaGreat
open Go.RowKit Go.PlainAid

/-- m bytes from place i on. -/
def bsl (s : ByteArray) : Nat → Nat → List Int
 | _,0 => []
 | i,m + 1 => bt s i :: bsl s (i + 1) m
theorem zbag (s : ByteArray) (i m : Nat) : (bsl s i m).length = m:=by
 induction m generalizing i with
 | zero => rfl
 | succ m ih => simp [bsl,ih]
theorem zbft (s : ByteArray) (i : Nat) (h : i < s.data.toList.length) : UInt8.ofNat (bt s i).toNat = s.data.toList[i]:=by
 have hs : i < s.size:=by simpa using h
 rw [← get_bt s i hs,Int.toNat_natCast,UInt8.ofNat_toNat]
 rfl
theorem zbfu (s : ByteArray) (i m : Nat) (h : i + m ≤ s.size) : (bsl s i m).map (fun n => UInt8.ofNat n.toNat) = (s.data.toList.drop i).take m:=by
 induction m generalizing i with
 | zero => simp [bsl]
 | succ m ih =>
  have hl : i < s.data.toList.length:=by rw [Array.length_toList]; exact Nat.lt_of_lt_of_le (show i < i + (m + 1) by omega) h
  rw [bsl,List.map_cons,ih (i + 1) (by omega),List.drop_eq_getElem_cons hl,List.take_succ_cons,zbft s i hl]
theorem zpg (s : ByteArray) (k : Nat) (h : k ≤ s.size) : s.extract 0 k = strOfNums (bsl s 0 k):=by
 have e : (s.extract 0 k).data.toList = (strOfNums (bsl s 0 k)).data.toList:=by
  rw [Lib.extract_data,strOfNums_data,zbfu s 0 k (by omega),Nat.sub_zero]
 have e2 : (s.extract 0 k).data = (strOfNums (bsl s 0 k)).data:=by
  rw [← Array.toArray_toList (xs:=(s.extract 0 k).data),e,Array.toArray_toList]
 have cl : ∀ a b : ByteArray,a.data = b.data → a = b:=by rintro ⟨a⟩ ⟨b⟩ h; cases h; rfl
 exact cl _ _ e2
theorem zsl {a b : ByteArray} (h : a.data.toList = b.data.toList) : a = b:=by
 obtain ⟨⟨a⟩⟩:=a
 obtain ⟨⟨b⟩⟩:=b
 simp only at h
 rw [h]
theorem ztq (a b : ByteArray) : (a.toList == b.toList) = true ↔ a = b:=by
 rw [beq_iff_eq,Lib.toList_data,Lib.toList_data]
 exact ⟨zsl,fun h => by rw [h]⟩
theorem zbjk (s : ByteArray) : s = strOfNums (bsl s 0 s.size):=by
 rw [← zpg s s.size (Nat.le_refl _)]
 refine zsl ?_
 rw [Lib.extract_data,List.drop_zero,Nat.sub_zero,List.take_of_length_le]
 rw [Array.length_toList]
 exact Nat.le_refl _
theorem zie (s : ByteArray) (k : Nat) : bt s k = (s.data.toList.map (fun b => (b.toNat : Int))).getD k 0:=by
 unfold bt
 by_cases h : k < s.size
 ·rw [dif_pos h]
  have hl : k < s.data.toList.length:=by rw [Array.length_toList]; exact h
  simp only [List.getD,List.getElem?_map,List.getElem?_eq_getElem hl,Option.map_some,Option.getD_some]
  rfl
 ·rw [dif_neg h]
  have hl : s.data.toList.length ≤ k:=by rw [Array.length_toList]; exact Nat.le_of_not_lt h
  simp [List.getD,List.getElem?_eq_none hl]
end Go.Proofs.YtgchhhmfloemlaaGreat
namespace Go.Proofs.YtgchhhmfloemlaaGreat
open Go.RowKit Go.PlainAid

def letB (c : Int) (scr : Bool) : Bool:=decide (97 ≤ c ∧ c ≤ 122) || decide (65 ≤ c ∧ c ≤ 90) || decide (c = 95) || (scr && decide (c = 36))
def digB (c : Int) : Bool:=decide (48 ≤ c ∧ c ≤ 57)
def worB (scr : Bool) (c : Int) : Bool:=letB c scr || digB c
def zgf (c : Int) : Bool:=decide (c ≠ 10)
abbrev zom (c : Int) : Prop:=c = 9 ∨ c = 10 ∨ c = 13 ∨ c = 32
abbrev Sign (c : Int) : Prop:=c = 123 ∨ c = 125 ∨ c = 40 ∨ c = 41 ∨ c = 44 ∨ c = 59 ∨ c = 61 ∨ c = 46 ∨ c = 42 ∨ c = 43 ∨ c = 45
abbrev zfv (c : Int) : Prop:=32 ≤ c ∧ c ≤ 126 ∧ c ≠ 34 ∧ c ≠ 92
theorem zhx {c : Int} {scr : Bool} : letB c scr = true ↔ (97 ≤ c ∧ c ≤ 122) ∨ (65 ≤ c ∧ c ≤ 90) ∨ c = 95 ∨ (scr = true ∧ c = 36):=by simp [letB,or_assoc]
theorem zfp {c : Int} : digB c = true ↔ 48 ≤ c ∧ c ≤ 57:=by simp [digB]

/-- The run of bytes that p asks for, from a on, ends at e. -/
def zcs (p : Int → Bool) (s : ByteArray) (a e : Nat) : Prop:=a ≤ e ∧ e ≤ s.size ∧ (∀ j,a ≤ j → j < e → p (bt s j) = true) ∧ (e < s.size → p (bt s e) = false)
theorem zii {p : Int → Bool} {s : ByteArray} {a e1 e2 : Nat} (h1 : zcs p s a e1) (h2 : zcs p s a e2) : e1 = e2:=by
 obtain ⟨a1,b1,c1,d1⟩:=h1
 obtain ⟨a2,b2,c2,d2⟩:=h2
 rcases Nat.lt_trichotomy e1 e2 with h | h | h
 ·have:=c2 e1 a1 h
  rw [d1 (by omega)] at this
  cases this
 ·exact h
 ·have:=c1 e2 a2 h
  rw [d2 (by omega)] at this
  cases this
/-- The number that k digits make. -/
def dval (s : ByteArray) (a : Nat) : Nat → Int
 | 0 => 0
 | k + 1 => dval s a k * 10 + (bt s (a + k) - 48)
def zep (s : ByteArray) (a : Nat) (scr : Bool) (n : Int) (e : Nat) : Prop :=
 zcs digB s a e ∧ a < e ∧ (e = a + 1 ∨ bt s a ≠ 48) ∧ n = dval s a (e - a) ∧ n ≤ 1000000 ∧ (e < s.size → letB (bt s e) scr = false)
theorem zbcq {s : ByteArray} {a : Nat} {scr : Bool} {n1 n2 : Int} {e1 e2 : Nat} (h1 : zep s a scr n1 e1) (h2 : zep s a scr n2 e2) : n1 = n2 ∧ e1 = e2:=by
 have he:=zii h1.1 h2.1
 subst he
 exact ⟨h1.2.2.2.1.trans h2.2.2.2.1.symm,rfl⟩
theorem zsm {s : ByteArray} {a : Nat} (k m : Nat) (hd : ∀ j,j < m → 48 ≤ bt s (a + j)) (hk : k ≤ m) : 0 ≤ dval s a k ∧ dval s a k ≤ dval s a m:=by
 have h0 : ∀ m,(∀ j,j < m → 48 ≤ bt s (a + j)) → 0 ≤ dval s a m:=by
  intro m
  induction m with
  | zero => intro _; exact Int.le_refl _
  | succ m ih =>
   intro h
   have h1:=ih (fun j hj => h j (by omega))
   have h2:=h m (by omega)
   show 0 ≤ dval s a m * 10 + (bt s (a + m) - 48)
   omega
 induction m with
 | zero =>
  obtain rfl : k = 0:=by omega
  exact ⟨Int.le_refl _,Int.le_refl _⟩
 | succ m ih =>
  by_cases e : k = m + 1
  ·subst e
   exact ⟨h0 _ hd,Int.le_refl _⟩
  ·obtain ⟨h1,h2⟩:=ih (fun j hj => hd j (by omega)) (by omega)
   have h3:=hd m (by omega)
   refine ⟨h1,?_⟩
   show _ ≤ dval s a m * 10 + (bt s (a + m) - 48)
   omega
def zfx (s : ByteArray) (a e : Nat) : Prop:=a + 2 ≤ e ∧ e ≤ s.size ∧ e ≤ a + 42 ∧ bt s (e - 1) = 34 ∧ ∀ j,a < j → j + 1 < e → zfv (bt s j)
theorem zbcr {s : ByteArray} {a e1 e2 : Nat} (h1 : zfx s a e1) (h2 : zfx s a e2) : e1 = e2:=by
 obtain ⟨a1,b1,c1,d1,f1⟩:=h1
 obtain ⟨a2,b2,c2,d2,f2⟩:=h2
 rcases Nat.lt_trichotomy e1 e2 with h | h | h
 ·exact absurd d1 (f2 (e1 - 1) (by omega) (by omega)).2.2.1
 ·exact h
 ·exact absurd d2 (f1 (e2 - 1) (by omega) (by omega)).2.2.1

structure Tk where
 kind : Int
 text : ByteArray
 num : Int
 pos : Nat
/-- The token t stands at a and ends at e. -/
inductive Tok (s : ByteArray) (scr : Bool) (a : Nat) : Tk → Nat → Prop
 | name {e : Nat} (h : letB (bt s a) scr = true) (he : zcs (worB scr) s a e) : Tok s scr a ⟨1,s.extract a e,0,a⟩ e
 | num {n : Int} {e : Nat} (h : digB (bt s a) = true) (he : zep s a scr n e) : Tok s scr a ⟨2,{ data:=#[] },n,a⟩ e
 | str {e : Nat} (h : bt s a = 34) (he : zfx s a e) : Tok s scr a ⟨3,s.extract (a + 1) (e - 1),0,a⟩ e
 | sign (h : Sign (bt s a)) : Tok s scr a ⟨4,s.extract a (a + 1),0,a⟩ (a + 1)
theorem zke {c : Int} {scr : Bool} (h : letB c scr = true) : digB c = false ∧ c ≠ 34 ∧ ¬ Sign c:=by
 rw [zhx] at h
 refine ⟨decide_eq_false (by omega),by omega,by unfold Sign; omega⟩
theorem zkf {c : Int} (h : digB c = true) : c ≠ 34 ∧ ¬ Sign c:=by
 rw [zfp] at h
 exact ⟨by omega,by unfold Sign; omega⟩
theorem zbjl {s : ByteArray} {scr : Bool} {a : Nat} {t1 t2 : Tk} {e1 e2 : Nat} (h1 : Tok s scr a t1 e1) (h2 : Tok s scr a t2 e2) : t1 = t2 ∧ e1 = e2:=by
 cases h1 with
 | name h he =>
  have hd:=zke h
  cases h2 with
  | name h' he' => have:=zii he he'; subst this; exact ⟨rfl,rfl⟩
  | num h' he' => rw [hd.1] at h'; cases h'
  | str h' he' => exact absurd h' hd.2.1
  | sign h' => exact absurd h' hd.2.2
 | num h he =>
  have hd:=zkf h
  cases h2 with
  | name h' he' => rw [(zke h').1] at h; cases h
  | num h' he' => obtain ⟨rfl,rfl⟩:=zbcq he he'; exact ⟨rfl,rfl⟩
  | str h' he' => exact absurd h' hd.1
  | sign h' => exact absurd h' hd.2
 | str h he =>
  cases h2 with
  | name h' he' => exact absurd h (zke h').2.1
  | num h' he' => exact absurd h (zkf h').1
  | str h' he' => have:=zbcr he he'; subst this; exact ⟨rfl,rfl⟩
  | sign h' => rw [h] at h'; unfold Sign at h'; omega
 | sign h =>
  cases h2 with
  | name h' he' => exact absurd h (zke h').2.2
  | num h' he' => exact absurd h (zkf h').2
  | str h' he' => rw [h'] at h; unfold Sign at h; omega
  | sign h' => exact ⟨rfl,rfl⟩
theorem zkg {s : ByteArray} {scr : Bool} {a : Nat} {t : Tk} {e : Nat} (ha : a < s.size) (h : Tok s scr a t e) : a < e ∧ e ≤ s.size ∧ t.pos = a:=by
 cases h with
 | name h he =>
  refine ⟨?_,he.2.1,rfl⟩
  rcases Nat.lt_or_ge a e with k | k
  ·exact k
  ·have e1 : e = a:=by have:=he.1; omega
   subst e1
   have:=he.2.2.2 ha
   simp [worB,h] at this
 | num h he => exact ⟨he.2.1,he.1.2.1,rfl⟩
 | str h he => exact ⟨by have:=he.1; omega,he.2.1,rfl⟩
 | sign h => exact ⟨by omega,by omega,rfl⟩

/-- Two / stand at a. -/
abbrev zit (s : ByteArray) (a : Nat) : Prop:=bt s a = 47 ∧ a + 1 < s.size ∧ bt s (a + 1) = 47
/-- From a on all is passed over up to b. -/
inductive Skip (s : ByteArray) : Nat → Nat → Prop
 | done : Skip s s.size s.size
 | stop {a : Nat} (h : a < s.size) (h1 : ¬ zom (bt s a)) (h2 : ¬ zit s a) : Skip s a a
 | blank {a b : Nat} (h : a < s.size) (h1 : zom (bt s a)) (r : Skip s (a + 1) b) : Skip s a b
 | comment {a c b : Nat} (h : a < s.size) (h1 : zit s a) (hc : zcs zgf s a c) (r : Skip s c b) : Skip s a b
theorem zph {s : ByteArray} {a : Nat} (h : zit s a) : ¬ zom (bt s a):=by rw [h.1]; unfold zom; omega
theorem zun {s : ByteArray} {a b1 b2 : Nat} (h1 : Skip s a b1) : Skip s a b2 → b1 = b2:=by
 induction h1 with
 | done =>
  intro h2
  generalize hx : s.size = x at h2
  cases h2 with
  | done => rfl
  | stop h _ _ => omega
  | blank h _ _ => omega
  | comment h _ _ _ => omega
 | stop h k1 k2 =>
  intro h2
  cases h2 with
  | done => rfl
  | stop _ _ _ => rfl
  | blank _ k _ => exact absurd k k1
  | comment _ k _ _ => exact absurd k k2
 | blank h k _ ih =>
  intro h2
  cases h2 with
  | done => exact absurd h (Nat.lt_irrefl _)
  | stop _ k1 _ => exact absurd k k1
  | blank _ _ r => exact ih r
  | comment _ k1 _ _ => exact absurd k (zph k1)
 | comment h k hc _ ih =>
  intro h2
  cases h2 with
  | done => exact absurd h (Nat.lt_irrefl _)
  | stop _ _ k2 => exact absurd k k2
  | blank _ k1 _ => exact absurd k1 (zph k)
  | comment _ _ hc' r => have:=zii hc hc'; subst this; exact ih r
theorem zrt {s : ByteArray} {a b : Nat} (h : Skip s a b) : a ≤ b ∧ b ≤ s.size:=by
 induction h with
 | done => exact ⟨Nat.le_refl _,Nat.le_refl _⟩
 | stop h _ _ => exact ⟨Nat.le_refl _,by omega⟩
 | blank h _ _ ih => exact ⟨by omega,ih.2⟩
 | comment h _ hc _ ih => exact ⟨by have:=hc.1; omega,ih.2⟩

/-- What Lex tells from the place a on, n tokens being there: the tokens, or where it ends. -/
inductive Lx (s : ByteArray) (scr : Bool) : Nat → Nat → Except Nat (List Tk) → Prop
 | done {n : Nat} : Lx s scr s.size n (.ok [])
 | bad {a n : Nat} (h : a < s.size) (h1 : 4000 ≤ n ∨ ∀ t e,¬ Tok s scr a t e) : Lx s scr a n (.error a)
 | tok {a n e b : Nat} {t : Tk} {r : Except Nat (List Tk)} (h : a < s.size) (hn : n < 4000) (ht : Tok s scr a t e) (hs : Skip s e b) (hr : Lx s scr b (n + 1) r) : Lx s scr a n (r.map (t :: ·))
theorem zblx {s : ByteArray} {scr : Bool} {a n : Nat} {r1 r2 : Except Nat (List Tk)} (h1 : Lx s scr a n r1) : Lx s scr a n r2 → r1 = r2:=by
 induction h1 generalizing r2 with
 | done =>
  intro h2
  generalize hx : s.size = x at h2
  cases h2 with
  | done => rfl
  | bad h _ => omega
  | tok h _ _ _ _ => omega
 | bad h k =>
  intro h2
  cases h2 with
  | done => exact absurd h (Nat.lt_irrefl _)
  | bad _ _ => rfl
  | tok _ hn ht _ _ => exact k.elim (fun k => by omega) fun k => absurd ht (k _ _)
 | tok h hn ht hs _ ih =>
  intro h2
  cases h2 with
  | done => exact absurd h (Nat.lt_irrefl _)
  | bad _ k => exact k.elim (fun k => by omega) fun k => absurd ht (k _ _)
  | tok _ _ ht' hs' r =>
   obtain ⟨rfl,rfl⟩:=zbjl ht ht'
   have:=zun hs hs'
   subst this
   rw [ih r]
/-- What Lex tells of a text. -/
def LexR (s : ByteArray) (scr : Bool) (r : Except Nat (List Tk)) : Prop:=∃ a,Skip s 0 a ∧ Lx s scr a 0 r
theorem zbfv {s : ByteArray} {scr : Bool} {r1 r2 : Except Nat (List Tk)} (h1 : LexR s scr r1) (h2 : LexR s scr r2) : r1 = r2:=by
 obtain ⟨a,s1,l1⟩:=h1
 obtain ⟨b,s2,l2⟩:=h2
 have:=zun s1 s2
 subst this
 exact zblx l1 l2
end Go.Proofs.YtgchhhmfloemlaaGreat
namespace Go.Proofs.YtgchhhmfloemlaaGreat
open Go.RowKit Go.PlainAid

structure Ex where
 kind : Int
 num : Int
 name : ByteArray
 field : ByteArray
 l : Int
 r : Int
structure Sm where
 kind : Int
 name : ByteArray
 expr : Int
structure Im where
 spec : ByteArray
 first : ByteArray
 loc : ByteArray
structure Ep where
 kind : Int
 name : ByteArray
 loc : ByteArray
 spec : ByteArray
structure Cx where
 ts : List Tk
 fin : Nat
 scr : Bool
structure PS where
 pos : Nat
 rq : List ByteArray
 im : List Im
 ep : List Ep
 st : List Sm
 ex : List Ex
 la : List Ep
abbrev PR:=Except Nat PS

abbrev sNone : ByteArray:={ data:=#[] }
abbrev zbn : ByteArray:={ data:=#[105,109,112,111,114,116] }
abbrev zbk : ByteArray:={ data:=#[101,120,112,111,114,116] }
abbrev sDefault : ByteArray:={ data:=#[100,101,102,97,117,108,116] }
abbrev sLet : ByteArray:={ data:=#[108,101,116] }
abbrev zq : ByteArray:={ data:=#[102,117,110,99,116,105,111,110] }
abbrev zkh : ByteArray:={ data:=#[114,101,116,117,114,110] }
abbrev zcc : ByteArray:={ data:=#[112,114,105,110,116] }
abbrev zck : ByteArray:={ data:=#[116,104,114,111,119] }
abbrev zgg : ByteArray:={ data:=#[102,97,105,108] }
abbrev zcn : ByteArray:={ data:=#[117,110,100,101,102] }
abbrev sAs : ByteArray:={ data:=#[97,115] }
abbrev zbt : ByteArray:={ data:=#[102,114,111,109] }
abbrev zdz : ByteArray:={ data:=#[42,100,101,102,97,117,108,116] }
abbrev zr : ByteArray:={ data:=#[40] }
abbrev zcw : ByteArray:={ data:=#[41] }
abbrev zbb : ByteArray:={ data:=#[42] }
abbrev zhh : ByteArray:={ data:=#[43] }
abbrev zei : ByteArray:={ data:=#[44] }
abbrev zdu : ByteArray:={ data:=#[45] }
abbrev cPoint : ByteArray:={ data:=#[46] }
abbrev cSemi : ByteArray:={ data:=#[59] }
abbrev cEq : ByteArray:={ data:=#[61] }
abbrev zbm : ByteArray:={ data:=#[123] }
abbrev zea : ByteArray:={ data:=#[125] }

def bd {α β : Type} (x : Except Nat α) (f : α → Except Nat β) : Except Nat β :=
 match x with
 | .ok a => f a
 | .error e => .error e
theorem zbe {α β : Type} (a : α) (f : α → Except Nat β) : bd (.ok a) f = f a:=rfl
theorem ziu {α β : Type} (e : Nat) (f : α → Except Nat β) : bd (.error e) f = .error e:=rfl
theorem zbp {α β γ : Type} (x : Except Nat α) (f : α → Except Nat β) (g : β → Except Nat γ) : bd (bd x f) g = bd x fun a => bd (f a) g:=by cases x <;> rfl
theorem zy {α β : Type} {x : Except Nat α} {f g : α → Except Nat β} (h : ∀ a,x = .ok a → f a = g a) : bd x f = bd x g:=by
 cases x with
 | ok a => exact h a rfl
 | error e => rfl
theorem zc {α β : Type} {x : Except Nat α} {f : α → Except Nat β} {b : β} (h : bd x f = .ok b) : ∃ a,x = .ok a ∧ f a = .ok b:=by
 cases x with
 | ok a => exact ⟨a,rfl,h⟩
 | error e => cases h

def zd (C : Cx) (i : Nat) : Tk:=C.ts.getD i ⟨0,sNone,0,C.fin⟩
def here (C : Cx) (i : Nat) : Nat:=(zd C i).pos
def isT (C : Cx) (i : Nat) (k : Int) (x : ByteArray) : Bool:=((zd C i).kind == k) && ((zd C i).text.toList == x.toList)
def adv (q : PS) : PS:={ q with pos:=q.pos + 1 }
def tokP (C : Cx) (k : Int) (x : ByteArray) (q : PS) : PR:=if isT C q.pos k x then .ok (adv q) else .error (here C q.pos)
def resB (x : ByteArray) (scr : Bool) : Bool :=
 x.toList == [105,109,112,111,114,116] || x.toList == [101,120,112,111,114,116] || x.toList == [100,101,102,97,117,108,116] || x.toList == [108,101,116] || x.toList == [102,117,110,99,116,105,111,110] || x.toList == [114,101,116,117,114,110] || x.toList == [112,114,105,110,116] || x.toList == [116,104,114,111,119]
  || ((x.toList == [102,97,105,108] || x.toList == [117,110,100,101,102]) && scr)
def zba (C : Cx) (i : Nat) (o : Bool) : Bool:=((zd C i).kind == 1) && (!resB (zd C i).text C.scr || (o && ((zd C i).text.toList == [100,101,102,97,117,108,116])))
def zl (C : Cx) (o : Bool) (q : PS) : Except Nat (PS × ByteArray):=if zba C q.pos o then .ok (adv q,(zd C q.pos).text) else .error (here C q.pos)
def hasS (l : List ByteArray) (x : ByteArray) : Bool:=l.any fun y => y.toList == x.toList
def zbo (C : Cx) (q : PS) : Except Nat (PS × ByteArray) :=
 if (zd C q.pos).kind == 3 then
  if hasS q.rq (zd C q.pos).text then .ok (adv q,(zd C q.pos).text)
  else if 40 ≤ q.rq.length then .error (here C q.pos)
  else .ok ({ adv q with rq:=q.rq ++ [(zd C q.pos).text] },(zd C q.pos).text)
 else .error (here C q.pos)
def zci (C : Cx) (x : Im) (q : PS) : PR:=if 40 ≤ q.im.length then .error (here C (q.pos - 1)) else .ok { q with im:=q.im ++ [x] }
def zt (C : Cx) (x : Ep) (q : PS) : PR :=
 if 40 ≤ q.ep.length + q.la.length then .error (here C (q.pos - 1))
 else if x.loc.toList == [42,100,101,102,97,117,108,116] then .ok { q with la:=q.la ++ [x] } else .ok { q with ep:=q.ep ++ [x] }
def zbz (C : Cx) (k : Int) (n : ByteArray) (q : PS) : PR:=if 80 ≤ q.st.length then .error (here C (q.pos - 1)) else .ok { q with st:=q.st ++ [⟨k,n,(q.ex.length : Int) - 1⟩] }
def zbq (C : Cx) (x : Ex) (q : PS) : PR:=if 300 ≤ q.ex.length then .error (here C (q.pos - 1)) else .ok { q with ex:=q.ex ++ [x] }
def zfw (C : Cx) (n : ByteArray) (q : PS) : PR :=
 if isT C q.pos 4 zr then bd (bd (tokP C 4 zr q) (tokP C 4 zcw)) (zbq C ⟨3,0,n,sNone,0,0⟩) else zbq C ⟨2,0,n,sNone,0,0⟩ q
def memP (C : Cx) (n f : ByteArray) (q : PS) : PR :=
 if isT C q.pos 4 zr then bd (bd (tokP C 4 zr q) (tokP C 4 zcw)) (zbq C ⟨5,0,n,f,0,0⟩) else zbq C ⟨4,0,n,f,0,0⟩ q

inductive NT
 | sum
 | sumT
 | prod
 | prodT
 | part
def zij (C : Cx) (i : Nat) : Int:=if isT C i 4 zdu then 7 else 6
/-- Expressions, with so many steps of reading at hand. -/
def ev (C : Cx) : Nat → NT → Nat → PS → PR
 | 0,_,_,_ => .error 0
 | f + 1,.sum,d,q => bd (ev C f .prod d q) (ev C f .sumT d)
 | f + 1,.sumT,d,q =>
  if isT C q.pos 4 zhh || isT C q.pos 4 zdu then
   bd (bd (ev C f .prod d (adv q)) fun q' => zbq C ⟨zij C q.pos,0,sNone,sNone,(q.ex.length : Int) - 1,(q'.ex.length : Int) - 1⟩ q') (ev C f .sumT d)
  else .ok q
 | f + 1,.prod,d,q => bd (ev C f .part d q) (ev C f .prodT d)
 | f + 1,.prodT,d,q =>
  if isT C q.pos 4 zbb then
   bd (bd (ev C f .part d (adv q)) fun q' => zbq C ⟨8,0,sNone,sNone,(q.ex.length : Int) - 1,(q'.ex.length : Int) - 1⟩ q') (ev C f .prodT d)
  else .ok q
 | f + 1,.part,d,q =>
  if (zd C q.pos).kind == 2 then zbq C ⟨1,(zd C q.pos).num,sNone,sNone,0,0⟩ (adv q)
  else if isT C q.pos 4 zr then
   if 20 ≤ d then .error (here C q.pos) else bd (ev C f .sum (d + 1) (adv q)) (tokP C 4 zcw)
  else if C.scr && isT C q.pos 1 zcn then zfw C zcn (adv q)
  else bd (zl C false q) fun x => if isT C x.1.pos 4 cPoint then bd (zl C true (adv x.1)) fun y => memP C x.2 y.2 y.1 else zfw C x.2 x.1
def nd (C : Cx) (nt : NT) (q : PS) : Nat :=
 5 * (C.ts.length - q.pos) + match nt with
  | .sum => 3
  | .prod => 2
  | _ => 1
def pE (C : Cx) (nt : NT) (d : Nat) (q : PS) : PR:=ev C (nd C nt q) nt d q

theorem zgr {C : Cx} {i : Nat} (h : C.ts.length ≤ i) : zd C i = ⟨0,sNone,0,C.fin⟩:=by simp [zd,List.getD,List.getElem?_eq_none h]
theorem zcg {C : Cx} {i : Nat} {k : Int} {x : ByteArray} (h : isT C i k x = true) (hk : k ≠ 0) : i < C.ts.length:=by
 rcases Nat.lt_or_ge i C.ts.length with g | g
 ·exact g
 ·simp only [isT,zgr g,Bool.and_eq_true,beq_iff_eq] at h
  exact absurd h.1.symm hk
theorem zon {C : Cx} {i : Nat} {k : Int} (h : ((zd C i).kind == k) = true) (hk : k ≠ 0) : i < C.ts.length:=by
 rcases Nat.lt_or_ge i C.ts.length with g | g
 ·exact g
 ·simp only [zgr g,beq_iff_eq] at h
  exact absurd h.symm hk
theorem zkl {C : Cx} {i : Nat} {o : Bool} (h : zba C i o = true) : i < C.ts.length:=by
 simp only [zba,Bool.and_eq_true] at h
 exact zon h.1 (by decide)
theorem zed {C : Cx} {k : Int} {x : ByteArray} {q q' : PS} (h : tokP C k x q = .ok q') : q' = adv q ∧ isT C q.pos k x = true:=by
 unfold tokP at h
 split at h
 ·next g => exact ⟨by cases h; rfl,g⟩
 ·cases h
theorem zcx {C : Cx} {o : Bool} {q : PS} {y : PS × ByteArray} (h : zl C o q = .ok y) : y = (adv q,(zd C q.pos).text) ∧ zba C q.pos o = true:=by
 unfold zl at h
 split at h
 ·next g => exact ⟨by cases h; rfl,g⟩
 ·cases h
theorem zdk {C : Cx} {x : Ex} {q q' : PS} (h : zbq C x q = .ok q') : q' = { q with ex:=q.ex ++ [x] } ∧ q.ex.length < 300:=by
 unfold zbq at h
 split at h
 ·cases h
 ·cases h
  exact ⟨rfl,by omega⟩
theorem zn (q : PS) : (adv q).pos = q.pos + 1:=rfl
theorem zsn {C : Cx} {n : ByteArray} {q q' : PS} (h : zfw C n q = .ok q') : q.pos ≤ q'.pos:=by
 unfold zfw at h
 split at h
 ·obtain ⟨a,h1,h2⟩:=zc h
  obtain ⟨b,h3,h4⟩:=zc h1
  obtain ⟨rfl,_⟩:=zed h3
  obtain ⟨rfl,_⟩:=zed h4
  obtain ⟨rfl,_⟩:=zdk h2
  show q.pos ≤ q.pos + 1 + 1
  omega
 ·obtain ⟨rfl,_⟩:=zdk h
  exact Nat.le_refl _
theorem zbfw {C : Cx} {n f : ByteArray} {q q' : PS} (h : memP C n f q = .ok q') : q.pos ≤ q'.pos:=by
 unfold memP at h
 split at h
 ·obtain ⟨a,h1,h2⟩:=zc h
  obtain ⟨b,h3,h4⟩:=zc h1
  obtain ⟨rfl,_⟩:=zed h3
  obtain ⟨rfl,_⟩:=zed h4
  obtain ⟨rfl,_⟩:=zdk h2
  show q.pos ≤ q.pos + 1 + 1
  omega
 ·obtain ⟨rfl,_⟩:=zdk h
  exact Nat.le_refl _
theorem znn {C : Cx} (f : Nat) : ∀ (nt : NT) (d : Nat) (q q' : PS),ev C f nt d q = .ok q' → q.pos ≤ q'.pos:=by
 induction f with
 | zero => intro nt d q q' h; cases nt <;> cases h
 | succ f ih =>
  intro nt d q q' h
  cases nt with
  | sum =>
   rw [ev] at h
   obtain ⟨a,h1,h2⟩:=zc h
   exact Nat.le_trans (ih _ _ _ _ h1) (ih _ _ _ _ h2)
  | prod =>
   rw [ev] at h
   obtain ⟨a,h1,h2⟩:=zc h
   exact Nat.le_trans (ih _ _ _ _ h1) (ih _ _ _ _ h2)
  | sumT =>
   rw [ev] at h
   split at h
   ·obtain ⟨a,h1,h2⟩:=zc h
    obtain ⟨b,h3,h4⟩:=zc h1
    obtain ⟨rfl,_⟩:=zdk h4
    have e1:=ih _ _ _ _ h3
    have e2:=ih _ _ _ _ h2
    rw [zn] at e1
    exact Nat.le_trans (by omega : q.pos ≤ b.pos) e2
   ·cases h
    exact Nat.le_refl _
  | prodT =>
   rw [ev] at h
   split at h
   ·obtain ⟨a,h1,h2⟩:=zc h
    obtain ⟨b,h3,h4⟩:=zc h1
    obtain ⟨rfl,_⟩:=zdk h4
    have e1:=ih _ _ _ _ h3
    have e2:=ih _ _ _ _ h2
    rw [zn] at e1
    exact Nat.le_trans (by omega : q.pos ≤ b.pos) e2
   ·cases h
    exact Nat.le_refl _
  | part =>
   rw [ev] at h
   split at h
   ·obtain ⟨rfl,_⟩:=zdk h
    show q.pos ≤ q.pos + 1
    omega
   ·split at h
    ·split at h
     ·cases h
     ·obtain ⟨a,h1,h2⟩:=zc h
      obtain ⟨rfl,_⟩:=zed h2
      have e1:=ih _ _ _ _ h1
      rw [zn] at e1 ⊢
      omega
    ·split at h
     ·have:=zsn h
      rw [zn] at this
      omega
     ·obtain ⟨y,h1,h2⟩:=zc h
      obtain ⟨rfl,_⟩:=zcx h1
      simp only at h2
      split at h2
      ·obtain ⟨z,h3,h4⟩:=zc h2
       obtain ⟨rfl,_⟩:=zcx h3
       have:=zbfw h4
       simp only [zn] at this
       omega
      ·have:=zsn h2
       rw [zn] at this
       omega
/-- Enough is enough: with as many steps as the tokens ask for, more change nothing. -/
theorem zbcs {C : Cx} (f : Nat) : ∀ (g : Nat) (nt : NT) (d : Nat) (q : PS),nd C nt q ≤ f → nd C nt q ≤ g → ev C f nt d q = ev C g nt d q:=by
 induction f with
 | zero => intro g nt d q h; unfold nd at h; cases nt <;> simp at h
 | succ f ih =>
  intro g nt d q h1 h2
  obtain ⟨g,rfl⟩ : ∃ g',g = g' + 1:=by
   match g with
   | 0 => unfold nd at h2; cases nt <;> simp at h2
   | g + 1 => exact ⟨g,rfl⟩
  cases nt with
  | sum =>
   simp only [nd] at h1 h2
   rw [ev,ev,ih g .prod d q (by simp only [nd]; omega) (by simp only [nd]; omega)]
   refine zy fun a ha => ?_
   have:=znn _ _ _ _ _ ha
   exact ih g .sumT d a (by simp only [nd]; omega) (by simp only [nd]; omega)
  | prod =>
   simp only [nd] at h1 h2
   rw [ev,ev,ih g .part d q (by simp only [nd]; omega) (by simp only [nd]; omega)]
   refine zy fun a ha => ?_
   have:=znn _ _ _ _ _ ha
   exact ih g .prodT d a (by simp only [nd]; omega) (by simp only [nd]; omega)
  | sumT =>
   simp only [nd] at h1 h2
   rw [ev,ev]
   split
   ·next hs =>
    have hlt : q.pos < C.ts.length:=by
     rw [Bool.or_eq_true] at hs
     exact hs.elim (fun k => zcg k (by decide)) fun k => zcg k (by decide)
    rw [ih g .prod d (adv q) (by simp only [nd,zn]; omega) (by simp only [nd,zn]; omega)]
    refine zy fun a ha => ?_
    obtain ⟨b,h3,h4⟩:=zc ha
    obtain ⟨rfl,_⟩:=zdk h4
    have:=znn _ _ _ _ _ h3
    rw [zn] at this
    exact ih g .sumT d _ (by simp only [nd]; omega) (by simp only [nd]; omega)
   ·rfl
  | prodT =>
   simp only [nd] at h1 h2
   rw [ev,ev]
   split
   ·next hs =>
    have hlt : q.pos < C.ts.length:=zcg hs (by decide)
    rw [ih g .part d (adv q) (by simp only [nd,zn]; omega) (by simp only [nd,zn]; omega)]
    refine zy fun a ha => ?_
    obtain ⟨b,h3,h4⟩:=zc ha
    obtain ⟨rfl,_⟩:=zdk h4
    have:=znn _ _ _ _ _ h3
    rw [zn] at this
    exact ih g .prodT d _ (by simp only [nd]; omega) (by simp only [nd]; omega)
   ·rfl
  | part =>
   simp only [nd] at h1 h2
   rw [ev,ev]
   split
   ·rfl
   ·split
    ·next hs =>
     have hlt : q.pos < C.ts.length:=zcg hs (by decide)
     split
     ·rfl
     ·rw [ih g .sum (d + 1) (adv q) (by simp only [nd,zn]; omega) (by simp only [nd,zn]; omega)]
    ·rfl
theorem zji {C : Cx} {f d : Nat} {nt : NT} {q : PS} (h : nd C nt q ≤ f) : ev C f nt d q = pE C nt d q:=zbcs f _ nt d q h (Nat.le_refl _)
theorem zdo {C : Cx} {nt : NT} {d : Nat} {q q' : PS} (h : pE C nt d q = .ok q') : q.pos ≤ q'.pos:=znn _ _ _ _ _ h
theorem zlp {C : Cx} {nt : NT} {d : Nat} {q : PS} : pE C nt d q = ev C (nd C nt q + 1) nt d q:=(zji (Nat.le_succ _)).symm

theorem zbct (C : Cx) (d : Nat) (q : PS) : pE C .sum d q = bd (pE C .prod d q) (pE C .sumT d):=by
 rw [zlp,ev,zji (by simp only [nd]; omega)]
 refine zy fun a ha => ?_
 have:=zdo ha
 exact zji (by simp only [nd]; omega)
theorem zzc (C : Cx) (d : Nat) (q : PS) : pE C .prod d q = bd (pE C .part d q) (pE C .prodT d):=by
 rw [zlp,ev,zji (by simp only [nd]; omega)]
 refine zy fun a ha => ?_
 have:=zdo ha
 exact zji (by simp only [nd]; omega)
theorem zlq (C : Cx) (d : Nat) (q : PS) : pE C .sumT d q =
  if isT C q.pos 4 zhh || isT C q.pos 4 zdu then
   bd (bd (pE C .prod d (adv q)) fun q' => zbq C ⟨zij C q.pos,0,sNone,sNone,(q.ex.length : Int) - 1,(q'.ex.length : Int) - 1⟩ q') (pE C .sumT d)
  else .ok q:=by
 rw [zlp,ev]
 split
 ·next hs =>
  have hlt : q.pos < C.ts.length:=by
   rw [Bool.or_eq_true] at hs
   exact hs.elim (fun k => zcg k (by decide)) fun k => zcg k (by decide)
  rw [zji (by simp only [nd,zn]; omega)]
  refine zy fun a ha => ?_
  obtain ⟨b,h3,h4⟩:=zc ha
  obtain ⟨rfl,_⟩:=zdk h4
  have:=zdo h3
  rw [zn] at this
  exact zji (by simp only [nd]; omega)
 ·rfl
theorem zmd (C : Cx) (d : Nat) (q : PS) : pE C .prodT d q =
  if isT C q.pos 4 zbb then
   bd (bd (pE C .part d (adv q)) fun q' => zbq C ⟨8,0,sNone,sNone,(q.ex.length : Int) - 1,(q'.ex.length : Int) - 1⟩ q') (pE C .prodT d)
  else .ok q:=by
 rw [zlp,ev]
 split
 ·next hs =>
  have hlt : q.pos < C.ts.length:=zcg hs (by decide)
  rw [zji (by simp only [nd,zn]; omega)]
  refine zy fun a ha => ?_
  obtain ⟨b,h3,h4⟩:=zc ha
  obtain ⟨rfl,_⟩:=zdk h4
  have:=zdo h3
  rw [zn] at this
  exact zji (by simp only [nd]; omega)
 ·rfl
theorem zdv (C : Cx) (d : Nat) (q : PS) : pE C .part d q =
  if (zd C q.pos).kind == 2 then zbq C ⟨1,(zd C q.pos).num,sNone,sNone,0,0⟩ (adv q)
  else if isT C q.pos 4 zr then
   if 20 ≤ d then .error (here C q.pos) else bd (pE C .sum (d + 1) (adv q)) (tokP C 4 zcw)
  else if C.scr && isT C q.pos 1 zcn then zfw C zcn (adv q)
  else bd (zl C false q) fun x => if isT C x.1.pos 4 cPoint then bd (zl C true (adv x.1)) fun y => memP C x.2 y.2 y.1 else zfw C x.2 x.1:=by
 rw [zlp,ev]
 split
 ·rfl
 ·split
  ·next hs =>
   have hlt : q.pos < C.ts.length:=zcg hs (by decide)
   split
   ·rfl
   ·rw [zji (by simp only [nd,zn]; omega)]
  ·rfl
end Go.Proofs.YtgchhhmfloemlaaGreat
namespace Go.Proofs.YtgchhhmfloemlaaGreat
open Go.RowKit Go.PlainAid

theorem zhb (k : Nat) : (0 : Int) < 10 ^ k:=Int.pow_pos (by omega)
theorem zkz (k : Nat) : (10 : Int) ^ (k + 1) = 10 ^ k * 10:=Int.pow_succ _ _
theorem zik {a b : Nat} (h : a ≤ b) : (10 : Int) ^ a ≤ 10 ^ b:=by
 induction b with
 | zero =>
  obtain rfl : a = 0:=by omega
  exact Int.le_refl _
 | succ b ih =>
  by_cases e : a = b + 1
  ·rw [e]; exact Int.le_refl _
  ·have:=ih (by omega)
   have:=zhb b
   rw [zkz]
   omega
theorem zoo (n : Int) (k : Nat) : n / 10 ^ k / 10 = n / 10 ^ (k + 1):=by
 rw [zkz,Int.ediv_ediv_of_nonneg (Int.le_of_lt (zhb k))]
theorem ziv (n : Int) (k : Nat) (h : 0 ≤ n) : 0 ≤ n / 10 ^ k ∧ n / 10 ^ k ≤ n :=
 ⟨Int.ediv_nonneg h (Int.le_of_lt (zhb k)),Int.ediv_le_self _ h⟩

/-- How many digits; f + 1 at most. -/
def dc : Nat → Int → Nat
 | 0,_ => 1
 | f + 1,q => if q < 10 then 1 else dc f (q / 10) + 1
theorem zbfx (f : Nat) (q : Int) (h0 : 0 ≤ q) (h : q < 10 ^ (f + 1)) : 1 ≤ dc f q ∧ dc f q ≤ f + 1 ∧ q < 10 ^ dc f q ∧ (dc f q = 1 ∨ 10 ^ (dc f q - 1) ≤ q):=by
 induction f generalizing q with
 | zero => simpa [dc] using h
 | succ f ih =>
  unfold dc
  by_cases hq : q < 10
  ·rw [if_pos hq]
   exact ⟨by omega,by omega,by simpa using hq,.inl rfl⟩
  ·rw [if_neg hq]
   obtain ⟨a,b,c,d⟩:=ih (q / 10) (by omega) (by rw [zkz] at h; omega)
   refine ⟨by omega,by omega,?_,.inr ?_⟩
   ·rw [zkz]; omega
   ·rw [Nat.add_sub_cancel]
    rcases d with d | d
    ·rw [d]
     show (10 : Int) ^ 1 ≤ q
     rw [show (10 : Int) ^ 1 = 10 from by decide]
     omega
    ·rw [show dc f (q / 10) = (dc f (q / 10) - 1) + 1 from by omega,zkz]
     omega
/-- How many digits a number below 2^64 has. -/
def dcn (m : Int) : Nat:=dc 19 m
theorem zfi (m : Int) (h0 : 0 ≤ m) (h : m ≤ 18446744073709551615) : 1 ≤ dcn m ∧ dcn m ≤ 20 ∧ m < 10 ^ dcn m ∧ (dcn m = 1 ∨ 10 ^ (dcn m - 1) ≤ m) :=
 zbfx 19 m h0 (by rw [show (10 : Int) ^ (19 + 1) = 100000000000000000000 by decide]; omega)
theorem zbfy (m : Int) (h0 : 0 ≤ m) (h : m ≤ 18446744073709551615) (k : Nat) : 10 ≤ m / 10 ^ k ↔ k + 1 < dcn m:=by
 obtain ⟨a,b,c,d⟩:=zfi m h0 h
 rw [Int.le_ediv_iff_mul_le (zhb k),Int.mul_comm,← zkz]
 constructor
 ·intro hk
  rcases Nat.lt_or_ge (k + 1) (dcn m) with e | e
  ·exact e
  ·have:=zik e
   omega
 ·intro hk
  have:=zik (show k + 1 ≤ dcn m - 1 by omega)
  omega
theorem zuo (m : Int) (h0 : 1 ≤ m) (h : m ≤ 18446744073709551615) (k : Nat) : m / 10 ^ k ≠ 0 ↔ k < dcn m:=by
 obtain ⟨a,b,c,d⟩:=zfi m (by omega) h
 have hb:=ziv m k (by omega)
 have : m / 10 ^ k ≠ 0 ↔ 1 ≤ m / 10 ^ k:=by omega
 rw [this,Int.le_ediv_iff_mul_le (zhb k),Int.one_mul]
 constructor
 ·intro hk
  rcases Nat.lt_or_ge k (dcn m) with e | e
  ·exact e
  ·have:=zik e
   omega
 ·intro hk
  have:=zik (show k ≤ dcn m - 1 by omega)
  rcases d with d | d
  ·obtain rfl : k = 0:=by omega
   simpa using h0
  ·omega

/-- The lowest k digits, the highest first. -/
def dgk (m : Int) : Nat → List Int
 | 0 => []
 | k + 1 => (48 + m / 10 ^ k % 10) :: dgk m k
theorem zdp (m : Int) (k : Nat) : (dgk m k).length = k:=by
 induction k with
 | zero => rfl
 | succ k ih => simp [dgk,ih]
theorem zbcu (m : Int) (c k : Nat) (h : k < c) : (dgk m c)[c - 1 - k]? = some (48 + m / 10 ^ k % 10):=by
 induction c with
 | zero => omega
 | succ c ih =>
  by_cases e : k = c
  ·subst e
   rw [show k + 1 - 1 - k = 0 from by omega]
   rfl
  ·rw [show c + 1 - 1 - k = (c - 1 - k) + 1 from by omega,dgk,List.getElem?_cons_succ]
   exact ih (by omega)
def absI (n : Int) : Int:=if n < 0 then -n else n
/-- The decimal text of n. -/
def decL (n : Int) : List Int:=(if n < 0 then [45] else []) ++ dgk (absI n) (dcn (absI n))
theorem zpr {n : Int} (h : n < 0) : decL n = 45 :: dgk (-n) (dcn (-n)):=by simp [decL,h,absI]
theorem zps {n : Int} (h : 0 ≤ n) : decL n = dgk n (dcn n):=by
 have : ¬ n < 0:=by omega
 simp [decL,this,absI]
theorem ztr (L : List Int) : zfo L L.length = L:=by simp [zfo]
theorem zts (x : Int) (L : List Int) : (zfo (x :: L) L.length).set 0 x = x :: L:=by
 simp [zfo]
theorem zbjm (p : List Int) (m : Int) (c k : Nat) (h : k < c) : (p ++ dgk m c)[(p ++ dgk m c).length - 1 - k]? = some (48 + m / 10 ^ k % 10):=by
 rw [List.length_append,zdp,List.getElem?_append_right (by omega),show p.length + c - 1 - k - p.length = c - 1 - k from by omega]
 exact zbcu m c k h
end Go.Proofs.YtgchhhmfloemlaaGreat
namespace Go.Proofs.YtgchhhmfloemlaaGreat
open Go.RowKit Go.PlainAid

/-- A program: its five lists. -/
structure Md where
 rq : List ByteArray
 im : List Im
 ep : List Ep
 st : List Sm
 ex : List Ex
def mdOf (q : PS) : Md:=⟨q.rq,q.im,q.ep ++ q.la,q.st,q.ex⟩
def sumK (k : Int) : Bool:=k == 6 || k == 7
def twoK (k : Int) : Bool:=k == 6 || k == 7 || k == 8
def exNo : Ex:=⟨0,0,sNone,sNone,0,0⟩
abbrev cParens : ByteArray:={ data:=#[40,41] }
abbrev tPlus : ByteArray:={ data:=#[32,43,32] }
abbrev tMinus : ByteArray:={ data:=#[32,45,32] }
abbrev tStar : ByteArray:={ data:=#[32,42,32] }
/-- A side of an expression, in ( ) where it has to be. -/
def zbj (b : Bool) (t : ByteArray) : ByteArray:=if b then zr ++ t ++ zcw else t
/-- An expression's text, with so many steps at hand. -/
def prE (ex : List Ex) : Nat → Nat → ByteArray
 | 0,_ => sNone
 | f + 1,i =>
  let x:=ex.getD i exNo
  if x.kind == 1 then strOfNums (decL x.num)
  else if x.kind == 2 then x.name
  else if x.kind == 3 then x.name ++ cParens
  else if x.kind == 4 then x.name ++ cPoint ++ x.field
  else if x.kind == 5 then x.name ++ cPoint ++ x.field ++ cParens
  else if x.kind == 6 then prE ex f x.l.toNat ++ tPlus ++ zbj (sumK (ex.getD x.r.toNat exNo).kind) (prE ex f x.r.toNat)
  else if x.kind == 7 then prE ex f x.l.toNat ++ tMinus ++ zbj (sumK (ex.getD x.r.toNat exNo).kind) (prE ex f x.r.toNat)
  else if x.kind == 8 then zbj (sumK (ex.getD x.l.toNat exNo).kind) (prE ex f x.l.toNat) ++ tStar ++ zbj (twoK (ex.getD x.r.toNat exNo).kind) (prE ex f x.r.toNat)
  else sNone
def prX (ex : List Ex) (i : Nat) : ByteArray:=prE ex (i + 1) i
/-- Each side is the number of an expression ahead. -/
def zff (ex : List Ex) : Prop:=∀ (i : Nat) (x : Ex),ex[i]? = some x → twoK x.kind = true → 0 ≤ x.l ∧ x.l < (i : Int) ∧ 0 ≤ x.r ∧ x.r < (i : Int)
theorem zej {k : Int} (h : (k == 6) = true ∨ (k == 7) = true ∨ (k == 8) = true) : twoK k = true:=by
 unfold twoK
 rcases h with h | h | h <;> simp [h]
theorem zme {ex : List Ex} (h : zff ex) {i : Nat} (hk : twoK (ex.getD i exNo).kind = true) : 0 ≤ (ex.getD i exNo).l ∧ (ex.getD i exNo).l < (i : Int) ∧ 0 ≤ (ex.getD i exNo).r ∧ (ex.getD i exNo).r < (i : Int):=by
 by_cases hi : i < ex.length
 ·have e : ex.getD i exNo = ex[i]:=by simp [List.getD,List.getElem?_eq_getElem hi]
  rw [e] at hk ⊢
  exact h i _ (List.getElem?_eq_getElem hi) hk
 ·have e : ex.getD i exNo = exNo:=by simp [List.getD,List.getElem?_eq_none (by omega : ex.length ≤ i)]
  rw [e] at hk
  exact absurd hk (by decide)
theorem zqq {ex : List Ex} (h : zff ex) (f : Nat) : ∀ (g i : Nat),i < f → i < g → prE ex f i = prE ex g i:=by
 induction f with
 | zero => intro g i hi; omega
 | succ f ih =>
  intro g i h1 h2
  obtain ⟨g,rfl⟩ : ∃ g',g = g' + 1:=⟨g - 1,by omega⟩
  rw [prE,prE]
  have ha:=fun hk => zme h (i:=i) hk
  generalize ex.getD i exNo = x at ha ⊢
  have hs : ∀ hk : twoK x.kind = true,prE ex f x.l.toNat = prE ex g x.l.toNat ∧ prE ex f x.r.toNat = prE ex g x.r.toNat:=fun hk => by
   have:=ha hk
   exact ⟨ih g _ (by omega) (by omega),ih g _ (by omega) (by omega)⟩
  by_cases k6 : (x.kind == 6) = true
  ·rw [(hs (zej (.inl k6))).1,(hs (zej (.inl k6))).2]
  ·by_cases k7 : (x.kind == 7) = true
   ·rw [(hs (zej (.inr (.inl k7)))).1,(hs (zej (.inr (.inl k7)))).2]
   ·by_cases k8 : (x.kind == 8) = true
    ·rw [(hs (zej (.inr (.inr k8)))).1,(hs (zej (.inr (.inr k8)))).2]
    ·simp only [k6,k7,k8,Bool.false_eq_true,↓reduceIte]
theorem zpt {ex : List Ex} (h : zff ex) (i : Nat) : prX ex i =
  if (ex.getD i exNo).kind == 1 then strOfNums (decL (ex.getD i exNo).num)
  else if (ex.getD i exNo).kind == 2 then (ex.getD i exNo).name
  else if (ex.getD i exNo).kind == 3 then (ex.getD i exNo).name ++ cParens
  else if (ex.getD i exNo).kind == 4 then (ex.getD i exNo).name ++ cPoint ++ (ex.getD i exNo).field
  else if (ex.getD i exNo).kind == 5 then (ex.getD i exNo).name ++ cPoint ++ (ex.getD i exNo).field ++ cParens
  else if (ex.getD i exNo).kind == 6 then prX ex (ex.getD i exNo).l.toNat ++ tPlus ++ zbj (sumK (ex.getD (ex.getD i exNo).r.toNat exNo).kind) (prX ex (ex.getD i exNo).r.toNat)
  else if (ex.getD i exNo).kind == 7 then prX ex (ex.getD i exNo).l.toNat ++ tMinus ++ zbj (sumK (ex.getD (ex.getD i exNo).r.toNat exNo).kind) (prX ex (ex.getD i exNo).r.toNat)
  else if (ex.getD i exNo).kind == 8 then zbj (sumK (ex.getD (ex.getD i exNo).l.toNat exNo).kind) (prX ex (ex.getD i exNo).l.toNat) ++ tStar ++ zbj (twoK (ex.getD (ex.getD i exNo).r.toNat exNo).kind) (prX ex (ex.getD i exNo).r.toNat)
  else sNone:=by
 rw [prX,prE]
 have ha:=fun hk => zme h (i:=i) hk
 generalize ex.getD i exNo = x at ha ⊢
 have hs : ∀ hk : twoK x.kind = true,prE ex i x.l.toNat = prX ex x.l.toNat ∧ prE ex i x.r.toNat = prX ex x.r.toNat:=fun hk => by
  have:=ha hk
  exact ⟨zqq h _ _ _ (by omega) (by omega),zqq h _ _ _ (by omega) (by omega)⟩
 by_cases k6 : (x.kind == 6) = true
 ·rw [(hs (zej (.inl k6))).1,(hs (zej (.inl k6))).2]
 ·by_cases k7 : (x.kind == 7) = true
  ·rw [(hs (zej (.inr (.inl k7)))).1,(hs (zej (.inr (.inl k7)))).2]
  ·by_cases k8 : (x.kind == 8) = true
   ·rw [(hs (zej (.inr (.inr k8)))).1,(hs (zej (.inr (.inr k8)))).2]
   ·simp only [k6,k7,k8,Bool.false_eq_true,↓reduceIte]

/-- How often an expression is a side, or that of a statement. -/
def zcl (ex : List Ex) (k : Int) : Nat:=(ex.map fun x => if twoK x.kind then (if x.l == k then 1 else 0) + (if x.r == k then 1 else 0) else 0).sum
def zdl (st : List Sm) (k : Int) : Nat:=(st.map fun s => if s.expr == k then 1 else 0).sum
/-- Each side ahead, each statement's expression there, each expression used once. -/
structure Tree (m : Md) : Prop where
 ahead : zff m.ex
 stm : ∀ s ∈ m.st,0 ≤ s.expr ∧ s.expr < (m.ex.length : Int)
 once : ∀ k,k < m.ex.length → zcl m.ex (k : Int) + zdl m.st (k : Int) = 1
end Go.Proofs.YtgchhhmfloemlaaGreat
namespace Go.Proofs.YtgchhhmfloemlaaGreat
open Go.RowKit Go.PlainAid

def sm (k : Nat) (f : Nat → Nat) : Nat:=((List.range k).map f).sum
theorem zbjn (f : Nat → Nat) : sm 0 f = 0:=rfl
theorem zif (k : Nat) (f : Nat → Nat) : sm (k + 1) f = sm k f + f k:=by
 unfold sm
 rw [List.range_succ,List.map_append,List.sum_append]
 simp
theorem zup (k : Nat) (f g : Nat → Nat) : sm k (fun j => f j + g j) = sm k f + sm k g:=by
 induction k with
 | zero => rfl
 | succ k ih => rw [zif,zif,zif,ih]; omega
theorem zhy {k : Nat} {f g : Nat → Nat} (h : ∀ j,j < k → f j = g j) : sm k f = sm k g:=by
 induction k with
 | zero => rfl
 | succ k ih => rw [zif,zif,ih fun j hj => h j (by omega),h k (by omega)]
theorem zru (k : Nat) : sm k (fun _ => 0) = 0:=by
 induction k with
 | zero => rfl
 | succ k ih => rw [zif,ih]
theorem zuq (f : Nat → Nat) (k : Nat) (l : Int) (h0 : 0 ≤ l) (h : l < (k : Int)) : sm k (fun j => (if l == (j : Int) then 1 else 0) * f j) = f l.toNat:=by
 induction k with
 | zero => omega
 | succ k ih =>
  rw [zif]
  by_cases e : l = (k : Int)
  ·have e1 : sm k (fun j => (if l == (j : Int) then 1 else 0) * f j) = 0:=(zhy (g:=fun _ => 0) fun j hj => by rw [if_neg (by rw [beq_iff_eq]; omega)]; omega).trans (zru k)
   rw [e1,if_pos (by rw [beq_iff_eq]; exact e),show l.toNat = k from by omega]
   omega
  ·rw [ih (by omega),if_neg (by rw [beq_iff_eq]; exact e)]
   omega
def u1 (x : Ex) (k : Int) : Nat:=if twoK x.kind then (if x.l == k then 1 else 0) + (if x.r == k then 1 else 0) else 0
theorem zqr {ex : List Ex} {i : Nat} (hi : i < ex.length) (k : Int) : zcl (ex.drop i) k = u1 ex[i] k + zcl (ex.drop (i + 1)) k:=by
 rw [List.drop_eq_getElem_cons hi,zcl,List.map_cons,List.sum_cons]
 rfl
theorem zbcv {ex : List Ex} {i : Nat} (hi : ex.length ≤ i) (k : Int) : zcl (ex.drop i) k = 0:=by rw [List.drop_eq_nil_of_le hi]; rfl
/-- No expression up to k uses k. -/
theorem zbah {ex : List Ex} (h : zff ex) (k : Nat) (hk : k < ex.length) : ∀ d j,j + d = k + 1 → zcl (ex.drop j) (k : Int) = zcl (ex.drop (k + 1)) (k : Int):=by
 intro d
 induction d with
 | zero => intro j hj; rw [show j = k + 1 from by omega]
 | succ d ih =>
  intro j hj
  rw [zqr (by omega),ih (j + 1) (by omega)]
  have : u1 ex[j] (k : Int) = 0:=by
   unfold u1
   split
   ·next ht =>
    have:=h j _ (List.getElem?_eq_getElem (by omega)) ht
    rw [if_neg (by rw [beq_iff_eq]; omega),if_neg (by rw [beq_iff_eq]; omega)]
   ·rfl
  omega
def wt (ex : List Ex) (i : Nat) : Nat:=(prX ex i).size
def cost (x : Ex) : Nat:=x.name.size + x.field.size + 40
theorem zla (b : Bool) (t : ByteArray) : (zbj b t).size ≤ t.size + 2:=by
 unfold zbj
 split
 ·rw [ByteArray.size_append,ByteArray.size_append]
  show 1 + t.size + 1 ≤ t.size + 2
  omega
 ·omega
theorem zbfz (n : Int) (h0 : -9223372036854775808 ≤ n) (h1 : n ≤ 9223372036854775807) : (strOfNums (decL n)).size ≤ 21:=by
 rw [strOfNums_size]
 by_cases h : n < 0
 ·rw [zpr h,List.length_cons,zdp]
  have:=(zfi (-n) (by omega) (by omega)).2.1
  omega
 ·rw [zps (by omega),zdp]
  have:=(zfi n (by omega) (by omega)).2.1
  omega
/-- What an expression's text costs beside its sides. -/
theorem zbjo {ex : List Ex} (h : zff ex) (i : Nat) (hn : -9223372036854775808 ≤ (ex.getD i exNo).num ∧ (ex.getD i exNo).num ≤ 9223372036854775807) :
  wt ex i ≤ cost (ex.getD i exNo) + if twoK (ex.getD i exNo).kind then wt ex (ex.getD i exNo).l.toNat + wt ex (ex.getD i exNo).r.toNat else 0:=by
 unfold wt
 rw [zpt h]
 generalize ex.getD i exNo = x at hn ⊢
 unfold cost
 by_cases k1 : (x.kind == 1) = true
 ·rw [if_pos k1]
  have:=zbfz x.num hn.1 hn.2
  omega
 ·rw [if_neg k1]
  by_cases k2 : (x.kind == 2) = true
  ·rw [if_pos k2]; omega
  ·rw [if_neg k2]
   by_cases k3 : (x.kind == 3) = true
   ·rw [if_pos k3,ByteArray.size_append]
    have : cParens.size = 2:=rfl
    omega
   ·rw [if_neg k3]
    by_cases k4 : (x.kind == 4) = true
    ·rw [if_pos k4,ByteArray.size_append,ByteArray.size_append]
     have : cPoint.size = 1:=rfl
     omega
    ·rw [if_neg k4]
     by_cases k5 : (x.kind == 5) = true
     ·rw [if_pos k5,ByteArray.size_append,ByteArray.size_append,ByteArray.size_append]
      have : cPoint.size = 1:=rfl
      have : cParens.size = 2:=rfl
      omega
     ·rw [if_neg k5]
      by_cases k6 : (x.kind == 6) = true
      ·rw [if_pos k6,if_pos (zej (.inl k6)),ByteArray.size_append,ByteArray.size_append]
       have:=zla (sumK (ex.getD x.r.toNat exNo).kind) (prX ex x.r.toNat)
       have : tPlus.size = 3:=rfl
       omega
      ·rw [if_neg k6]
       by_cases k7 : (x.kind == 7) = true
       ·rw [if_pos k7,if_pos (zej (.inr (.inl k7))),ByteArray.size_append,ByteArray.size_append]
        have:=zla (sumK (ex.getD x.r.toNat exNo).kind) (prX ex x.r.toNat)
        have : tMinus.size = 3:=rfl
        omega
       ·rw [if_neg k7]
        by_cases k8 : (x.kind == 8) = true
        ·rw [if_pos k8,if_pos (zej (.inr (.inr k8))),ByteArray.size_append,ByteArray.size_append]
         have:=zla (sumK (ex.getD x.l.toNat exNo).kind) (prX ex x.l.toNat)
         have:=zla (twoK (ex.getD x.r.toNat exNo).kind) (prX ex x.r.toNat)
         have : tStar.size = 3:=rfl
         omega
        ·rw [if_neg k8]
         show 0 ≤ _
         omega
def Nums (ex : List Ex) : Prop:=∀ x ∈ ex,-9223372036854775808 ≤ x.num ∧ x.num ≤ 9223372036854775807
theorem ziw {ex : List Ex} {i : Nat} (hi : i < ex.length) : ex.getD i exNo = ex[i]:=by simp [List.getD,List.getElem?_eq_getElem hi]
/-- All statements' expressions together. -/
theorem zbjp (f : Nat → Nat) (n : Nat) : ∀ st : List Sm,(∀ s ∈ st,0 ≤ s.expr ∧ s.expr < (n : Int)) → (st.map fun s => f s.expr.toNat).sum = sm n (fun j => zdl st (j : Int) * f j):=by
 intro st
 induction st with
 | nil => intro _; show 0 = _; rw [← zru n]; exact zhy fun j _ => by simp [zdl]
 | cons s st ih =>
  intro h
  rw [List.map_cons,List.sum_cons,ih fun x hx => h x (List.mem_cons_of_mem _ hx)]
  have h1:=h s List.mem_cons_self
  rw [← zuq f n s.expr h1.1 h1.2,← zup]
  refine zhy fun j _ => ?_
  simp only [zdl,List.map_cons,List.sum_cons]
  rw [Nat.add_mul]
theorem zbcw {m : Md} (t : Tree m) (hn : Nums m.ex) : ∀ d k,k + d = m.ex.length →
  (m.st.map fun s => wt m.ex s.expr.toNat).sum ≤ sm k (fun j => (zdl m.st (j : Int) + zcl (m.ex.drop k) (j : Int)) * wt m.ex j) + ((m.ex.drop k).map cost).sum:=by
 intro d
 induction d with
 | zero =>
  intro k hk
  have : k = m.ex.length:=by omega
  subst this
  rw [zbjp _ _ _ t.stm]
  refine Nat.le_trans (Nat.le_of_eq ?_) (Nat.le_add_right _ _)
  refine zhy fun j _ => ?_
  rw [zbcv (Nat.le_refl _),Nat.add_zero]
 | succ d ih =>
  intro k hk
  have hlt : k < m.ex.length:=by omega
  refine Nat.le_trans (ih (k + 1) (by omega)) ?_
  have h1 : zdl m.st (k : Int) + zcl (m.ex.drop (k + 1)) (k : Int) = 1:=by
   have:=t.once k hlt
   rw [← zbah t.ahead k hlt (k + 1) 0 (by omega),List.drop_zero]
   omega
  rw [zif,h1,Nat.one_mul,List.drop_eq_getElem_cons hlt,List.map_cons,List.sum_cons]
  have h2:=zbjo t.ahead k (by rw [ziw hlt]; exact hn _ (List.getElem_mem hlt))
  rw [ziw hlt] at h2
  have h3 : sm k (fun j => (zdl m.st (j : Int) + zcl (m.ex.drop k) (j : Int)) * wt m.ex j) = sm k (fun j => (zdl m.st (j : Int) + zcl (m.ex.drop (k + 1)) (j : Int)) * wt m.ex j) + if twoK m.ex[k].kind then wt m.ex m.ex[k].l.toNat + wt m.ex m.ex[k].r.toNat else 0:=by
   have e : ∀ j : Nat,(zdl m.st (j : Int) + zcl (m.ex.drop k) (j : Int)) * wt m.ex j = (zdl m.st (j : Int) + zcl (m.ex.drop (k + 1)) (j : Int)) * wt m.ex j + u1 m.ex[k] (j : Int) * wt m.ex j:=fun j => by
    rw [zqr hlt,← Nat.add_mul]
    congr 1
    omega
   rw [zhy fun j _ => e j,zup]
   congr 1
   split
   ·next ht =>
    have ha:=t.ahead k _ (List.getElem?_eq_getElem hlt) ht
    rw [← zuq (wt m.ex) k _ ha.1 ha.2.1,← zuq (wt m.ex) k _ ha.2.2.1 ha.2.2.2,← zup]
    refine zhy fun j _ => ?_
    rw [u1,if_pos ht,Nat.add_mul]
   ·next ht =>
    rw [← zru k]
    refine zhy fun j _ => ?_
    rw [u1,if_neg ht,Nat.zero_mul]
  have h4 : zcl (m.ex[k] :: m.ex.drop (k + 1)) = zcl (m.ex.drop k):=by rw [← List.drop_eq_getElem_cons hlt]
  rw [h4,h3]
  omega
theorem zbai {m : Md} (t : Tree m) (hn : Nums m.ex) : (m.st.map fun s => wt m.ex s.expr.toNat).sum ≤ (m.ex.map cost).sum:=by
 have:=zbcw t hn m.ex.length 0 (by omega)
 rw [zbjn,Nat.zero_add,List.drop_zero] at this
 exact this
end Go.Proofs.YtgchhhmfloemlaaGreat
