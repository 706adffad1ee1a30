/-
 A program that is small has a text that is small. No program is spoken of.
-/
import Derived.Test.YtgchhhmfloemlaaGreatClLawSzToLawToMod
import Derived.Test.YtgchhhmfloemlaaGreatClTwoModToSameSpec
namespace Go.Proofs.YtgchhhmfloemlaaGreat
open Go.RowKit Go.PlainAid

theorem zjs {α : Type} (f : α → ByteArray) (l : List α) : ∀ t : ByteArray,(acc f l t).size = t.size + (l.map fun x => (f x).size).sum:=by
 induction l with
 | nil => intro t; rfl
 | cons x l ih =>
  intro t
  show (acc f l (t ++ f x)).size = _
  rw [ih,ByteArray.size_append,List.map_cons,List.sum_cons,Nat.add_assoc]
theorem zpa {α : Type} {f c : α → Nat} (l : List α) (h : ∀ x ∈ l,f x ≤ 40 + c x) : (l.map f).sum ≤ 40 * l.length + zx c l:=by
 induction l with
 | nil => exact Nat.le_refl _
 | cons x l ih =>
  have h1:=h x (List.mem_cons_self ..)
  have h2:=ih fun y hy => h y (List.mem_cons_of_mem _ hy)
  unfold zx at *
  rw [List.map_cons,List.sum_cons,List.map_cons,List.sum_cons,List.length_cons]
  omega
theorem zxl {α : Type} {f c g : α → Nat} (l : List α) (h : ∀ x ∈ l,f x ≤ 40 + c x + g x) : (l.map f).sum ≤ 40 * l.length + zx c l + (l.map g).sum:=by
 induction l with
 | nil => exact Nat.le_refl _
 | cons x l ih =>
  have h1:=h x (List.mem_cons_self ..)
  have h2:=ih fun y hy => h y (List.mem_cons_of_mem _ hy)
  unfold zx at *
  rw [List.map_cons,List.sum_cons,List.map_cons,List.sum_cons,List.map_cons,List.sum_cons,List.length_cons]
  omega
theorem zlh {α : Type} {c : α → Nat} {l : List α} {x : α} (h : x ∈ l) : c x ≤ zx c l:=by
 induction l with
 | nil => cases h
 | cons y l ih =>
  unfold zx at *
  rw [List.map_cons,List.sum_cons]
  rcases List.mem_cons.1 h with rfl | h
  ·omega
  ·have:=ih h
   omega
theorem zey (a : Array UInt8) : (⟨a⟩ : ByteArray).size = a.size:=rfl
theorem zgz (s : ByteArray) : (zcd s).size = s.size + 2:=by
 rw [zcd,ByteArray.size_append,ByteArray.size_append,zey]
 show 1 + s.size + 1 = _
 omega
theorem zxm (a b : ByteArray) : (asT a b).size ≤ a.size + b.size + 4:=by
 unfold asT
 split
 ·omega
 ·have z : (({ data:=#[32,97,115,32] } : ByteArray)).size = 4:=rfl
  rw [ByteArray.size_append,ByteArray.size_append,z]
  omega
theorem zbio (s : ByteArray) : (rqT s).size ≤ 40 + zfn s:=by
 rw [rqT,ByteArray.size_append,ByteArray.size_append,zgz,zey,zey]
 show 7 + (s.size + 2) + 2 ≤ 40 + s.size
 omega
theorem zbip (x : Im) : (impT x).size ≤ 40 + zft x:=by
 have ha:=zxm x.first x.loc
 unfold impT zft
 split
 ·simp only [ByteArray.size_append,zgz,zey]
  simp only [List.size_toArray,List.length_cons,List.length_nil]
  omega
 ·split
  ·simp only [ByteArray.size_append,zgz,zey]
   simp only [List.size_toArray,List.length_cons,List.length_nil]
   omega
  ·simp only [ByteArray.size_append,zgz,zey]
   simp only [List.size_toArray,List.length_cons,List.length_nil]
   omega
theorem zbiq (x : Ep) : (epF x).size ≤ 40 + zfu x:=by
 have ha:=zxm x.loc x.name
 unfold epF
 split
 ·exact Nat.zero_le _
 ·unfold expT zfu
  split
  ·simp only [ByteArray.size_append,zgz,zey]
   simp only [List.size_toArray,List.length_cons,List.length_nil]
   omega
  ·split
   ·simp only [ByteArray.size_append,zgz,zey]
    simp only [List.size_toArray,List.length_cons,List.length_nil]
    omega
   ·simp only [ByteArray.size_append,zey]
    simp only [List.size_toArray,List.length_cons,List.length_nil]
    omega
theorem zrq (k : Int) (n e : ByteArray) : (zcv k n e).size ≤ 40 + n.size + e.size:=by
 unfold zcv
 repeat' split
 all_goals
  simp only [ByteArray.size_append,zey]
  simp only [List.size_toArray,List.length_cons,List.length_nil]
  omega
theorem zza (k : Int) (n e : ByteArray) : (zht k n e).size ≤ 40 + n.size + e.size:=by
 unfold zht
 split
 ·simp only [ByteArray.size_append,zey]
  simp only [List.size_toArray,List.length_cons,List.length_nil]
  omega
 ·exact zrq k n e
theorem zbir (l : List Ex) : (l.map cost).sum ≤ 40 * l.length + zx zhf l:=zpa l fun x _ => by unfold cost zhf; omega
theorem zzb (m : Md) : (zgu m).size ≤ 40 * m.rq.length + zx zfn m.rq + (40 * m.im.length + zx zft m.im) + (40 * m.ep.length + zx zfu m.ep):=by
 have h1:=zpa (c:=zfn) m.rq fun x _ => zbio x
 have h2:=zpa (c:=zft) m.im fun x _ => zbip x
 have h3:=zpa (c:=zfu) m.ep fun x _ => zbiq x
 rw [zgu,zjs,zjs,zjs]
 have : sNone.size = 0:=rfl
 omega
theorem zrr {m : Md} (t : Tree m) (hn : Nums m.ex) : (zhl m).size ≤ 40 * zkd m ∧ (zgh m).size ≤ 40 * zkd m:=by
 have h3:=zzb m
 have ht:=zbai t hn
 have hx:=zbir m.ex
 have hS:=zxl (c:=zgp) (g:=fun s => wt m.ex s.expr.toNat) (f:=fun s => (stF m.ex s).size) m.st fun s _ => zrq s.kind s.name _
 have hI:=zxl (c:=zgp) (g:=fun s => wt m.ex s.expr.toNat) (f:=fun s => (stFI m.ex s).size) m.st fun s _ => zza s.kind s.name _
 have hc : zkd m = (m.rq.length + zx zfn m.rq) + (m.im.length + zx zft m.im) + (m.ep.length + zx zfu m.ep) + (m.st.length + zx zgp m.st) + (m.ex.length + zx zhf m.ex):=rfl
 constructor
 ·rw [zhl,zjs]
  omega
 ·rw [zgh,zjs]
  omega
theorem zbis {m : Md} (h : zkd m ≤ 1048576) (hn : Nums m.ex) : Small m:=by
 have hc : zkd m = (m.rq.length + zx zfn m.rq) + (m.im.length + zx zft m.im) + (m.ep.length + zx zfu m.ep) + (m.st.length + zx zgp m.st) + (m.ex.length + zx zhf m.ex):=rfl
 refine ⟨fun x hx => ?_,fun x hx => ?_,fun x hx => ?_,fun x hx => ?_,hn,?_,?_,?_,?_,?_⟩
 ·have e : zfn x = x.size:=rfl
  have:=zlh (c:=zfn) hx
  omega
 ·have:=zlh (c:=zft) hx
  have e : zft x = x.spec.size + x.first.size + x.loc.size:=rfl
  omega
 ·have:=zlh (c:=zfu) hx
  have e : zfu x = x.name.size + x.loc.size + x.spec.size:=rfl
  omega
 ·have:=zlh (c:=zgp) hx
  have e : zgp x = x.name.size:=rfl
  omega
 all_goals omega
end Go.Proofs.YtgchhhmfloemlaaGreat
