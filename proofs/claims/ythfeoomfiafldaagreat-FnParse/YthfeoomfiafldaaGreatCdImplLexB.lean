/-
 What impl.isOneOf,impl.nameEnd,impl.commentEnd,impl.numberToken and impl.quotedToken answer: the walks.
-/
import Derived.Test.YthfeoomfiafldaaGreatCdImplLexMath
import Derived.Test.YthfeoomfiafldaaGreatCdReadDecImpl
import Derived.Test.YthfeoomfiafldaaGreatCdShelf
import Derived.Test.YthfeoomfiafldaaGreatCdSpecLex
namespace Go.Proofs.YthfeoomfiafldaaGreat
set_option maxHeartbeats 3200000
open Go.RowKit Go.PlainAid
theorem zeC (c:Int) (w:World) (D:0≤c) (z:c≤255):
  Calls Tryz.prog 35 #[.string {data:=#[9,10,13,32]},.int .u8 c] w fun e j=>e= .returned (.bool (zgg c))∧j=w:=by
 have o:Hid (decide (0≤Lib.indexByte [9,10,13,32] c.toNat.toUInt8)=zgg c):=ztF c D z
 go_enter Tryz.func35,Tryz.ntmps35
 go_wp2_with fail
 refine (Tryz.strings_IndexByte _ _ _).mono ?_
 rintro e j ⟨rfl,rfl⟩
 go_wp2
 go_ret
 exact⟨zq o.out,rfl⟩
theorem zmt (c:Int) (w:World) (D:0≤c) (z:c≤255):
  Calls Tryz.prog 35 #[.string {data:=#[123,125,40,41,44,59,61,46,42,43,45]},.int .u8 c] w fun e j=>e= .returned (.bool (zgh c))∧j=w:=by
 have o:Hid (decide (0≤Lib.indexByte [123,125,40,41,44,59,61,46,42,43,45] c.toNat.toUInt8)=zgh c):=ztG c D z
 go_enter Tryz.func35,Tryz.ntmps35
 go_wp2_with fail
 refine (Tryz.strings_IndexByte _ _ _).mono ?_
 rintro e j ⟨rfl,rfl⟩
 go_wp2
 go_ret
 exact⟨zq o.out,rfl⟩
theorem zja (s:ByteArray) (w:World) (h:s.size≤281474976710656):
  Calls Tryz.prog 41 #[.string s] w fun e j=>e= .returned (.string s)∧Below w.heap.size w j:=by
 go_enter Tryz.func41,Tryz.ntmps41
 go_wp2_with fail
 refine (Tryz.stringslite_Clone _ _ h).mono ?_
 rintro e j ⟨rfl,o⟩
 go_wp2
 go_ret
 exact⟨rfl,o⟩
theorem zmu (s:ByteArray) (a:Nat) (scr:Bool) (w:World) (N:a≤s.size) (U:s.size≤4294967296):
  Calls Tryz.prog 40 #[.string s,.int .i64 a,.bool scr] w fun e K=>∃n:Nat,e= .returned (.int .i64 n)∧zax (zB scr) s a n∧K=w:=by
 have Q:=get_bt s
 go_enter Tryz.func40,Tryz.ntmps40
 go_wp2
 go_loop [1] (fun i=>∃k:Nat,a≤k∧k≤s.size∧i= .int .i64 k∧∀j,a≤j→j<k→zB scr (bt s j)=true) (fun i=>(s.size-intOf i).toNat)
 case atStart=>exact⟨a,Nat.le_refl _,N,rfl,fun j X V=>by omega⟩
 case round=>
  obtain⟨k,D,H,rfl,I⟩:=hrel
  have o:Hid (∀j,a≤j→j<k→zB scr (bt s j)=true):=I
  clear I
  by_cases L:k<s.size
  ·have E:=bt_nonneg s k
   have z:=bt_le s k
   cases M:zB scr (bt s k) with
   |true=>
    have O:Hid (∀j,a≤j→j<k+1→zB scr (bt s j)=true):=zf8 o.out M
    go_wp2_with (first|(go_at_call 39;refine (zfs _ _ _ E z).mono ?_;rintro e K ⟨rfl,rfl⟩))
    go_round
    case rel=>exact⟨k+1,by omega,by omega,by go_num,O.out⟩
    case measure=>simp[intOf];omega
   |false=>
    have J:Hid (zax (zB scr) s a k):=⟨D,H,o.out,fun _=>M⟩
    go_wp2_with (first|(go_at_call 39;refine (zfs _ _ _ E z).mono ?_;rintro e K ⟨rfl,rfl⟩))
    go_ret
    exact⟨k,rfl,J.out,rfl⟩
  ·have J:Hid (zax (zB scr) s a k):=⟨D,H,o.out,fun h=>absurd h L⟩
   go_wp2
   go_ret
   exact⟨k,rfl,J.out,rfl⟩
theorem zuc (s:ByteArray) (a:Nat) (w:World) (K:a≤s.size) (O:s.size≤4294967296):
  Calls Tryz.prog 37 #[.string s,.int .i64 a] w fun e z=>∃n:Nat,e= .returned (.int .i64 n)∧zax zb7 s a n∧z=w:=by
 obtain⟨o,j⟩: ∃o,Lib.indexByte (s.extract a s.size).data.toList (10:Int).toNat.toUInt8=o:=⟨_,rfl⟩
 have E:=Lib.indexByte_ge (s.extract a s.size).data.toList (10:Int).toNat.toUInt8
 rw[j] at E
 by_cases J:0≤o
 ·obtain⟨n,H,I,M⟩:=ztH J j
  have N:Hid ((a:Int)+o=n):=H
  have D:Hid (zax zb7 s a n):=I
  have L:(a:Int)+o≤4294967296:=by omega
  clear H I
  go_enter Tryz.func37,Tryz.ntmps37
  go_wp2_with fail
  refine (Tryz.strings_IndexByte _ _ _).mono ?_
  rintro e z ⟨rfl,rfl⟩
  rw[j]
  go_wp2
  go_ret
  exact⟨n,zeE N.out,D.out,rfl⟩
 ·have D:Hid (zax zb7 s a s.size):=ztI K (by rw[j];exact J)
  go_enter Tryz.func37,Tryz.ntmps37
  go_wp2_with fail
  refine (Tryz.strings_IndexByte _ _ _).mono ?_
  rintro e z ⟨rfl,rfl⟩
  rw[j]
  go_wp2
  go_ret
  exact⟨s.size,rfl,D.out,rfl⟩
def zmv (s:ByteArray) (scr:Bool) (a:Nat) (v:Value) (z:Int):Prop:=
 (∃(t:Tk) (n:Nat),v=tkV t∧z=n∧Tok s scr a t n)∨(z=a∧(∃k x y u,v= .agg #[.int .i64 k,.string x,.int .i64 y,.int .i64 u])∧∀t n,¬Tok s scr a t n)
theorem zud (s:ByteArray) (a:Nat) (scr:Bool) (w:World) (J:a<s.size) (hd:zG (bt s a)=true) (O:s.size≤4294967296):
  Calls Tryz.prog 42 #[.string s,.int .i64 a,.bool scr] w fun e L=>∃v z,e= .returned (.tuple #[v,.int .i64 z])∧zmv s scr a v z∧Below w.heap.size w L:=by
 have j:Hid (zG (bt s a)=true):=hd
 go_enter Tryz.func42,Tryz.ntmps42
 go_wp2_with fail
 refine (zmu _ _ _ _ (by omega) O).mono ?_
 rintro e L ⟨n,rfl,E,rfl⟩
 have I:Hid (zax (zB scr) s a n):=E
 have Q:a≤n:=E.1
 have M:n≤s.size:=E.2.1
 clear E
 go_wp2_with fail
 refine (zub _ _ (by rw[zfv _ _ _ M];omega)).mono ?_
 rintro e L ⟨rfl,rfl⟩
 by_cases H:RdP (s.extract a n)
 ·rw[zge H]
  by_cases K:rdV (s.extract a n)≤1000000
  ·have o:Hid (zbd s a scr (rdV (s.extract a n)) n):=ztM J j.out I.out H K
   obtain⟨x,D⟩: ∃x,rdV (s.extract a n)=x:=⟨_,rfl⟩
   rw[D] at K o ⊢
   have N:decide (1000000<x)=false:=decide_eq_false (by omega)
   go_wp2
   refine bodyPost_ret (zaK rfl _ _ w.heap.size 40 _ (0,0) _ rfl (heap_alloc_new w _) Tryz.underlying40 rfl (by kernel_rfl)) rfl ?_
   exact⟨_,_,rfl,.inl ⟨⟨2,{data:=#[]},x,a⟩,n,rfl,rfl,.num j.out o.out⟩,(Below.refl _ _).alloc (Nat.le_refl _) _⟩
  ·have o:Hid (∀t e,¬Tok s scr a t e):=zhM j.out (zmo J j.out I.out (.inr (by omega)))
   obtain⟨x,D⟩: ∃x,rdV (s.extract a n)=x:=⟨_,rfl⟩
   rw[D] at K ⊢
   have N:decide (1000000<x)=true:=decide_eq_true (by omega)
   go_wp2
   refine bodyPost_ret (zaK rfl _ _ w.heap.size 40 _ (0,0) _ rfl (heap_alloc_new w _) Tryz.underlying40 rfl (by kernel_rfl)) rfl ?_
   exact⟨_,_,rfl,.inr ⟨rfl,⟨_,_,_,_,rfl⟩,o.out⟩,(Below.refl _ _).alloc (Nat.le_refl _) _⟩
 ·have o:Hid (∀t e,¬Tok s scr a t e):=zhM j.out (zmo J j.out I.out (.inl H))
  rw[zdE H]
  obtain⟨x,D⟩: ∃x,rdV (s.extract a n)=x:=⟨_,rfl⟩
  rw[D]
  go_wp2
  refine bodyPost_ret (zaK rfl _ _ w.heap.size 40 _ (0,0) _ rfl (heap_alloc_new w _) Tryz.underlying40 rfl (by kernel_rfl)) rfl ?_
  exact⟨_,_,rfl,.inr ⟨rfl,⟨_,_,_,_,rfl⟩,o.out⟩,(Below.refl _ _).alloc (Nat.le_refl _) _⟩
theorem zmw (w:World) (o:Obj):(w.alloc o).heap.size=w.heap.size+1:=by show (w.heap.push _).size=_;simp
theorem zue {w o:World} {E D z H:Value} {e:TypeId} (h:Below (w.alloc (.cells #[E,D,z,H] e)).heap.size (w.alloc (.cells #[E,D,z,H] e)) o):
  o.cell? ⟨w.heap.size,0,none⟩=some E∧o.cell? ⟨w.heap.size,1,none⟩=some D∧o.cell? ⟨w.heap.size,2,none⟩=some z∧o.cell? ⟨w.heap.size,3,none⟩=some H
  ∧o.frozen? ⟨w.heap.size,0,none⟩=false∧o.frozen? ⟨w.heap.size,1,none⟩=false∧o.frozen? ⟨w.heap.size,2,none⟩=false∧o.frozen? ⟨w.heap.size,3,none⟩=false:=by
 have j:w.heap.size<(w.alloc (.cells #[E,D,z,H] e)).heap.size:=by show _<(w.heap.push _).size;simp
 rw[h.cell j,h.cell j,h.cell j,h.cell j,h.frozen j,h.frozen j,h.frozen j,h.frozen j]
 simp
theorem zhn {w:World} {b i:Nat} {cs:Array Value} {u:Value} {t:TypeId} (h:w.heap[b]? =some (.cells cs t (0,0))):(w.setCell ⟨b,i,none⟩ u).heap[b]? =some (.cells (cs.setIfInBounds i u) t (0,0)):=by
 simp only[World.setCell,Array.getElem?_modify]
 rw[if_pos trivial,h]
 rfl
theorem zmx {w:World} {b:Nat} {J H E I z o j D:Value} {t:TypeId} (h:w.heap[b]? =some (.cells #[J,H,E,I] t (0,0))):
  ((((w.setCell ⟨b,0,none⟩ z).setCell ⟨b,1,none⟩ o).setCell ⟨b,2,none⟩ j).setCell ⟨b,3,none⟩ D).heap[b]? =some (.cells #[z,o,j,D] t (0,0)):=
 zhn (zhn (zhn (zhn h)))
theorem zuf (s:ByteArray) (a:Nat) (scr:Bool) (w:World) (ha:a<s.size) (hd:bt s a=34) (hs:s.size≤4294967296):
  Calls Tryz.prog 43 #[.string s,.int .i64 a] w fun e L=>∃v z,e= .returned (.tuple #[v,.int .i64 z])∧zmv s scr a v z∧Below w.heap.size w L:=by
 have V:Hid (bt s a=34):=hd
 have hb:=get_bt s
 obtain⟨J,O⟩: ∃J,J=a+1:=⟨_,rfl⟩
 have ea:(a:Int)+1=(J:Int):=by omega
 have Y:Hid (J=a+1):=O
 have ad:J≤s.size:=by omega
 clear hd O
 go_enter Tryz.func43,Tryz.ntmps43
 go_wp2
 go_loop [7] (fun i=>∃k:Nat,a<k∧k≤s.size∧i= .int .i64 k∧∀j,a<j→j<k→zbn (bt s j)) (fun i=>(s.size-intOf i).toNat)
 case atStart=>exact⟨J,by omega,by omega,rfl,fun j U h2=>by omega⟩
 case round=>
  obtain⟨k,aa,Z,rfl,M⟩:=hrel
  have ak:J≤k:=by omega
  have E:Hid (∀j,a<j→j<k→zbn (bt s j)):=M
  clear M
  by_cases af:k<s.size
  ·have H:=bt_nonneg s k
   have I:=bt_le s k
   cases N:ze9 (bt s k) with
   |true=>
    have HX:Hid (∀j,a<j→j<k+1→zbn (bt s j)):=fun j U h2=>by
     by_cases e:j=k
     ·rw[e];exact of_decide_eq_true N
     ·exact E.out j U (by omega)
    go_wp2_with (first|(go_at_call 84;refine (zhl _ _ H I).mono ?_;rintro e L ⟨rfl,rfl⟩))
    go_round
    case rel=>exact⟨k+1,by omega,by omega,by go_num,HX.out⟩
    case measure=>simp[intOf];omega
   |false=>
    have X:Hid (¬zbn (bt s k)):=of_decide_eq_false N
    have q0:((k:Int)==(s.size:Int))=false:=beq_eq_false_iff_ne.2 (by omega)
    by_cases o:bt s k=34
    ·by_cases hl:k≤a+41
     ·have HE:Hid (zb8 s a (k+1)):=⟨by omega,by omega,by omega,by rw[Nat.add_sub_cancel];exact o,fun j U h2=>E.out j U (by omega)⟩
      have q1:(bt s k !=34)=false:=by rw[o];rfl
      have q2:decide ((40:Int)<(k:Int)-(J:Int))=false:=decide_eq_false (by omega)
      clear o
      go_wp2_with (first|(go_at_call 41;refine (zja _ _ (by rw[zfv _ _ _ Z];omega)).mono ?_;rintro e w1 ⟨rfl,D⟩;have K:=zue D;obtain⟨ah,al,ab,ai,ac,ae,ag,aj⟩:=K)|(go_at_call 84;refine (zhl _ _ H I).mono ?_;rintro e L ⟨rfl,rfl⟩))
      refine bodyPost_ret (zaK rfl _ _ w.heap.size 40 _ (0,0) _ rfl (zmx ((D.block _ (by rw[zmw];omega)).trans (heap_alloc_new w _))) Tryz.underlying40 rfl (by kernel_rfl)) rfl ?_
      exact⟨_,_,rfl,.inl ⟨⟨3,s.extract (a+1) (k+1-1),0,a⟩,k+1,by rw[Y.out];rfl,by omega,.str V.out HE.out⟩,(((((Below.refl _ _).alloc (Nat.le_refl _) _).trans (D.mono (by rw[zmw];omega))).setCell (Nat.le_refl _) _).setCell (Nat.le_refl _) _).setCell (Nat.le_refl _) _|>.setCell (Nat.le_refl _) _⟩
     ·have Q:Hid (∀t e,¬Tok s scr a t e):=zg4 V.out (zg2 E.out (.inr (by omega)))
      have q1:(bt s k !=34)=false:=by rw[o];rfl
      have q2:decide ((40:Int)<(k:Int)-(J:Int))=true:=decide_eq_true (by omega)
      clear o
      go_wp2_with (first|(go_at_call 84;refine (zhl _ _ H I).mono ?_;rintro e L ⟨rfl,rfl⟩))
      refine bodyPost_ret (zaK rfl _ _ w.heap.size 40 _ (0,0) _ rfl (heap_alloc_new w _) Tryz.underlying40 rfl (by kernel_rfl)) rfl ?_
      exact⟨_,_,rfl,.inr ⟨rfl,⟨_,_,_,_,rfl⟩,Q.out⟩,(Below.refl _ _).alloc (Nat.le_refl _) _⟩
    ·have Q:Hid (∀t e,¬Tok s scr a t e):=zg4 V.out (zg3 aa E.out o X.out)
     have q1:(bt s k !=34)=true:=bne_iff_ne.2 o
     clear o
     go_wp2_with (first|(go_at_call 84;refine (zhl _ _ H I).mono ?_;rintro e L ⟨rfl,rfl⟩))
     refine bodyPost_ret (zaK rfl _ _ w.heap.size 40 _ (0,0) _ rfl (heap_alloc_new w _) Tryz.underlying40 rfl (by kernel_rfl)) rfl ?_
     exact⟨_,_,rfl,.inr ⟨rfl,⟨_,_,_,_,rfl⟩,Q.out⟩,(Below.refl _ _).alloc (Nat.le_refl _) _⟩
  ·have Q:Hid (∀t e,¬Tok s scr a t e):=zg4 V.out (zg2 E.out (.inl (by omega)))
   have q0:((k:Int)==(s.size:Int))=true:=beq_iff_eq.2 (by omega)
   go_wp2
   refine bodyPost_ret (zaK rfl _ _ w.heap.size 40 _ (0,0) _ rfl (heap_alloc_new w _) Tryz.underlying40 rfl (by kernel_rfl)) rfl ?_
   exact⟨_,_,rfl,.inr ⟨rfl,⟨_,_,_,_,rfl⟩,Q.out⟩,(Below.refl _ _).alloc (Nat.le_refl _) _⟩
end Go.Proofs.YthfeoomfiafldaaGreat