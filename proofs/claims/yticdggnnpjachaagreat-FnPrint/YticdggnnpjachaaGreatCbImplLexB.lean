/-
 What impl.isOneOf,impl.nameEnd,impl.commentEnd,impl.numberToken and impl.quotedToken answer: the walks.
-/
import Derived.Test.YticdggnnpjachaaGreatCbImplLexMath
import Derived.Test.YticdggnnpjachaaGreatCbReadDecImpl
import Derived.Test.YticdggnnpjachaaGreatCbShelf
import Derived.Test.YticdggnnpjachaaGreatCbSpecLex
namespace Go.Proofs.YticdggnnpjachaaGreat
set_option maxHeartbeats 3200000
open Go.RowKit Go.PlainAid
theorem zdK (c:Int) (w:World) (n:0≤c) (q:c≤255):
  Calls Tryz.prog 79 #[.string {data:=#[9,10,13,32]},.int .u8 c] w fun e j=>e= .returned (.bool (zfg c))∧j=w:=by
 have o:Hid (decide (0≤Lib.indexByte [9,10,13,32] c.toNat.toUInt8)=zfg c):=zqG c n q
 go_enter Tryz.func79,Tryz.ntmps79
 go_wp2_with fail
 refine (Tryz.strings_IndexByte _ _ _).mono ?_
 rintro e j ⟨rfl,rfl⟩
 go_wp2
 go_ret
 exact⟨zm o.out,rfl⟩
theorem zke (c:Int) (w:World) (n:0≤c) (q:c≤255):
  Calls Tryz.prog 79 #[.string {data:=#[123,125,40,41,44,59,61,46,42,43,45]},.int .u8 c] w fun e j=>e= .returned (.bool (zfh c))∧j=w:=by
 have o:Hid (decide (0≤Lib.indexByte [123,125,40,41,44,59,61,46,42,43,45] c.toNat.toUInt8)=zfh c):=zqH c n q
 go_enter Tryz.func79,Tryz.ntmps79
 go_wp2_with fail
 refine (Tryz.strings_IndexByte _ _ _).mono ?_
 rintro e j ⟨rfl,rfl⟩
 go_wp2
 go_ret
 exact⟨zm o.out,rfl⟩
theorem zhp (s:ByteArray) (w:World) (h:s.size≤281474976710656):
  Calls Tryz.prog 85 #[.string s] w fun e j=>e= .returned (.string s)∧Below w.heap.size w j:=by
 go_enter Tryz.func85,Tryz.ntmps85
 go_wp2_with fail
 refine (Tryz.stringslite_Clone _ _ h).mono ?_
 rintro e j ⟨rfl,n⟩
 go_wp2
 go_ret
 exact⟨rfl,n⟩
theorem zkf (s:ByteArray) (a:Nat) (o:Bool) (w:World) (M:a≤s.size) (O:s.size≤4294967296):
  Calls Tryz.prog 84 #[.string s,.int .i64 a,.bool o] w fun e K=>∃n:Nat,e= .returned (.int .i64 n)∧zaw (zG o) s a n∧K=w:=by
 have V:=get_bt s
 go_enter Tryz.func84,Tryz.ntmps84
 go_wp2
 go_loop [1] (fun i=>∃k:Nat,a≤k∧k≤s.size∧i= .int .i64 k∧∀j,a≤j→j<k→zG o (bt s j)=true) (fun i=>(s.size-intOf i).toNat)
 case atStart=>exact⟨a,Nat.le_refl _,M,rfl,fun j U Q=>by omega⟩
 case round=>
  obtain⟨k,z,A,rfl,H⟩:=hrel
  have q:Hid (∀j,a≤j→j<k→zG o (bt s j)=true):=H
  clear H
  by_cases I:k<s.size
  ·have E:=bt_nonneg s k
   have D:=bt_le s k
   cases L:zG o (bt s k) with
   |true=>
    have N:Hid (∀j,a≤j→j<k+1→zG o (bt s j)=true):=zeC q.out L
    go_wp2_with (first|(go_at_call 83;refine (zet _ _ _ E D).mono ?_;rintro e K ⟨rfl,rfl⟩))
    go_round
    case rel=>exact⟨k+1,by omega,by omega,by go_num,N.out⟩
    case measure=>simp[intOf];omega
   |false=>
    have J:Hid (zaw (zG o) s a k):=⟨z,A,q.out,fun _=>L⟩
    go_wp2_with (first|(go_at_call 83;refine (zet _ _ _ E D).mono ?_;rintro e K ⟨rfl,rfl⟩))
    go_ret
    exact⟨k,rfl,J.out,rfl⟩
  ·have J:Hid (zaw (zG o) s a k):=⟨z,A,q.out,fun h=>absurd h I⟩
   go_wp2
   go_ret
   exact⟨k,rfl,J.out,rfl⟩
theorem zrd (s:ByteArray) (a:Nat) (w:World) (J:a≤s.size) (M:s.size≤4294967296):
  Calls Tryz.prog 81 #[.string s,.int .i64 a] w fun e z=>∃n:Nat,e= .returned (.int .i64 n)∧zaw zbk s a n∧z=w:=by
 obtain⟨o,j⟩: ∃o,Lib.indexByte (s.extract a s.size).data.toList (10:Int).toNat.toUInt8=o:=⟨_,rfl⟩
 have A:=Lib.indexByte_ge (s.extract a s.size).data.toList (10:Int).toNat.toUInt8
 rw[j] at A
 by_cases D:0≤o
 ·obtain⟨n,E,H,K⟩:=zqI D j
  have I:Hid ((a:Int)+o=n):=E
  have q:Hid (zaw zbk s a n):=H
  have L:(a:Int)+o≤4294967296:=by omega
  clear E H
  go_enter Tryz.func81,Tryz.ntmps81
  go_wp2_with fail
  refine (Tryz.strings_IndexByte _ _ _).mono ?_
  rintro e z ⟨rfl,rfl⟩
  rw[j]
  go_wp2
  go_ret
  exact⟨n,zdM I.out,q.out,rfl⟩
 ·have q:Hid (zaw zbk s a s.size):=zqJ J (by rw[j];exact D)
  go_enter Tryz.func81,Tryz.ntmps81
  go_wp2_with fail
  refine (Tryz.strings_IndexByte _ _ _).mono ?_
  rintro e z ⟨rfl,rfl⟩
  rw[j]
  go_wp2
  go_ret
  exact⟨s.size,rfl,q.out,rfl⟩
def zkg (s:ByteArray) (scr:Bool) (a:Nat) (v:Value) (z:Int):Prop:=
 (∃(t:Tk) (n:Nat),v=tkV t∧z=n∧Tok s scr a t n)∨(z=a∧(∃k x y u,v= .agg #[.int .i64 k,.string x,.int .i64 y,.int .i64 u])∧∀t n,¬Tok s scr a t n)
theorem zre (s:ByteArray) (a:Nat) (j:Bool) (w:World) (J:a<s.size) (O:zF (bt s a)=true) (N:s.size≤4294967296):
  Calls Tryz.prog 86 #[.string s,.int .i64 a,.bool j] w fun e L=>∃v z,e= .returned (.tuple #[v,.int .i64 z])∧zkg s j a v z∧Below w.heap.size w L:=by
 have q:Hid (zF (bt s a)=true):=O
 go_enter Tryz.func86,Tryz.ntmps86
 go_wp2_with fail
 refine (zkf _ _ _ _ (by omega) N).mono ?_
 rintro e L ⟨n,rfl,E,rfl⟩
 have I:Hid (zaw (zG j) s a n):=E
 have Q:a≤n:=E.1
 have H:n≤s.size:=E.2.1
 clear E
 go_wp2_with fail
 refine (zrc _ _ (by rw[zew _ _ _ H];omega)).mono ?_
 rintro e L ⟨rfl,rfl⟩
 by_cases D:RdP (s.extract a n)
 ·rw[zfe D]
  by_cases K:rdV (s.extract a n)≤1000000
  ·have o:Hid (zaP s a j (rdV (s.extract a n)) n):=zqN J q.out I.out D K
   obtain⟨x,A⟩: ∃x,rdV (s.extract a n)=x:=⟨_,rfl⟩
   rw[A] at K o ⊢
   have M:decide (1000000<x)=false:=decide_eq_false (by omega)
   go_wp2
   refine bodyPost_ret (zaA rfl _ _ w.heap.size 111 _ (0,0) _ rfl (heap_alloc_new w _) Tryz.underlying111 rfl (by kernel_rfl)) rfl ?_
   exact⟨_,_,rfl,.inl ⟨⟨2,{data:=#[]},x,a⟩,n,rfl,rfl,.num q.out o.out⟩,(Below.refl _ _).alloc (Nat.le_refl _) _⟩
  ·have o:Hid (∀t e,¬Tok s j a t e):=zgx q.out (zjZ J q.out I.out (.inr (by omega)))
   obtain⟨x,A⟩: ∃x,rdV (s.extract a n)=x:=⟨_,rfl⟩
   rw[A] at K ⊢
   have M:decide (1000000<x)=true:=decide_eq_true (by omega)
   go_wp2
   refine bodyPost_ret (zaA rfl _ _ w.heap.size 111 _ (0,0) _ rfl (heap_alloc_new w _) Tryz.underlying111 rfl (by kernel_rfl)) rfl ?_
   exact⟨_,_,rfl,.inr ⟨rfl,⟨_,_,_,_,rfl⟩,o.out⟩,(Below.refl _ _).alloc (Nat.le_refl _) _⟩
 ·have o:Hid (∀t e,¬Tok s j a t e):=zgx q.out (zjZ J q.out I.out (.inl D))
  rw[zdi D]
  obtain⟨x,A⟩: ∃x,rdV (s.extract a n)=x:=⟨_,rfl⟩
  rw[A]
  go_wp2
  refine bodyPost_ret (zaA rfl _ _ w.heap.size 111 _ (0,0) _ rfl (heap_alloc_new w _) Tryz.underlying111 rfl (by kernel_rfl)) rfl ?_
  exact⟨_,_,rfl,.inr ⟨rfl,⟨_,_,_,_,rfl⟩,o.out⟩,(Below.refl _ _).alloc (Nat.le_refl _) _⟩
theorem zkh (w:World) (o:Obj):(w.alloc o).heap.size=w.heap.size+1:=by show (w.heap.push _).size=_;simp
theorem zrf {w n:World} {z q o A:Value} {e:TypeId} (h:Below (w.alloc (.cells #[z,q,o,A] e)).heap.size (w.alloc (.cells #[z,q,o,A] e)) n):
  n.cell? ⟨w.heap.size,0,none⟩=some z∧n.cell? ⟨w.heap.size,1,none⟩=some q∧n.cell? ⟨w.heap.size,2,none⟩=some o∧n.cell? ⟨w.heap.size,3,none⟩=some A
  ∧n.frozen? ⟨w.heap.size,0,none⟩=false∧n.frozen? ⟨w.heap.size,1,none⟩=false∧n.frozen? ⟨w.heap.size,2,none⟩=false∧n.frozen? ⟨w.heap.size,3,none⟩=false:=by
 have j:w.heap.size<(w.alloc (.cells #[z,q,o,A] e)).heap.size:=by show _<(w.heap.push _).size;simp
 rw[h.cell j,h.cell j,h.cell j,h.cell j,h.frozen j,h.frozen j,h.frozen j,h.frozen j]
 simp
theorem zfO {w:World} {b i:Nat} {j:Array Value} {u:Value} {t:TypeId} (h:w.heap[b]? =some (.cells j t (0,0))):(w.setCell ⟨b,i,none⟩ u).heap[b]? =some (.cells (j.setIfInBounds i u) t (0,0)):=by
 simp only[World.setCell,Array.getElem?_modify]
 rw[if_pos trivial,h]
 rfl
theorem zki {w:World} {b:Nat} {D A z E q n j o:Value} {t:TypeId} (h:w.heap[b]? =some (.cells #[D,A,z,E] t (0,0))):
  ((((w.setCell ⟨b,0,none⟩ q).setCell ⟨b,1,none⟩ n).setCell ⟨b,2,none⟩ j).setCell ⟨b,3,none⟩ o).heap[b]? =some (.cells #[q,n,j,o] t (0,0)):=
 zfO (zfO (zfO (zfO h)))
theorem zrg (s:ByteArray) (a:Nat) (A:Bool) (w:World) (ha:a<s.size) (hd:bt s a=34) (hs:s.size≤4294967296):
  Calls Tryz.prog 87 #[.string s,.int .i64 a] w fun e N=>∃v z,e= .returned (.tuple #[v,.int .i64 z])∧zkg s A a v z∧Below w.heap.size w N:=by
 have Q:Hid (bt s a=34):=hd
 have hb:=get_bt s
 obtain⟨D,L⟩: ∃D,D=a+1:=⟨_,rfl⟩
 have ea:(a:Int)+1=(D:Int):=by omega
 have Y:Hid (D=a+1):=L
 have aa:D≤s.size:=by omega
 clear hd L
 go_enter Tryz.func87,Tryz.ntmps87
 go_wp2
 go_loop [7] (fun i=>∃k:Nat,a<k∧k≤s.size∧i= .int .i64 k∧∀j,a<j→j<k→zbu (bt s j)) (fun i=>(s.size-intOf i).toNat)
 case atStart=>exact⟨D,by omega,by omega,rfl,fun j O Z=>by omega⟩
 case round=>
  obtain⟨k,X,U,rfl,M⟩:=hrel
  have ae:D≤k:=by omega
  have q:Hid (∀j,a<j→j<k→zbu (bt s j)):=M
  clear M
  by_cases ag:k<s.size
  ·have E:=bt_nonneg s k
   have H:=bt_le s k
   cases K:zdH (bt s k) with
   |true=>
    have HX:Hid (∀j,a<j→j<k+1→zbu (bt s j)):=fun j O Z=>by
     by_cases e:j=k
     ·rw[e];exact of_decide_eq_true K
     ·exact q.out j O (by omega)
    go_wp2_with (first|(go_at_call 143;refine (zfM _ _ E H).mono ?_;rintro e N ⟨rfl,rfl⟩))
    go_round
    case rel=>exact⟨k+1,by omega,by omega,by go_num,HX.out⟩
    case measure=>simp[intOf];omega
   |false=>
    have V:Hid (¬zbu (bt s k)):=of_decide_eq_false K
    have q0:((k:Int)==(s.size:Int))=false:=beq_eq_false_iff_ne.2 (by omega)
    by_cases n:bt s k=34
    ·by_cases hl:k≤a+41
     ·have HE:Hid (zbl s a (k+1)):=⟨by omega,by omega,by omega,by rw[Nat.add_sub_cancel];exact n,fun j O Z=>q.out j O (by omega)⟩
      have q1:(bt s k !=34)=false:=by rw[n];rfl
      have q2:decide ((40:Int)<(k:Int)-(D:Int))=false:=decide_eq_false (by omega)
      clear n
      go_wp2_with (first|(go_at_call 85;refine (zhp _ _ (by rw[zew _ _ _ U];omega)).mono ?_;rintro e w1 ⟨rfl,o⟩;have I:=zrf o;obtain⟨ad,ab,ak,ai,af,ah,aj,ac⟩:=I)|(go_at_call 143;refine (zfM _ _ E H).mono ?_;rintro e N ⟨rfl,rfl⟩))
      refine bodyPost_ret (zaA rfl _ _ w.heap.size 111 _ (0,0) _ rfl (zki ((o.block _ (by rw[zkh];omega)).trans (heap_alloc_new w _))) Tryz.underlying111 rfl (by kernel_rfl)) rfl ?_
      exact⟨_,_,rfl,.inl ⟨⟨3,s.extract (a+1) (k+1-1),0,a⟩,k+1,by rw[Y.out];rfl,by omega,.str Q.out HE.out⟩,(((((Below.refl _ _).alloc (Nat.le_refl _) _).trans (o.mono (by rw[zkh];omega))).setCell (Nat.le_refl _) _).setCell (Nat.le_refl _) _).setCell (Nat.le_refl _) _|>.setCell (Nat.le_refl _) _⟩
     ·have J:Hid (∀t e,¬Tok s A a t e):=zfy Q.out (zfw q.out (.inr (by omega)))
      have q1:(bt s k !=34)=false:=by rw[n];rfl
      have q2:decide ((40:Int)<(k:Int)-(D:Int))=true:=decide_eq_true (by omega)
      clear n
      go_wp2_with (first|(go_at_call 143;refine (zfM _ _ E H).mono ?_;rintro e N ⟨rfl,rfl⟩))
      refine bodyPost_ret (zaA rfl _ _ w.heap.size 111 _ (0,0) _ rfl (heap_alloc_new w _) Tryz.underlying111 rfl (by kernel_rfl)) rfl ?_
      exact⟨_,_,rfl,.inr ⟨rfl,⟨_,_,_,_,rfl⟩,J.out⟩,(Below.refl _ _).alloc (Nat.le_refl _) _⟩
    ·have J:Hid (∀t e,¬Tok s A a t e):=zfy Q.out (zfx X q.out n V.out)
     have q1:(bt s k !=34)=true:=bne_iff_ne.2 n
     clear n
     go_wp2_with (first|(go_at_call 143;refine (zfM _ _ E H).mono ?_;rintro e N ⟨rfl,rfl⟩))
     refine bodyPost_ret (zaA rfl _ _ w.heap.size 111 _ (0,0) _ rfl (heap_alloc_new w _) Tryz.underlying111 rfl (by kernel_rfl)) rfl ?_
     exact⟨_,_,rfl,.inr ⟨rfl,⟨_,_,_,_,rfl⟩,J.out⟩,(Below.refl _ _).alloc (Nat.le_refl _) _⟩
  ·have J:Hid (∀t e,¬Tok s A a t e):=zfy Q.out (zfw q.out (.inl (by omega)))
   have q0:((k:Int)==(s.size:Int))=true:=beq_iff_eq.2 (by omega)
   go_wp2
   refine bodyPost_ret (zaA rfl _ _ w.heap.size 111 _ (0,0) _ rfl (heap_alloc_new w _) Tryz.underlying111 rfl (by kernel_rfl)) rfl ?_
   exact⟨_,_,rfl,.inr ⟨rfl,⟨_,_,_,_,rfl⟩,J.out⟩,(Below.refl _ _).alloc (Nat.le_refl _) _⟩
end Go.Proofs.YticdggnnpjachaaGreat