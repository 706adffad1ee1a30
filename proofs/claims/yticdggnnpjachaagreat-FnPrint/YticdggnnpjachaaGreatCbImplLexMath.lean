/-
 Plain facts behind impl.Lex: a byte that is one of some,where a comment ends,a beginning of two /,a number's text. No program is spoken of.
-/
import Derived.Test.YticdggnnpjachaaGreatCbImplLexAToReadDecMath
import Derived.Lib.IndexLaws
namespace Go.Proofs.YticdggnnpjachaaGreat
open Go.RowKit Go.PlainAid
theorem zqF (s:ByteArray) (k c:Nat) (z:c<256):s.data.toList[k]? =some (UInt8.ofNat c)↔k<s.size∧bt s k=(c:Int):=by
 by_cases j:k<s.size
 ·have n:k<s.data.toList.length:=by rw[Array.length_toList];exact j
  have q:bt s k=((s.data.toList[k]).toNat:Int):=by rw[zdk];simp[List.getD,List.getElem?_eq_getElem n]
  have o:(UInt8.ofNat c).toNat=c:=by rw[UInt8.toNat_ofNat'];omega
  rw[List.getElem?_eq_getElem n,q]
  refine⟨fun h=>⟨j,by simp only[Option.some.injEq] at h;rw[h,o]⟩,fun h=>?_⟩
  have A:=h.2
  have:(s.data.toList[k])=UInt8.ofNat c:=by
   apply UInt8.toNat_inj.1
   rw[o]
   omega
  rw[this]
 ·have n:s.data.toList.length≤k:=by rw[Array.length_toList];exact Nat.le_of_not_lt j
  rw[List.getElem?_eq_none n]
  simp[j]
theorem zff (s:ByteArray) (a k c:Nat) (j:c<256):(s.extract a s.size).data.toList[k]? =some (UInt8.ofNat c)↔a+k<s.size∧bt s (a+k)=(c:Int):=by
 rw[Lib.extract_data,←zqF _ _ _ j]
 have n:(s.data.toList.drop a).length=s.size-a:=by rw[List.length_drop,Array.length_toList];rfl
 rw[List.take_of_length_le (by omega),List.getElem?_drop]
def zfg (c:Int):Bool:=decide (zcg c)
def zfh (c:Int):Bool:=decide (zba c)
theorem zqG (c:Int) (o:0≤c) (q:c≤255):decide (0≤Lib.indexByte [9,10,13,32] c.toNat.toUInt8)=zfg c:=by
 obtain⟨n,rfl⟩: ∃n:Nat,c=n:=⟨c.toNat,by omega⟩
 have j: ∀n:Fin 256,decide (0≤Lib.indexByte [9,10,13,32] (UInt8.ofNat n.1))=zfg (n.1:Int):=by decide+kernel
 exact j ⟨n,by omega⟩
theorem zqH (c:Int) (o:0≤c) (q:c≤255):decide (0≤Lib.indexByte [123,125,40,41,44,59,61,46,42,43,45] c.toNat.toUInt8)=zfh c:=by
 obtain⟨n,rfl⟩: ∃n:Nat,c=n:=⟨c.toNat,by omega⟩
 have j: ∀n:Fin 256,decide (0≤Lib.indexByte [123,125,40,41,44,59,61,46,42,43,45] (UInt8.ofNat n.1))=zfh (n.1:Int):=by decide+kernel
 exact j ⟨n,by omega⟩
theorem zqI {s:ByteArray} {a:Nat} {o:Int} (I:0≤o) (h:Lib.indexByte (s.extract a s.size).data.toList (10:Int).toNat.toUInt8=o): ∃e:Nat,(a:Int)+o=(e:Int)∧zaw zbk s a e∧e<s.size:=by
 obtain⟨n,rfl⟩: ∃n:Nat,o=n:=⟨o.toNat,by omega⟩
 obtain⟨D,A⟩:=Lib.indexByte_some h
 have q:=(zff s a n 10 (by decide)).1 D
 refine⟨a+n,by omega,⟨by omega,by omega,fun j z E=>decide_eq_true fun H=>?_,fun _=>by rw[zbk,q.2];rfl⟩,q.1⟩
 apply A (j-a) (by omega)
 have:=(zff s a (j-a) 10 (by decide)).2 (by rw[show a+(j-a)=j from by omega];exact⟨by omega,H⟩)
 exact this
theorem zqJ {s:ByteArray} {a:Nat} (q:a≤s.size) (h: ¬0≤Lib.indexByte (s.extract a s.size).data.toList (10:Int).toNat.toUInt8):zaw zbk s a s.size:=by
 have o:=Lib.indexByte_ge (s.extract a s.size).data.toList (10:Int).toNat.toUInt8
 have z:Lib.indexByte (s.extract a s.size).data.toList (10:Int).toNat.toUInt8= -1:=by omega
 refine⟨q,Nat.le_refl _,fun j n A=>decide_eq_true fun D=>?_,fun h=>absurd h (Nat.lt_irrefl _)⟩
 apply Lib.indexByte_none z (j-a)
 have:=(zff s a (j-a) 10 (by decide)).2 (by rw[show a+(j-a)=j from by omega];exact⟨by omega,D⟩)
 exact this
theorem zqK {s:ByteArray} {a c:Nat} (n:a<s.size) (o:zbT s a) (h:zaw zbk s a c):a<c:=by
 rcases Nat.lt_or_ge a c with k|k
 ·exact k
 ·have j:c=a:=by have:=h.1;omega
  subst j
  have:=h.2.2.2 n
  rw[zbk,o.1] at this
  simp at this
theorem zqL (l:List UInt8) (x y:UInt8):[x,y].isPrefixOf l=true↔l[0]? =some x∧l[1]? =some y:=by
 match l with
 |[]=>simp
 |[p]=>simp
 |p::q::r=>
  simp
  exact⟨fun h=>⟨h.1.symm,h.2.symm⟩,fun h=>⟨h.1.symm,h.2.symm⟩⟩
def zfN (s:ByteArray) (a:Nat):Bool:=decide (zbT s a)
theorem zqM (s:ByteArray) (a:Nat):Lib.hasPrefix (s.extract a s.size).data.toList [47,47]=zfN s a:=by
 rw[Bool.eq_iff_iff,Lib.hasPrefix,zqL,zfN,decide_eq_true_eq]
 have o:=zff s a 0 47 (by decide)
 have q:=zff s a 1 47 (by decide)
 rw[Nat.add_zero] at o
 constructor
 ·rintro⟨n,j⟩
  exact⟨(o.1 n).2,(q.1 j).1,(q.1 j).2⟩
 ·rintro⟨n,j,z⟩
  exact⟨o.2 ⟨by omega,n⟩,q.2 ⟨j,z⟩⟩
theorem zev (s:ByteArray) (a e k:Nat) (_:e≤s.size) (n:a+k<e):bt (s.extract a e) k=bt s (a+k):=by
 rw[zdk,zdk,Lib.extract_data]
 have j:s.data.toList.length=s.size:=Array.length_toList
 simp only[List.getD,List.getElem?_map]
 rw[List.getElem?_take,if_pos (by omega),List.getElem?_drop]
theorem zew (s:ByteArray) (a e:Nat) (j:e≤s.size):(s.extract a e).size=e-a:=by rw[ByteArray.size_extract];omega
theorem zjW (s:ByteArray) (a e:Nat) (j:e≤s.size) (k:Nat) (o:a+k≤e):dv (s.extract a e) 0 k=zbv s a k:=by
 induction k with
 |zero=>rfl
 |succ k n=>rw[dv,zbv,n (by omega),Nat.zero_add,zev s a e k j (by omega)]
theorem zjX {s:ByteArray} {a e:Nat} (n:e≤s.size) (o:a<e) (j:zF (bt s a)=true):pfx (s.extract a e)=0:=by
 unfold pfx
 rw[zev s a e 0 n (by omega),Nat.add_zero,if_neg]
 rw[zch] at j
 omega
theorem zjY {s:ByteArray} {a e:Nat} {j:Bool} (o:a<s.size) (q:zF (bt s a)=true) (n:zaw (zG j) s a e):a<e:=by
 rcases Nat.lt_or_ge a e with k|k
 ·exact k
 ·have z:e=a:=by have:=n.1;omega
  subst z
  have:=n.2.2.2 o
  simp[zG,q] at this
theorem zqN {s:ByteArray} {a e:Nat} {o:Bool} (N:a<s.size) (M:zF (bt s a)=true) (D:zaw (zG o) s a e) (h:RdP (s.extract a e)) (Q:rdV (s.extract a e)≤1000000):zaP s a o (rdV (s.extract a e)) e:=by
 have A:=zjY N M D
 have q:=D.2.1
 have z:=zjX q A M
 have L:=zew s a e q
 obtain⟨K,I,E,J⟩:=h
 rw[z] at K I E J
 have O: ∀j,j<e-a→zdI (bt s (a+j)):=fun j U=>by
  have:=E j (by omega)
  rw[Nat.zero_add,zev s a e j q (by omega)] at this
  exact this
 have n:e<s.size→zG o (bt s e)=false:=D.2.2.2
 refine⟨⟨D.1,q,fun j K I=>?_,fun h=>?_⟩,A,?_,?_,Q,fun h=>?_⟩
 ·have:=O (j-a) (by omega)
  rw[show a+(j-a)=j from by omega] at this
  exact zch.2 this
 ·have:=n h
  simp[zG] at this
  exact this.2
 ·rcases J with g|g
  ·rw[zev s a e 0 q (by omega),Nat.add_zero] at g
   exact .inr g
  ·left;have:=g.2;omega
 ·have H:zeu (s.extract a e)=true:=zfe ⟨by rw[z];exact K,by rw[z];exact I,by rw[z];exact E,by rw[z];exact J⟩
  rw[rdV,if_pos H,if_neg (by rw[z];decide),L,zjW s a e q _ (by omega)]
 ·have:=n h
  simp[zG] at this
  exact this.1
theorem zqO {s:ByteArray} {a e:Nat} {o:Bool} {n:Int} (h:zaP s a o n e):zaw (zG o) s a e:=
 ⟨h.1.1,h.1.2.1,fun j z q=>by simp[zG,h.1.2.2.1 j z q],fun k=>by simp[zG,h.1.2.2.2 k,h.2.2.2.2.2 k]⟩
theorem zqP {s:ByteArray} {a:Nat} (q:49≤bt s a) (n: ∀j,j<8→48≤bt s (a+j)):10000000≤zbv s a 8:=by
 have z:=n 1 (by omega)
 have H:=n 2 (by omega)
 have I:=n 3 (by omega)
 have E:=n 4 (by omega)
 have o:=n 5 (by omega)
 have D:=n 6 (by omega)
 have A:=n 7 (by omega)
 simp only[zbv,Nat.add_zero]
 omega
theorem zjZ {s:ByteArray} {a e:Nat} {D:Bool} (X:a<s.size) (N:zF (bt s a)=true) (L:zaw (zG D) s a e) (h: ¬RdP (s.extract a e)∨1000000<rdV (s.extract a e)): ∀n o,¬zaP s a D n o:=by
 intro n o M
 obtain rfl:=ze0 (zqO M) L
 have J:=zjY X N L
 have E:=L.2.1
 have U:=zjX E J N
 have I:=zew s a o E
 obtain⟨⟨_,_,q,_⟩,_,Q,hv,Y,_⟩:=M
 have H:RdP (s.extract a o):=by
  unfold RdP
  rw[U,I]
  refine⟨by omega,?_,fun j O=>?_,?_⟩
  ·rcases Nat.lt_or_ge 9 (o-a) with g|g
   ·exfalso
    have A: ∀j,j<o-a→48≤bt s (a+j):=fun j O=>(zch.1 (q (a+j) (by omega) (by omega))).1
    have K:49≤bt s a:=by
     have:=A 0 (by omega)
     rw[Nat.add_zero] at this
     rcases Q with z|z
     ·omega
     ·omega
    have Z:=zqP K (fun j O=>A j (by omega))
    have V:=(zgf 8 (o-a) A (by omega)).2
    omega
   ·omega
  ·rw[Nat.zero_add,zev s a o j E (by omega)]
   exact zch.1 (q (a+j) (by omega) (by omega))
  ·rw[zev s a o 0 E (by omega),Nat.add_zero]
   rcases Q with z|z
   ·right;exact⟨rfl,by omega⟩
   ·exact .inl z
 rcases h with h|h
 ·exact h H
 ·rw[rdV,if_pos (zfe H),if_neg (by rw[U];decide),I,zjW s a o E _ (by omega)] at h
  omega
end Go.Proofs.YticdggnnpjachaaGreat