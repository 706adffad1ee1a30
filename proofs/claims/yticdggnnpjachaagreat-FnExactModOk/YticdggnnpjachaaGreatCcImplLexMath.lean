/-
 Plain facts behind impl.Lex: a byte that is one of some,where a comment ends,a beginning of two /,a number's text. No program is spoken of.
-/
import Derived.Test.YticdggnnpjachaaGreatCcImplLexAToReadDecMath
import Derived.Lib.IndexLaws
namespace Go.Proofs.YticdggnnpjachaaGreat
open Go.RowKit Go.PlainAid
theorem znM (s:ByteArray) (k c:Nat) (w:c<256):s.data.toList[k]? =some (UInt8.ofNat c)↔k<s.size∧bt s k=(c:Int):=by
 by_cases j:k<s.size
 ·have n:k<s.data.toList.length:=by rw[Array.length_toList];exact j
  have q:bt s k=((s.data.toList[k]).toNat:Int):=by rw[zcS];simp[List.getD,List.getElem?_eq_getElem n]
  have o:(UInt8.ofNat c).toNat=c:=by rw[UInt8.toNat_ofNat'];omega
  rw[List.getElem?_eq_getElem n,q]
  refine⟨fun h=>⟨j,by simp only[Option.some.injEq] at h;rw[h,o]⟩,fun h=>?_⟩
  have z:=h.2
  have:(s.data.toList[k])=UInt8.ofNat c:=by
   apply UInt8.toNat_inj.1
   rw[o]
   omega
  rw[this]
 ·have n:s.data.toList.length≤k:=by rw[Array.length_toList];exact Nat.le_of_not_lt j
  rw[List.getElem?_eq_none n]
  simp[j]
theorem ze3 (s:ByteArray) (a k c:Nat) (h:c<256):(s.extract a s.size).data.toList[k]? =some (UInt8.ofNat c)↔a+k<s.size∧bt s (a+k)=(c:Int):=by
 rw[Lib.extract_data,←znM _ _ _ h]
 have j:(s.data.toList.drop a).length=s.size-a:=by rw[List.length_drop,Array.length_toList];rfl
 rw[List.take_of_length_le (by omega),List.getElem?_drop]
def ze4 (c:Int):Bool:=decide (zcc c)
def ze5 (c:Int):Bool:=decide (zaS c)
theorem znN (c:Int) (o:0≤c) (j:c≤255):decide (0≤Lib.indexByte [9,10,13,32] c.toNat.toUInt8)=ze4 c:=by
 obtain⟨n,rfl⟩: ∃n:Nat,c=n:=⟨c.toNat,by omega⟩
 have h: ∀n:Fin 256,decide (0≤Lib.indexByte [9,10,13,32] (UInt8.ofNat n.1))=ze4 (n.1:Int):=by decide+kernel
 exact h ⟨n,by omega⟩
theorem znO (c:Int) (o:0≤c) (j:c≤255):decide (0≤Lib.indexByte [123,125,40,41,44,59,61,46,42,43,45] c.toNat.toUInt8)=ze5 c:=by
 obtain⟨n,rfl⟩: ∃n:Nat,c=n:=⟨c.toNat,by omega⟩
 have h: ∀n:Fin 256,decide (0≤Lib.indexByte [123,125,40,41,44,59,61,46,42,43,45] (UInt8.ofNat n.1))=ze5 (n.1:Int):=by decide+kernel
 exact h ⟨n,by omega⟩
theorem znP {s:ByteArray} {a:Nat} {o:Int} (H:0≤o) (h:Lib.indexByte (s.extract a s.size).data.toList (10:Int).toNat.toUInt8=o): ∃e:Nat,(a:Int)+o=(e:Int)∧zau zbb s a e∧e<s.size:=by
 obtain⟨n,rfl⟩: ∃n:Nat,o=n:=⟨o.toNat,by omega⟩
 obtain⟨A,D⟩:=Lib.indexByte_some h
 have q:=(ze3 s a n 10 (by decide)).1 A
 refine⟨a+n,by omega,⟨by omega,by omega,fun j z E=>decide_eq_true fun w=>?_,fun _=>by rw[zbb,q.2];rfl⟩,q.1⟩
 apply D (j-a) (by omega)
 have:=(ze3 s a (j-a) 10 (by decide)).2 (by rw[show a+(j-a)=j from by omega];exact⟨by omega,w⟩)
 exact this
theorem znQ {s:ByteArray} {a:Nat} (q:a≤s.size) (h: ¬0≤Lib.indexByte (s.extract a s.size).data.toList (10:Int).toNat.toUInt8):zau zbb s a s.size:=by
 have n:=Lib.indexByte_ge (s.extract a s.size).data.toList (10:Int).toNat.toUInt8
 have z:Lib.indexByte (s.extract a s.size).data.toList (10:Int).toNat.toUInt8= -1:=by omega
 refine⟨q,Nat.le_refl _,fun j w A=>decide_eq_true fun o=>?_,fun h=>absurd h (Nat.lt_irrefl _)⟩
 apply Lib.indexByte_none z (j-a)
 have:=(ze3 s a (j-a) 10 (by decide)).2 (by rw[show a+(j-a)=j from by omega];exact⟨by omega,o⟩)
 exact this
theorem znR {s:ByteArray} {a c:Nat} (n:a<s.size) (j:zbM s a) (h:zau zbb s a c):a<c:=by
 rcases Nat.lt_or_ge a c with k|k
 ·exact k
 ·have o:c=a:=by have:=h.1;omega
  subst o
  have:=h.2.2.2 n
  rw[zbb,j.1] at this
  simp at this
theorem znS (l:List UInt8) (x y:UInt8):[x,y].isPrefixOf l=true↔l[0]? =some x∧l[1]? =some y:=by
 match l with
 |[]=>simp
 |[p]=>simp
 |p::q::r=>
  simp
  exact⟨fun h=>⟨h.1.symm,h.2.symm⟩,fun h=>⟨h.1.symm,h.2.symm⟩⟩
def zft (s:ByteArray) (a:Nat):Bool:=decide (zbM s a)
theorem znT (s:ByteArray) (a:Nat):Lib.hasPrefix (s.extract a s.size).data.toList [47,47]=zft s a:=by
 rw[Bool.eq_iff_iff,Lib.hasPrefix,znS,zft,decide_eq_true_eq]
 have j:=ze3 s a 0 47 (by decide)
 have o:=ze3 s a 1 47 (by decide)
 rw[Nat.add_zero] at j
 constructor
 ·rintro⟨n,h⟩
  exact⟨(j.1 n).2,(o.1 h).1,(o.1 h).2⟩
 ·rintro⟨n,h,q⟩
  exact⟨j.2 ⟨by omega,n⟩,o.2 ⟨h,q⟩⟩
theorem zdW (s:ByteArray) (a e k:Nat) (_:e≤s.size) (j:a+k<e):bt (s.extract a e) k=bt s (a+k):=by
 rw[zcS,zcS,Lib.extract_data]
 have h:s.data.toList.length=s.size:=Array.length_toList
 simp only[List.getD,List.getElem?_map]
 rw[List.getElem?_take,if_pos (by omega),List.getElem?_drop]
theorem zdX (s:ByteArray) (a e:Nat) (h:e≤s.size):(s.extract a e).size=e-a:=by rw[ByteArray.size_extract];omega
theorem ziF (s:ByteArray) (a e:Nat) (j:e≤s.size) (k:Nat) (n:a+k≤e):dv (s.extract a e) 0 k=zbo s a k:=by
 induction k with
 |zero=>rfl
 |succ k h=>rw[dv,zbo,h (by omega),Nat.zero_add,zdW s a e k j (by omega)]
theorem ziG {s:ByteArray} {a e:Nat} (j:e≤s.size) (n:a<e) (h:zD (bt s a)=true):pfx (s.extract a e)=0:=by
 unfold pfx
 rw[zdW s a e 0 j (by omega),Nat.add_zero,if_neg]
 rw[zck] at h
 omega
theorem ziH {s:ByteArray} {a e:Nat} {h:Bool} (o:a<s.size) (n:zD (bt s a)=true) (j:zau (zE h) s a e):a<e:=by
 rcases Nat.lt_or_ge a e with k|k
 ·exact k
 ·have q:e=a:=by have:=j.1;omega
  subst q
  have:=j.2.2.2 o
  simp[zE,n] at this
theorem znU {s:ByteArray} {a e:Nat} {o:Bool} (N:a<s.size) (L:zD (bt s a)=true) (A:zau (zE o) s a e) (h:RdP (s.extract a e)) (O:rdV (s.extract a e)≤1000000):zaJ s a o (rdV (s.extract a e)) e:=by
 have z:=ziH N L A
 have q:=A.2.1
 have w:=ziG q z L
 have H:=zdX s a e q
 obtain⟨J,K,E,I⟩:=h
 rw[w] at J K E I
 have M: ∀j,j<e-a→zdu (bt s (a+j)):=fun j U=>by
  have:=E j (by omega)
  rw[Nat.zero_add,zdW s a e j q (by omega)] at this
  exact this
 have n:e<s.size→zE o (bt s e)=false:=A.2.2.2
 refine⟨⟨A.1,q,fun j J K=>?_,fun h=>?_⟩,z,?_,?_,O,fun h=>?_⟩
 ·have:=M (j-a) (by omega)
  rw[show a+(j-a)=j from by omega] at this
  exact zck.2 this
 ·have:=n h
  simp[zE] at this
  exact this.2
 ·rcases I with g|g
  ·rw[zdW s a e 0 q (by omega),Nat.add_zero] at g
   exact .inr g
  ·left;have:=g.2;omega
 ·have D:zdV (s.extract a e)=true:=ze2 ⟨by rw[w];exact J,by rw[w];exact K,by rw[w];exact E,by rw[w];exact I⟩
  rw[rdV,if_pos D,if_neg (by rw[w];decide),H,ziF s a e q _ (by omega)]
 ·have:=n h
  simp[zE] at this
  exact this.1
theorem znV {s:ByteArray} {a e:Nat} {o:Bool} {n:Int} (h:zaJ s a o n e):zau (zE o) s a e:=
 ⟨h.1.1,h.1.2.1,fun j q w=>by simp[zE,h.1.2.2.1 j q w],fun k=>by simp[zE,h.1.2.2.2 k,h.2.2.2.2.2 k]⟩
theorem znW {s:ByteArray} {a:Nat} (o:49≤bt s a) (h: ∀j,j<8→48≤bt s (a+j)):10000000≤zbo s a 8:=by
 have E:=h 1 (by omega)
 have q:=h 2 (by omega)
 have D:=h 3 (by omega)
 have z:=h 4 (by omega)
 have w:=h 5 (by omega)
 have A:=h 6 (by omega)
 have n:=h 7 (by omega)
 simp only[zbo,Nat.add_zero]
 omega
theorem ziI {s:ByteArray} {a e:Nat} {H:Bool} (V:a<s.size) (L:zD (bt s a)=true) (J:zau (zE H) s a e) (h: ¬RdP (s.extract a e)∨1000000<rdV (s.extract a e)): ∀n o,¬zaJ s a H n o:=by
 intro n o O
 obtain rfl:=zec (znV O) J
 have K:=ziH V L J
 have E:=J.2.1
 have N:=ziG E K L
 have D:=zdX s a o E
 obtain⟨⟨_,_,q,_⟩,_,M,hv,Z,_⟩:=O
 have A:RdP (s.extract a o):=by
  unfold RdP
  rw[N,D]
  refine⟨by omega,?_,fun j U=>?_,?_⟩
  ·rcases Nat.lt_or_ge 9 (o-a) with g|g
   ·exfalso
    have w: ∀j,j<o-a→48≤bt s (a+j):=fun j U=>(zck.1 (q (a+j) (by omega) (by omega))).1
    have I:49≤bt s a:=by
     have:=w 0 (by omega)
     rw[Nat.add_zero] at this
     rcases M with z|z
     ·omega
     ·omega
    have Y:=znW I (fun j U=>w j (by omega))
    have X:=(zgD 8 (o-a) w (by omega)).2
    omega
   ·omega
  ·rw[Nat.zero_add,zdW s a o j E (by omega)]
   exact zck.1 (q (a+j) (by omega) (by omega))
  ·rw[zdW s a o 0 E (by omega),Nat.add_zero]
   rcases M with z|z
   ·right;exact⟨rfl,by omega⟩
   ·exact .inl z
 rcases h with h|h
 ·exact h A
 ·rw[rdV,if_pos (ze2 A),if_neg (by rw[N];decide),D,ziF s a o E _ (by omega)] at h
  omega
end Go.Proofs.YticdggnnpjachaaGreat