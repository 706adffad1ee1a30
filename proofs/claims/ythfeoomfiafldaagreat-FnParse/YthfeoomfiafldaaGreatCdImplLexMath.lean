/-
 Plain facts behind impl.Lex: a byte that is one of some,where a comment ends,a beginning of two /,a number's text. No program is spoken of.
-/
import Derived.Test.YthfeoomfiafldaaGreatCdImplLexAToReadDecMath
import Derived.Lib.IndexLaws
namespace Go.Proofs.YthfeoomfiafldaaGreat
open Go.RowKit Go.PlainAid
theorem ztE (s:ByteArray) (k c:Nat) (E:c<256):s.data.toList[k]? =some (UInt8.ofNat c)↔k<s.size∧bt s k=(c:Int):=by
 by_cases j:k<s.size
 ·have o:k<s.data.toList.length:=by rw[Array.length_toList];exact j
  have D:bt s k=((s.data.toList[k]).toNat:Int):=by rw[zdr];simp[List.getD,List.getElem?_eq_getElem o]
  have z:(UInt8.ofNat c).toNat=c:=by rw[UInt8.toNat_ofNat'];omega
  rw[List.getElem?_eq_getElem o,D]
  refine⟨fun h=>⟨j,by simp only[Option.some.injEq] at h;rw[h,z]⟩,fun h=>?_⟩
  have H:=h.2
  have:(s.data.toList[k])=UInt8.ofNat c:=by
   apply UInt8.toNat_inj.1
   rw[z]
   omega
  rw[this]
 ·have o:s.data.toList.length≤k:=by rw[Array.length_toList];exact Nat.le_of_not_lt j
  rw[List.getElem?_eq_none o]
  simp[j]
theorem zgf (s:ByteArray) (a k c:Nat) (j:c<256):(s.extract a s.size).data.toList[k]? =some (UInt8.ofNat c)↔a+k<s.size∧bt s (a+k)=(c:Int):=by
 rw[Lib.extract_data,←ztE _ _ _ j]
 have o:(s.data.toList.drop a).length=s.size-a:=by rw[List.length_drop,Array.length_toList];rfl
 rw[List.take_of_length_le (by omega),List.getElem?_drop]
def zgg (c:Int):Bool:=decide (zbQ c)
def zgh (c:Int):Bool:=decide (zaM c)
theorem ztF (c:Int) (o:0≤c) (z:c≤255):decide (0≤Lib.indexByte [9,10,13,32] c.toNat.toUInt8)=zgg c:=by
 obtain⟨n,rfl⟩: ∃n:Nat,c=n:=⟨c.toNat,by omega⟩
 have j: ∀n:Fin 256,decide (0≤Lib.indexByte [9,10,13,32] (UInt8.ofNat n.1))=zgg (n.1:Int):=by decide+kernel
 exact j ⟨n,by omega⟩
theorem ztG (c:Int) (o:0≤c) (z:c≤255):decide (0≤Lib.indexByte [123,125,40,41,44,59,61,46,42,43,45] c.toNat.toUInt8)=zgh c:=by
 obtain⟨n,rfl⟩: ∃n:Nat,c=n:=⟨c.toNat,by omega⟩
 have j: ∀n:Fin 256,decide (0≤Lib.indexByte [123,125,40,41,44,59,61,46,42,43,45] (UInt8.ofNat n.1))=zgh (n.1:Int):=by decide+kernel
 exact j ⟨n,by omega⟩
theorem ztH {s:ByteArray} {a:Nat} {o:Int} (K:0≤o) (h:Lib.indexByte (s.extract a s.size).data.toList (10:Int).toNat.toUInt8=o): ∃e:Nat,(a:Int)+o=(e:Int)∧zax zb7 s a e∧e<s.size:=by
 obtain⟨n,rfl⟩: ∃n:Nat,o=n:=⟨o.toNat,by omega⟩
 obtain⟨J,I⟩:=Lib.indexByte_some h
 have z:=(zgf s a n 10 (by decide)).1 J
 refine⟨a+n,by omega,⟨by omega,by omega,fun j E D=>decide_eq_true fun H=>?_,fun _=>by rw[zb7,z.2];rfl⟩,z.1⟩
 apply I (j-a) (by omega)
 have:=(zgf s a (j-a) 10 (by decide)).2 (by rw[show a+(j-a)=j from by omega];exact⟨by omega,H⟩)
 exact this
theorem ztI {s:ByteArray} {a:Nat} (o:a≤s.size) (h: ¬0≤Lib.indexByte (s.extract a s.size).data.toList (10:Int).toNat.toUInt8):zax zb7 s a s.size:=by
 have I:=Lib.indexByte_ge (s.extract a s.size).data.toList (10:Int).toNat.toUInt8
 have H:Lib.indexByte (s.extract a s.size).data.toList (10:Int).toNat.toUInt8= -1:=by omega
 refine⟨o,Nat.le_refl _,fun j D z=>decide_eq_true fun E=>?_,fun h=>absurd h (Nat.lt_irrefl _)⟩
 apply Lib.indexByte_none H (j-a)
 have:=(zgf s a (j-a) 10 (by decide)).2 (by rw[show a+(j-a)=j from by omega];exact⟨by omega,E⟩)
 exact this
theorem ztJ {s:ByteArray} {a c:Nat} (z:a<s.size) (j:zck s a) (h:zax zb7 s a c):a<c:=by
 rcases Nat.lt_or_ge a c with k|k
 ·exact k
 ·have o:c=a:=by have:=h.1;omega
  subst o
  have:=h.2.2.2 z
  rw[zb7,j.1] at this
  simp at this
theorem ztK (l:List UInt8) (x y:UInt8):[x,y].isPrefixOf l=true↔l[0]? =some x∧l[1]? =some y:=by
 match l with
 |[]=>simp
 |[p]=>simp
 |p::q::r=>
  simp
  exact⟨fun h=>⟨h.1.symm,h.2.symm⟩,fun h=>⟨h.1.symm,h.2.symm⟩⟩
def zhm (s:ByteArray) (a:Nat):Bool:=decide (zck s a)
theorem ztL (s:ByteArray) (a:Nat):Lib.hasPrefix (s.extract a s.size).data.toList [47,47]=zhm s a:=by
 rw[Bool.eq_iff_iff,Lib.hasPrefix,ztK,zhm,decide_eq_true_eq]
 have D:=zgf s a 0 47 (by decide)
 have z:=zgf s a 1 47 (by decide)
 rw[Nat.add_zero] at D
 constructor
 ·rintro⟨o,j⟩
  exact⟨(D.1 o).2,(z.1 j).1,(z.1 j).2⟩
 ·rintro⟨o,j,E⟩
  exact⟨D.2 ⟨by omega,o⟩,z.2 ⟨j,E⟩⟩
theorem zfu (s:ByteArray) (a e k:Nat) (_:e≤s.size) (o:a+k<e):bt (s.extract a e) k=bt s (a+k):=by
 rw[zdr,zdr,Lib.extract_data]
 have j:s.data.toList.length=s.size:=Array.length_toList
 simp only[List.getD,List.getElem?_map]
 rw[List.getElem?_take,if_pos (by omega),List.getElem?_drop]
theorem zfv (s:ByteArray) (a e:Nat) (j:e≤s.size):(s.extract a e).size=e-a:=by rw[ByteArray.size_extract];omega
theorem zml (s:ByteArray) (a e:Nat) (o:e≤s.size) (k:Nat) (z:a+k≤e):dv (s.extract a e) 0 k=zbo s a k:=by
 induction k with
 |zero=>rfl
 |succ k j=>rw[dv,zbo,j (by omega),Nat.zero_add,zfu s a e k o (by omega)]
theorem zmm {s:ByteArray} {a e:Nat} (j:e≤s.size) (o:a<e) (hd:zG (bt s a)=true):pfx (s.extract a e)=0:=by
 unfold pfx
 rw[zfu s a e 0 j (by omega),Nat.add_zero,if_neg]
 rw[zbV] at hd
 omega
theorem zmn {s:ByteArray} {a e:Nat} {scr:Bool} (z:a<s.size) (hd:zG (bt s a)=true) (j:zax (zB scr) s a e):a<e:=by
 rcases Nat.lt_or_ge a e with k|k
 ·exact k
 ·have o:e=a:=by have:=j.1;omega
  subst o
  have:=j.2.2.2 z
  simp[zB,hd] at this
theorem ztM {s:ByteArray} {a e:Nat} {scr:Bool} (Q:a<s.size) (hd:zG (bt s a)=true) (H:zax (zB scr) s a e) (h:RdP (s.extract a e)) (U:rdV (s.extract a e)≤1000000):zbd s a scr (rdV (s.extract a e)) e:=by
 have E:=zmn Q hd H
 have z:=H.2.1
 have D:=zmm z E hd
 have K:=zfv s a e z
 obtain⟨M,L,J,I⟩:=h
 rw[D] at M L J I
 have O: ∀j,j<e-a→zeA (bt s (a+j)):=fun j V=>by
  have:=J j (by omega)
  rw[Nat.zero_add,zfu s a e j z (by omega)] at this
  exact this
 have o:e<s.size→zB scr (bt s e)=false:=H.2.2.2
 refine⟨⟨H.1,z,fun j M L=>?_,fun h=>?_⟩,E,?_,?_,U,fun h=>?_⟩
 ·have:=O (j-a) (by omega)
  rw[show a+(j-a)=j from by omega] at this
  exact zbV.2 this
 ·have:=o h
  simp[zB] at this
  exact this.2
 ·rcases I with g|g
  ·rw[zfu s a e 0 z (by omega),Nat.add_zero] at g
   exact .inr g
  ·left;have:=g.2;omega
 ·have N:zft (s.extract a e)=true:=zge ⟨by rw[D];exact M,by rw[D];exact L,by rw[D];exact J,by rw[D];exact I⟩
  rw[rdV,if_pos N,if_neg (by rw[D];decide),K,zml s a e z _ (by omega)]
 ·have:=o h
  simp[zB] at this
  exact this.1
theorem ztN {s:ByteArray} {a e:Nat} {scr:Bool} {n:Int} (h:zbd s a scr n e):zax (zB scr) s a e:=
 ⟨h.1.1,h.1.2.1,fun j z o=>by simp[zB,h.1.2.2.1 j z o],fun k=>by simp[zB,h.1.2.2.2 k,h.2.2.2.2.2 k]⟩
theorem ztO {s:ByteArray} {a:Nat} (K:49≤bt s a) (hd: ∀j,j<8→48≤bt s (a+j)):10000000≤zbo s a 8:=by
 have I:=hd 1 (by omega)
 have H:=hd 2 (by omega)
 have J:=hd 3 (by omega)
 have o:=hd 4 (by omega)
 have D:=hd 5 (by omega)
 have E:=hd 6 (by omega)
 have z:=hd 7 (by omega)
 simp only[zbo,Nat.add_zero]
 omega
theorem zmo {s:ByteArray} {a e:Nat} {scr:Bool} (V:a<s.size) (hd:zG (bt s a)=true) (K:zax (zB scr) s a e) (h: ¬RdP (s.extract a e)∨1000000<rdV (s.extract a e)): ∀n o,¬zbd s a scr n o:=by
 intro n o N
 obtain rfl:=zfz (ztN N) K
 have M:=zmn V hd K
 have I:=K.2.1
 have Q:=zmm I M hd
 have J:=zfv s a o I
 obtain⟨⟨_,_,D,_⟩,_,U,hv,Y,_⟩:=N
 have H:RdP (s.extract a o):=by
  unfold RdP
  rw[Q,J]
  refine⟨by omega,?_,fun j O=>?_,?_⟩
  ·rcases Nat.lt_or_ge 9 (o-a) with g|g
   ·exfalso
    have E: ∀j,j<o-a→48≤bt s (a+j):=fun j O=>(zbV.1 (D (a+j) (by omega) (by omega))).1
    have L:49≤bt s a:=by
     have:=E 0 (by omega)
     rw[Nat.add_zero] at this
     rcases U with z|z
     ·omega
     ·omega
    have Z:=ztO L (fun j O=>E j (by omega))
    have X:=(zgt 8 (o-a) E (by omega)).2
    omega
   ·omega
  ·rw[Nat.zero_add,zfu s a o j I (by omega)]
   exact zbV.1 (D (a+j) (by omega) (by omega))
  ·rw[zfu s a o 0 I (by omega),Nat.add_zero]
   rcases U with z|z
   ·right;exact⟨rfl,by omega⟩
   ·exact .inl z
 rcases h with h|h
 ·exact h H
 ·rw[rdV,if_pos (zge H),if_neg (by rw[Q];decide),J,zml s a o I _ (by omega)] at h
  omega
end Go.Proofs.YthfeoomfiafldaaGreat