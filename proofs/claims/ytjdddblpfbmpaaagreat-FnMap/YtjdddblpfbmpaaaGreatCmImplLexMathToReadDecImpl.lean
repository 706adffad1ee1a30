/-
  Plain facts behind impl.Lex: a byte that is one of some,where a comment ends,a beginning of two /,a number's text. No program is spoken of.
  What impl.ReadDec answers: the walk.
-/
import Derived.Lib.IndexLaws
import Derived.Test.YtjdddblpfbmpaaaGreatCmImplLexAToReadDecMath
import Derived.WalkMore
namespace Go.Proofs.YtjdddblpfbmpaaaGreat
set_option maxHeartbeats 1600000
open Go.RowKit Go.PlainAid
theorem ztN (s:ByteArray) (k c:Nat) (I:c<256):s.data.toList[k]? =some (UInt8.ofNat c)↔k<s.size∧bt s k=(c:Int):=by
 by_cases j:k<s.size
 ·have q:k<s.data.toList.length:=by rw[Array.length_toList];exact j
  have A:bt s k=((s.data.toList[k]).toNat:Int):=by rw[zdy];simp[List.getD,List.getElem?_eq_getElem q]
  have z:(UInt8.ofNat c).toNat=c:=by rw[UInt8.toNat_ofNat'];omega
  rw[List.getElem?_eq_getElem q,A]
  refine⟨fun h=>⟨j,by simp only[Option.some.injEq] at h;rw[h,z]⟩,fun h=>?_⟩
  have H:=h.2
  have:(s.data.toList[k])=UInt8.ofNat c:=by
   apply UInt8.toNat_inj.1
   rw[z]
   omega
  rw[this]
 ·have q:s.data.toList.length≤k:=by rw[Array.length_toList];exact Nat.le_of_not_lt j
  rw[List.getElem?_eq_none q]
  simp[j]
theorem zfR (s:ByteArray) (a k c:Nat) (j:c<256):(s.extract a s.size).data.toList[k]? =some (UInt8.ofNat c)↔a+k<s.size∧bt s (a+k)=(c:Int):=by
 rw[Lib.extract_data,←ztN _ _ _ j]
 have q:(s.data.toList.drop a).length=s.size-a:=by rw[List.length_drop,Array.length_toList];rfl
 rw[List.take_of_length_le (by omega),List.getElem?_drop]
def zfS (c:Int):Bool:=decide (zc6 c)
def zfT (c:Int):Bool:=decide (zbn c)
theorem ztO (c:Int) (z:0≤c) (q:c≤255):decide (0≤Lib.indexByte [9,10,13,32] c.toNat.toUInt8)=zfS c:=by
 obtain⟨n,rfl⟩: ∃n:Nat,c=n:=⟨c.toNat,by omega⟩
 have j: ∀n:Fin 256,decide (0≤Lib.indexByte [9,10,13,32] (UInt8.ofNat n.1))=zfS (n.1:Int):=by decide+kernel
 exact j ⟨n,by omega⟩
theorem ztP (c:Int) (z:0≤c) (q:c≤255):decide (0≤Lib.indexByte [123,125,40,41,44,59,61,46,42,43,45] c.toNat.toUInt8)=zfT c:=by
 obtain⟨n,rfl⟩: ∃n:Nat,c=n:=⟨c.toNat,by omega⟩
 have j: ∀n:Fin 256,decide (0≤Lib.indexByte [123,125,40,41,44,59,61,46,42,43,45] (UInt8.ofNat n.1))=zfT (n.1:Int):=by decide+kernel
 exact j ⟨n,by omega⟩
theorem ztQ {s:ByteArray} {a:Nat} {o:Int} (L:0≤o) (h:Lib.indexByte (s.extract a s.size).data.toList (10:Int).toNat.toUInt8=o): ∃e:Nat,(a:Int)+o=(e:Int)∧za4 zb0 s a e∧e<s.size:=by
 obtain⟨n,rfl⟩: ∃n:Nat,o=n:=⟨o.toNat,by omega⟩
 obtain⟨H,z⟩:=Lib.indexByte_some h
 have q:=(zfR s a n 10 (by decide)).1 H
 refine⟨a+n,by omega,⟨by omega,by omega,fun j A J=>decide_eq_true fun I=>?_,fun _=>by rw[zb0,q.2];rfl⟩,q.1⟩
 apply z (j-a) (by omega)
 have:=(zfR s a (j-a) 10 (by decide)).2 (by rw[show a+(j-a)=j from by omega];exact⟨by omega,I⟩)
 exact this
theorem ztR {s:ByteArray} {a:Nat} (z:a≤s.size) (h: ¬0≤Lib.indexByte (s.extract a s.size).data.toList (10:Int).toNat.toUInt8):za4 zb0 s a s.size:=by
 have q:=Lib.indexByte_ge (s.extract a s.size).data.toList (10:Int).toNat.toUInt8
 have H:Lib.indexByte (s.extract a s.size).data.toList (10:Int).toNat.toUInt8= -1:=by omega
 refine⟨z,Nat.le_refl _,fun j A J=>decide_eq_true fun I=>?_,fun h=>absurd h (Nat.lt_irrefl _)⟩
 apply Lib.indexByte_none H (j-a)
 have:=(zfR s a (j-a) 10 (by decide)).2 (by rw[show a+(j-a)=j from by omega];exact⟨by omega,I⟩)
 exact this
theorem ztS {s:ByteArray} {a c:Nat} (q:a<s.size) (j:zct s a) (h:za4 zb0 s a c):a<c:=by
 rcases Nat.lt_or_ge a c with k|k
 ·exact k
 ·have z:c=a:=by have:=h.1;omega
  subst z
  have:=h.2.2.2 q
  rw[zb0,j.1] at this
  simp at this
theorem ztT (l:List UInt8) (x y:UInt8):[x,y].isPrefixOf l=true↔l[0]? =some x∧l[1]? =some y:=by
 match l with
 |[]=>simp
 |[p]=>simp
 |p::q::r=>
  simp
  exact⟨fun h=>⟨h.1.symm,h.2.symm⟩,fun h=>⟨h.1.symm,h.2.symm⟩⟩
def zgW (s:ByteArray) (a:Nat):Bool:=decide (zct s a)
theorem ztU (s:ByteArray) (a:Nat):Lib.hasPrefix (s.extract a s.size).data.toList [47,47]=zgW s a:=by
 rw[Bool.eq_iff_iff,Lib.hasPrefix,ztT,zgW,decide_eq_true_eq]
 have A:=zfR s a 0 47 (by decide)
 have z:=zfR s a 1 47 (by decide)
 rw[Nat.add_zero] at A
 constructor
 ·rintro⟨q,j⟩
  exact⟨(A.1 q).2,(z.1 j).1,(z.1 j).2⟩
 ·rintro⟨q,j,H⟩
  exact⟨A.2 ⟨by omega,q⟩,z.2 ⟨j,H⟩⟩
theorem zeV (s:ByteArray) (a e k:Nat) (_:e≤s.size) (q:a+k<e):bt (s.extract a e) k=bt s (a+k):=by
 rw[zdy,zdy,Lib.extract_data]
 have j:s.data.toList.length=s.size:=Array.length_toList
 simp only[List.getD,List.getElem?_map]
 rw[List.getElem?_take,if_pos (by omega),List.getElem?_drop]
theorem zeW (s:ByteArray) (a e:Nat) (j:e≤s.size):(s.extract a e).size=e-a:=by rw[ByteArray.size_extract];omega
theorem zlR (s:ByteArray) (a e:Nat) (q:e≤s.size) (k:Nat) (z:a+k≤e):dv (s.extract a e) 0 k=zbE s a k:=by
 induction k with
 |zero=>rfl
 |succ k j=>rw[dv,zbE,j (by omega),Nat.zero_add,zeV s a e k q (by omega)]
theorem zlS {s:ByteArray} {a e:Nat} (q:e≤s.size) (z:a<e) (j:zK (bt s a)=true):pfx (s.extract a e)=0:=by
 unfold pfx
 rw[zeV s a e 0 q (by omega),Nat.add_zero,if_neg]
 rw[zc7] at j
 omega
theorem zlT {s:ByteArray} {a e:Nat} {j:Bool} (H:a<s.size) (z:zK (bt s a)=true) (q:za4 (zL j) s a e):a<e:=by
 rcases Nat.lt_or_ge a e with k|k
 ·exact k
 ·have A:e=a:=by have:=q.1;omega
  subst A
  have:=q.2.2.2 H
  simp[zL,z] at this
theorem ztV {s:ByteArray} {a e:Nat} {z:Bool} (ha:a<s.size) (X:zK (bt s a)=true) (J:za4 (zL z) s a e) (h:RdP (s.extract a e)) (Z:rdV (s.extract a e)≤1000000):zaV s a z (rdV (s.extract a e)) e:=by
 have I:=zlT ha X J
 have H:=J.2.1
 have A:=zlS H I X
 have V:=zeW s a e H
 obtain⟨O,M,U,N⟩:=h
 rw[A] at O M U N
 have Y: ∀j,j<e-a→zer (bt s (a+j)):=fun j hj=>by
  have:=U j (by omega)
  rw[Nat.zero_add,zeV s a e j H (by omega)] at this
  exact this
 have q:e<s.size→zL z (bt s e)=false:=J.2.2.2
 refine⟨⟨J.1,H,fun j O M=>?_,fun h=>?_⟩,I,?_,?_,Z,fun h=>?_⟩
 ·have:=Y (j-a) (by omega)
  rw[show a+(j-a)=j from by omega] at this
  exact zc7.2 this
 ·have:=q h
  simp[zL] at this
  exact this.2
 ·rcases N with g|g
  ·rw[zeV s a e 0 H (by omega),Nat.add_zero] at g
   exact .inr g
  ·left;have:=g.2;omega
 ·have L:zeU (s.extract a e)=true:=zfQ ⟨by rw[A];exact O,by rw[A];exact M,by rw[A];exact U,by rw[A];exact N⟩
  rw[rdV,if_pos L,if_neg (by rw[A];decide),V,zlR s a e H _ (by omega)]
 ·have:=q h
  simp[zL] at this
  exact this.1
theorem ztW {s:ByteArray} {a e:Nat} {q:Bool} {n:Int} (h:zaV s a q n e):za4 (zL q) s a e:=
 ⟨h.1.1,h.1.2.1,fun j z A=>by simp[zL,h.1.2.2.1 j z A],fun k=>by simp[zL,h.1.2.2.2 k,h.2.2.2.2.2 k]⟩
theorem ztX {s:ByteArray} {a:Nat} (L:49≤bt s a) (q: ∀j,j<8→48≤bt s (a+j)):10000000≤zbE s a 8:=by
 have I:=q 1 (by omega)
 have z:=q 2 (by omega)
 have H:=q 3 (by omega)
 have A:=q 4 (by omega)
 have J:=q 5 (by omega)
 have N:=q 6 (by omega)
 have M:=q 7 (by omega)
 simp only[zbE,Nat.add_zero]
 omega
theorem zlU {s:ByteArray} {a e:Nat} {I:Bool} (ha:a<s.size) (V:zK (bt s a)=true) (O:za4 (zL I) s a e) (h: ¬RdP (s.extract a e)∨1000000<rdV (s.extract a e)): ∀n q,¬zaV s a I n q:=by
 intro n q Z
 obtain rfl:=zeZ (ztW Z) O
 have N:=zlT ha V O
 have L:=O.2.1
 have Y:=zlS L N V
 have J:=zeW s a q L
 obtain⟨⟨_,_,A,_⟩,_,X,hv,hm,_⟩:=Z
 have M:RdP (s.extract a q):=by
  unfold RdP
  rw[Y,J]
  refine⟨by omega,?_,fun j hj=>?_,?_⟩
  ·rcases Nat.lt_or_ge 9 (q-a) with g|g
   ·exfalso
    have H: ∀j,j<q-a→48≤bt s (a+j):=fun j hj=>(zc7.1 (A (a+j) (by omega) (by omega))).1
    have U:49≤bt s a:=by
     have:=H 0 (by omega)
     rw[Nat.add_zero] at this
     rcases X with z|z
     ·omega
     ·omega
    have h8:=ztX U (fun j hj=>H j (by omega))
    have aa:=(zhi 8 (q-a) H (by omega)).2
    omega
   ·omega
  ·rw[Nat.zero_add,zeV s a q j L (by omega)]
   exact zc7.1 (A (a+j) (by omega) (by omega))
  ·rw[zeV s a q 0 L (by omega),Nat.add_zero]
   rcases X with z|z
   ·right;exact⟨rfl,by omega⟩
   ·exact .inl z
 rcases h with h|h
 ·exact h M
 ·rw[rdV,if_pos (zfQ M),if_neg (by rw[Y];decide),J,zlR s a q L _ (by omega)] at h
  omega
theorem zlV (x:Int) (z:0≤x) (j:x≤255) (c:Nat) (q:c<256):UInt8.ofNat x.toNat=UInt8.ofNat c↔x=c:=by
 constructor
 ·intro h
  have:=congrArg UInt8.toNat h
  simp only[UInt8.toNat_ofNat'] at this
  omega
 ·intro h
  rw[h]
  rfl
theorem ztY (s:ByteArray) (h:1≤s.size):((s.extract 0 1).toList==[45])=decide (bt s 0=45):=by
 rw[ziH s 1 h,Lib.toList_data,strOfNums_data]
 simp only[bsl,List.map_cons,List.map_nil]
 rw[Bool.eq_iff_iff,beq_iff_eq,decide_eq_true_eq]
 have:=zlV (bt s 0) (bt_nonneg s 0) (bt_le s 0) 45 (by decide)
 simp only[List.cons.injEq,and_true]
 exact this
theorem zlW (s:ByteArray) (w:World) (_:s.size≤9223372036854775807):
  Calls Tryz.prog 177 #[.string s,.string {data:=#[45]}] w fun e w'=>e= .returned (.bool (decide (bt s 0=45)))∧w'=w:=by
 by_cases h:1≤s.size
 ·have j:Hid (((s.extract 0 1).toList==[45])=decide (bt s 0=45)):=ztY s h
  go_enter Tryz.func177,Tryz.ntmps177
  go_wp2
  go_ret
  exact⟨zh j.out,rfl⟩
 ·have j:Hid (decide (bt s 0=45)=false):=by show decide (bt s 0=45)=false;rw[bt_end s (by omega)];rfl
  go_enter Tryz.func177,Tryz.ntmps177
  go_wp2
  go_ret
  exact⟨zh j.out.symm,rfl⟩
theorem ztZ (s:ByteArray) (w:World) (j:s.size≤9223372036854775807) (h:decide (bt s 0=45)=false):
  Calls Tryz.prog 224 #[.string s,.string {data:=#[45]}] w fun e w'=>e= .returned (.tuple #[.string s,.bool false])∧w'=w:=by
 go_enter Tryz.func224,Tryz.ntmps224
 go_wp2_with fail
 refine (zlW _ _ j).mono ?_
 rintro e w' ⟨rfl,rfl⟩
 go_wp2
 go_ret2
 exact⟨rfl,rfl⟩
theorem zua (s:ByteArray) (w:World) (j:s.size≤9223372036854775807) (h:decide (bt s 0=45)=true) (q:1≤s.size):
  Calls Tryz.prog 224 #[.string s,.string {data:=#[45]}] w fun e w'=>e= .returned (.tuple #[.string (s.extract 1 s.size),.bool true])∧w'=w:=by
 go_enter Tryz.func224,Tryz.ntmps224
 go_wp2_with fail
 refine (zlW _ _ j).mono ?_
 rintro e w' ⟨rfl,rfl⟩
 go_wp2
 go_ret2
 exact⟨rfl,rfl⟩
theorem zi3 (s:ByteArray) (w:World) (j:s.size≤9223372036854775807) (h:decide (bt s 0=45)=false):
  Calls Tryz.prog 204 #[.string s,.string {data:=#[45]}] w fun e w'=>e= .returned (.tuple #[.string s,.bool false])∧w'=w:=by
 go_enter Tryz.func204,Tryz.ntmps204
 go_wp2_with fail
 refine (ztZ _ _ j h).mono ?_
 rintro e w' ⟨rfl,rfl⟩
 go_wp2
 go_ret2
 exact⟨rfl,rfl⟩
theorem zub (s:ByteArray) (w:World) (j:s.size≤9223372036854775807) (h:decide (bt s 0=45)=true) (q:1≤s.size):
  Calls Tryz.prog 204 #[.string s,.string {data:=#[45]}] w fun e w'=>e= .returned (.tuple #[.string (s.extract 1 s.size),.bool true])∧w'=w:=by
 go_enter Tryz.func204,Tryz.ntmps204
 go_wp2_with fail
 refine (zua _ _ j h q).mono ?_
 rintro e w' ⟨rfl,rfl⟩
 go_wp2
 go_ret2
 exact⟨rfl,rfl⟩
theorem zlX (s:ByteArray) (h:bt s (pfx s)=48):(s.toList==[48])=true↔(pfx s=0∧s.size=1):=by
 have e:s.toList=(bsl s 0 s.size).map (fun n=>UInt8.ofNat n.toNat):=by
  rw[Lib.toList_data,←strOfNums_data,←zmw s]
 rw[e,beq_iff_eq]
 constructor
 ·intro k
  have j:=congrArg List.length k
  rw[List.length_map,zmt] at j
  have q:s.size=1:=by simpa using j
  rw[q] at k
  simp only[bsl,List.map_cons,List.map_nil,List.cons.injEq,and_true] at k
  have:=(zlV (bt s 0) (bt_nonneg s 0) (bt_le s 0) 48 (by decide)).1 k
  refine⟨?_,q⟩
  unfold pfx
  rw[if_neg (by omega)]
 ·rintro⟨A,z⟩
  rw[A] at h
  rw[z]
  simp[bsl,h]
def zdw (s:ByteArray) (k:Nat):Prop:=(∀j,j<k→zer (bt s (pfx s+j)))∧(1≤k→bt s (pfx s)≠48∨(pfx s=0∧s.size=1))
theorem zuc (s:ByteArray):zdw s 0:=⟨fun _ h=>by omega,fun h=>by omega⟩
theorem zud {s:ByteArray} {k:Nat} (h:zdw s k) (q:k=s.size-pfx s) (j:1≤k) (z:k≤9):RdP s:=by
 subst q
 exact⟨j,z,h.1,h.2 j⟩
theorem zi4 {s:ByteArray} {k:Nat} (h:zdw s k) (q:48≤bt s (pfx s+k)∧bt s (pfx s+k)≤57) (z:k=0→bt s (pfx s)≠48∨(pfx s=0∧s.size=1)):zdw s (k+1):=by
 refine⟨fun j A=>?_,fun _=>?_⟩
 ·by_cases e:j=k
  ·rw[e];exact q
  ·exact h.1 j (by omega)
 ·by_cases e:k=0
  ·exact z e
  ·exact h.2 (by omega)
theorem zue {s:ByteArray} {k:Nat} (q:k<s.size-pfx s) (j: ¬(48≤bt s (pfx s+k)∧bt s (pfx s+k)≤57)): ¬RdP s:=fun h=>j (h.2.2.1 k q)
theorem zuf {s:ByteArray} (j:bt s (pfx s)=48) (h: ¬(pfx s=0∧s.size=1)): ¬RdP s:=fun k=>by
 rcases k.2.2.2 with e|e
 ·exact e j
 ·exact h e
theorem zug {s:ByteArray} {k:Nat} (h:zdw s k) (j:k≤9):0≤dv s (pfx s) k∧dv s (pfx s) k≤1000000000:=by
 have a:=ztK s (pfx s) k h.1
 have b:=ztL k j
 omega
theorem zuh {s:ByteArray} (h:RdP s):rdV s=if pfx s=1 then-dv s (pfx s) (s.size-pfx s) else dv s (pfx s) (s.size-pfx s):=by
 rw[rdV,if_pos (zfQ h)]
 by_cases e:bt s 0=45
 ·have j:pfx s=1:=by simp[pfx,e]
  rw[j,if_pos rfl,if_pos rfl]
 ·have j:pfx s=0:=by simp[pfx,e]
  rw[j]
  rfl
theorem zlY (s t:ByteArray) (b:Bool) (w:World) (V:b=decide (pfx s=1)) (L: ∀k,bt t k=bt s (pfx s+k)) (N:t.size=s.size-pfx s)
  (hc: ∀w,Calls Tryz.prog 204 #[.string s,.string {data:=#[45]}] w fun e w'=>e= .returned (.tuple #[.string t,.bool b])∧w'=w) (h1:1≤t.size) (h9:t.size≤9):
  Calls Tryz.prog 184 #[.string s] w fun e w'=>e= .returned (.tuple #[.int .i64 (rdV s),.bool (zeU s)])∧w'=w:=by
 have HC:Hid (∀w,Calls Tryz.prog 204 #[.string s,.string {data:=#[45]}] w fun e w'=>e= .returned (.tuple #[.string t,.bool b])∧w'=w):=hc
 have I:Hid (∀k,bt t k=bt s (pfx s+k)):=L
 have J:Hid (t.size=s.size-pfx s):=N
 have ac:Hid (b=decide (pfx s=1)):=V
 clear hc L N V
 have t1:(1:Int)≤t.size:=by omega
 have t9:(t.size:Int)≤9:=by omega
 cases b
 all_goals
  go_enter Tryz.func184,Tryz.ntmps184
  go_wp2
  go_step3
  go_wp2_with (go_at_call 204;refine (HC.out _).mono ?_;rintro e w' ⟨rfl,rfl⟩)
  go_step3
  go_wp2
  go_loop [6,7,25] (fun n o i=>∃k:Nat,k≤t.size∧i= .int .i64 k∧n= .int .i64 (dv s (pfx s) k)∧o= .bool true∧zdw s k) (fun _ _ i=>(t.size-intOf i).toNat)
  case atStart=>exact⟨0,by omega,rfl,rfl,rfl,zuc s⟩
  case round=>
   obtain⟨k,hk,rfl,rfl,rfl,H⟩:=hrel
   have HT:Hid (zdw s k):=H
   have hv:=zug H (by omega)
   clear H
   by_cases aa:k<t.size
   ·have ae:=bt_nonneg t k
    have ag:=bt_le t k
    have hb:=get_bt t
    by_cases X:48≤bt t k∧bt t k≤57
    ·obtain⟨A,z⟩:=X
     have HD:Hid (dv s (pfx s) (k+1)=10*dv s (pfx s) k+(bt t k-48)):=by
      show dv s (pfx s) (k+1)=_
      rw[dv,I.out k];omega
     by_cases M:(bt t k-48==0)=true
     ·by_cases q:((k:Int)==0)=true
      ·have Y:k=0:=by simpa using q
       have O:bt s (pfx s)=48:=by
        have U:=I.out k
        rw[Y] at U
        rw[Y] at M
        have e2:bt t 0-48=0:=by simpa using M
        rw[Nat.add_zero] at U
        omega
       by_cases Z:(s.toList==[48])=true
       ·have j:Hid (zdw s (k+1)):=zi4 HT.out (by rw[←I.out k];exact⟨A,z⟩) (fun _=>.inr ((zlX s O).1 Z))
        clear Y O
        go_wp2
        go_round
        case rel=>exact⟨k+1,by omega,by go_num,by rw[HD.out],rfl,j.out⟩
        case measure=>simp[intOf];omega
       ·have j:Hid (¬RdP s):=zuf O (fun h=>Z ((zlX s O).2 h))
        have af:(s.toList==[48])=false:=by simpa using Z
        clear Y O Z
        go_wp2
        go_ret2
        exact⟨zdE (by rw[zes j.out]) (zdD j.out).symm,rfl⟩
      ·have j:Hid (zdw s (k+1)):=zi4 HT.out (by rw[←I.out k];exact⟨A,z⟩) (fun e=>absurd (show ((k:Int)==0)=true by rw[e];rfl) q)
       have ad:((k:Int)==0)=false:=by simpa using q
       clear q
       go_wp2
       go_round
       case rel=>exact⟨k+1,by omega,by go_num,by rw[HD.out],rfl,j.out⟩
       case measure=>simp[intOf];omega
     ·have j:Hid (zdw s (k+1)):=zi4 HT.out (by rw[←I.out k];exact⟨A,z⟩) (fun e=>by
       left
       intro ab
       apply M
       have U:=I.out k
       rw[e,Nat.add_zero] at U
       rw[e,U,ab]
       rfl)
      have ah:(bt t k-48==0)=false:=by simpa using M
      clear M
      go_wp2
      go_round
      case rel=>exact⟨k+1,by omega,by go_num,by rw[HD.out],rfl,j.out⟩
      case measure=>simp[intOf];omega
    ·have j:Hid (¬RdP s):=zue (k:=k) (by rw[←J.out];exact aa) (by rw[←I.out k];exact X)
     by_cases A:48≤bt t k
     ·have z:57<bt t k:=by omega
      clear X
      go_wp2
      go_ret2
      exact⟨zdE (by rw[zes j.out]) (zdD j.out).symm,rfl⟩
     ·clear X
      go_wp2
      go_ret2
      exact⟨zdE (by rw[zes j.out]) (zdD j.out).symm,rfl⟩
   ·have HY:Hid (RdP s):=zud HT.out (by rw[←J.out];omega) (by omega) (by omega)
    have HK:Hid (k=s.size-pfx s):=by show k=s.size-pfx s;rw[←J.out];omega
    go_wp2
    go_ret2
    refine⟨zdE ?_ (zfQ HY.out).symm,rfl⟩
    rw[zuh HY.out,HK.out]
    have:=ac.out
    simp at this
    simp[this]
theorem zui (s:ByteArray) (k:Nat):bt (s.extract 1 s.size) k=bt s (1+k):=by
 rw[zdy,zdy,Lib.extract_data,List.take_of_length_le (by rw[List.length_drop,Array.length_toList];exact Nat.le_refl _),List.map_drop]
 simp only[List.getD,List.getElem?_drop]
theorem zuj (s:ByteArray):(s.extract 1 s.size).size=s.size-1:=by simp
theorem zuk (s:ByteArray) (w:World) (L:s.size≤9223372036854775807):
  Calls Tryz.prog 184 #[.string s] w fun e w'=>e= .returned (.tuple #[.int .i64 (rdV s),.bool (zeU s)])∧w'=w:=by
 by_cases H:bt s 0=45
 ·have j:pfx s=1:=by simp[pfx,H]
  have N:=ztM s
  have A:decide (bt s 0=45)=true:=decide_eq_true H
  have V:1≤s.size:=by omega
  obtain⟨t,J⟩: ∃t,t=s.extract 1 s.size:=⟨_,rfl⟩
  have I: ∀w,Calls Tryz.prog 204 #[.string s,.string {data:=#[45]}] w fun e w'=>e= .returned (.tuple #[.string t,.bool true])∧w'=w:=by
   intro w
   rw[J]
   exact zub s w L A V
  have z:t.size=s.size-pfx s:=by rw[J,j,zuj s]
  by_cases h:1≤t.size∧t.size≤9
  ·exact zlY s t true w (by rw[j];rfl) (fun k=>by rw[J,j];exact zui s k) z I h.1 h.2
  ·have q:Hid (¬RdP s):=fun k=>h (by rw[z];exact⟨k.1,k.2.1⟩)
   have M:Hid (∀w,Calls Tryz.prog 204 #[.string s,.string {data:=#[45]}] w fun e w'=>e= .returned (.tuple #[.string t,.bool true])∧w'=w):=I
   have O:t.size≤9223372036854775807:=by omega
   clear I z J N A j H
   by_cases X:1≤t.size
   ·have U:(9:Int)<t.size:=by omega
    clear h
    go_enter Tryz.func184,Tryz.ntmps184
    go_wp2
    go_step3
    go_wp2_with (go_at_call 204;refine (M.out _).mono ?_;rintro e w' ⟨rfl,rfl⟩)
    try rw[Exit.noGoto_ret]
    go_ret2
    exact⟨zdE (by rw[zes q.out]) (zdD q.out).symm,rfl⟩
   ·clear h
    go_enter Tryz.func184,Tryz.ntmps184
    go_wp2
    go_step3
    go_wp2_with (go_at_call 204;refine (M.out _).mono ?_;rintro e w' ⟨rfl,rfl⟩)
    try rw[Exit.noGoto_ret]
    go_ret2
    exact⟨zdE (by rw[zes q.out]) (zdD q.out).symm,rfl⟩
 ·have j:pfx s=0:=by simp[pfx,H]
  have A:decide (bt s 0=45)=false:=decide_eq_false H
  have I:=fun w=>zi3 s w L A
  by_cases h:1≤s.size∧s.size≤9
  ·exact zlY s s false w (by rw[j];rfl) (fun k=>by rw[j,Nat.zero_add]) (by rw[j];rfl) I h.1 h.2
  ·have q:Hid (¬RdP s):=fun k=>h (by have a:=k.1;have b:=k.2.1;rw[j] at a b;exact⟨a,b⟩)
   clear I j H
   by_cases X:1≤s.size
   ·have U:(9:Int)<s.size:=by omega
    clear h
    go_enter Tryz.func184,Tryz.ntmps184
    go_wp2
    go_step3
    go_wp2_with (go_at_call 204;refine (zi3 _ _ L A).mono ?_;rintro e w' ⟨rfl,rfl⟩)
    try rw[Exit.noGoto_ret]
    go_ret2
    exact⟨zdE (by rw[zes q.out]) (zdD q.out).symm,rfl⟩
   ·clear h
    go_enter Tryz.func184,Tryz.ntmps184
    go_wp2
    go_step3
    go_wp2_with (go_at_call 204;refine (zi3 _ _ L A).mono ?_;rintro e w' ⟨rfl,rfl⟩)
    try rw[Exit.noGoto_ret]
    go_ret2
    exact⟨zdE (by rw[zes q.out]) (zdD q.out).symm,rfl⟩
end Go.Proofs.YtjdddblpfbmpaaaGreat
