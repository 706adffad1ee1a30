/-
  Plain facts behind impl.Lex: a byte that is one of some,where a comment ends,a beginning of two /,a number's text. No program is spoken of.
  What impl.ReadDec answers: the walk.
-/
import Derived.Lib.IndexLaws
import Derived.Test.YtjdddblpfbmpaaaGreatClImplLexAToReadDecMath
import Derived.WalkMore
namespace Go.Proofs.YtjdddblpfbmpaaaGreat
set_option maxHeartbeats 1600000
open Go.RowKit Go.PlainAid
theorem ztD (s:ByteArray) (k c:Nat) (I:c<256):s.data.toList[k]? =some (UInt8.ofNat c)↔k<s.size∧bt s k=(c:Int):=by
 by_cases j:k<s.size
 ·have w:k<s.data.toList.length:=by rw[Array.length_toList];exact j
  have A:bt s k=((s.data.toList[k]).toNat:Int):=by rw[zdt];simp[List.getD,List.getElem?_eq_getElem w]
  have z:(UInt8.ofNat c).toNat=c:=by rw[UInt8.toNat_ofNat'];omega
  rw[List.getElem?_eq_getElem w,A]
  refine⟨fun h=>⟨j,by simp only[Option.some.injEq] at h;rw[h,z]⟩,fun h=>?_⟩
  have H:=h.2
  have:(s.data.toList[k])=UInt8.ofNat c:=by
   apply UInt8.toNat_inj.1
   rw[z]
   omega
  rw[this]
 ·have w:s.data.toList.length≤k:=by rw[Array.length_toList];exact Nat.le_of_not_lt j
  rw[List.getElem?_eq_none w]
  simp[j]
theorem zf6 (s:ByteArray) (a k c:Nat) (h:c<256):(s.extract a s.size).data.toList[k]? =some (UInt8.ofNat c)↔a+k<s.size∧bt s (a+k)=(c:Int):=by
 rw[Lib.extract_data,←ztD _ _ _ h]
 have j:(s.data.toList.drop a).length=s.size-a:=by rw[List.length_drop,Array.length_toList];rfl
 rw[List.take_of_length_le (by omega),List.getElem?_drop]
def zf7 (c:Int):Bool:=decide (zc8 c)
def zf8 (c:Int):Bool:=decide (zbk c)
theorem ztE (c:Int) (w:0≤c) (j:c≤255):decide (0≤Lib.indexByte [9,10,13,32] c.toNat.toUInt8)=zf7 c:=by
 obtain⟨n,rfl⟩: ∃n:Nat,c=n:=⟨c.toNat,by omega⟩
 have h: ∀n:Fin 256,decide (0≤Lib.indexByte [9,10,13,32] (UInt8.ofNat n.1))=zf7 (n.1:Int):=by decide+kernel
 exact h ⟨n,by omega⟩
theorem ztF (c:Int) (w:0≤c) (j:c≤255):decide (0≤Lib.indexByte [123,125,40,41,44,59,61,46,42,43,45] c.toNat.toUInt8)=zf8 c:=by
 obtain⟨n,rfl⟩: ∃n:Nat,c=n:=⟨c.toNat,by omega⟩
 have h: ∀n:Fin 256,decide (0≤Lib.indexByte [123,125,40,41,44,59,61,46,42,43,45] (UInt8.ofNat n.1))=zf8 (n.1:Int):=by decide+kernel
 exact h ⟨n,by omega⟩
theorem ztG {s:ByteArray} {a:Nat} {o:Int} (L:0≤o) (h:Lib.indexByte (s.extract a s.size).data.toList (10:Int).toNat.toUInt8=o): ∃e:Nat,(a:Int)+o=(e:Int)∧za4 zbx s a e∧e<s.size:=by
 obtain⟨n,rfl⟩: ∃n:Nat,o=n:=⟨o.toNat,by omega⟩
 obtain⟨H,z⟩:=Lib.indexByte_some h
 have w:=(zf6 s a n 10 (by decide)).1 H
 refine⟨a+n,by omega,⟨by omega,by omega,fun j A J=>decide_eq_true fun I=>?_,fun _=>by rw[zbx,w.2];rfl⟩,w.1⟩
 apply z (j-a) (by omega)
 have:=(zf6 s a (j-a) 10 (by decide)).2 (by rw[show a+(j-a)=j from by omega];exact⟨by omega,I⟩)
 exact this
theorem ztH {s:ByteArray} {a:Nat} (z:a≤s.size) (h: ¬0≤Lib.indexByte (s.extract a s.size).data.toList (10:Int).toNat.toUInt8):za4 zbx s a s.size:=by
 have w:=Lib.indexByte_ge (s.extract a s.size).data.toList (10:Int).toNat.toUInt8
 have H:Lib.indexByte (s.extract a s.size).data.toList (10:Int).toNat.toUInt8= -1:=by omega
 refine⟨z,Nat.le_refl _,fun j A J=>decide_eq_true fun I=>?_,fun h=>absurd h (Nat.lt_irrefl _)⟩
 apply Lib.indexByte_none H (j-a)
 have:=(zf6 s a (j-a) 10 (by decide)).2 (by rw[show a+(j-a)=j from by omega];exact⟨by omega,I⟩)
 exact this
theorem ztI {s:ByteArray} {a c:Nat} (w:a<s.size) (j:zcs s a) (h:za4 zbx s a c):a<c:=by
 rcases Nat.lt_or_ge a c with k|k
 ·exact k
 ·have z:c=a:=by have:=h.1;omega
  subst z
  have:=h.2.2.2 w
  rw[zbx,j.1] at this
  simp at this
theorem ztJ (l:List UInt8) (x y:UInt8):[x,y].isPrefixOf l=true↔l[0]? =some x∧l[1]? =some y:=by
 match l with
 |[]=>simp
 |[p]=>simp
 |p::q::r=>
  simp
  exact⟨fun h=>⟨h.1.symm,h.2.symm⟩,fun h=>⟨h.1.symm,h.2.symm⟩⟩
def zgE (s:ByteArray) (a:Nat):Bool:=decide (zcs s a)
theorem ztK (s:ByteArray) (a:Nat):Lib.hasPrefix (s.extract a s.size).data.toList [47,47]=zgE s a:=by
 rw[Bool.eq_iff_iff,Lib.hasPrefix,ztJ,zgE,decide_eq_true_eq]
 have z:=zf6 s a 0 47 (by decide)
 have w:=zf6 s a 1 47 (by decide)
 rw[Nat.add_zero] at z
 constructor
 ·rintro⟨j,h⟩
  exact⟨(z.1 j).2,(w.1 h).1,(w.1 h).2⟩
 ·rintro⟨j,h,A⟩
  exact⟨z.2 ⟨by omega,j⟩,w.2 ⟨h,A⟩⟩
theorem zeL (s:ByteArray) (a e k:Nat) (_:e≤s.size) (j:a+k<e):bt (s.extract a e) k=bt s (a+k):=by
 rw[zdt,zdt,Lib.extract_data]
 have h:s.data.toList.length=s.size:=Array.length_toList
 simp only[List.getD,List.getElem?_map]
 rw[List.getElem?_take,if_pos (by omega),List.getElem?_drop]
theorem zeM (s:ByteArray) (a e:Nat) (h:e≤s.size):(s.extract a e).size=e-a:=by rw[ByteArray.size_extract];omega
theorem zlq (s:ByteArray) (a e:Nat) (j:e≤s.size) (k:Nat) (w:a+k≤e):dv (s.extract a e) 0 k=zbC s a k:=by
 induction k with
 |zero=>rfl
 |succ k h=>rw[dv,zbC,h (by omega),Nat.zero_add,zeL s a e k j (by omega)]
theorem zlr {s:ByteArray} {a e:Nat} (j:e≤s.size) (w:a<e) (h:zH (bt s a)=true):pfx (s.extract a e)=0:=by
 unfold pfx
 rw[zeL s a e 0 j (by omega),Nat.add_zero,if_neg]
 rw[zcI] at h
 omega
theorem zls {s:ByteArray} {a e:Nat} {h:Bool} (A:a<s.size) (w:zH (bt s a)=true) (j:za4 (zK h) s a e):a<e:=by
 rcases Nat.lt_or_ge a e with k|k
 ·exact k
 ·have z:e=a:=by have:=j.1;omega
  subst z
  have:=j.2.2.2 A
  simp[zK,w] at this
theorem ztL {s:ByteArray} {a e:Nat} {z:Bool} (ha:a<s.size) (X:zH (bt s a)=true) (J:za4 (zK z) s a e) (h:RdP (s.extract a e)) (Z:rdV (s.extract a e)≤1000000):zaX s a z (rdV (s.extract a e)) e:=by
 have I:=zls ha X J
 have H:=J.2.1
 have A:=zlr H I X
 have V:=zeM s a e H
 obtain⟨O,M,U,N⟩:=h
 rw[A] at O M U N
 have Y: ∀j,j<e-a→zek (bt s (a+j)):=fun j hj=>by
  have:=U j (by omega)
  rw[Nat.zero_add,zeL s a e j H (by omega)] at this
  exact this
 have w:e<s.size→zK z (bt s e)=false:=J.2.2.2
 refine⟨⟨J.1,H,fun j O M=>?_,fun h=>?_⟩,I,?_,?_,Z,fun h=>?_⟩
 ·have:=Y (j-a) (by omega)
  rw[show a+(j-a)=j from by omega] at this
  exact zcI.2 this
 ·have:=w h
  simp[zK] at this
  exact this.2
 ·rcases N with g|g
  ·rw[zeL s a e 0 H (by omega),Nat.add_zero] at g
   exact .inr g
  ·left;have:=g.2;omega
 ·have L:zeK (s.extract a e)=true:=zf5 ⟨by rw[A];exact O,by rw[A];exact M,by rw[A];exact U,by rw[A];exact N⟩
  rw[rdV,if_pos L,if_neg (by rw[A];decide),V,zlq s a e H _ (by omega)]
 ·have:=w h
  simp[zK] at this
  exact this.1
theorem ztM {s:ByteArray} {a e:Nat} {w:Bool} {n:Int} (h:zaX s a w n e):za4 (zK w) s a e:=
 ⟨h.1.1,h.1.2.1,fun j z A=>by simp[zK,h.1.2.2.1 j z A],fun k=>by simp[zK,h.1.2.2.2 k,h.2.2.2.2.2 k]⟩
theorem ztN {s:ByteArray} {a:Nat} (J:49≤bt s a) (h: ∀j,j<8→48≤bt s (a+j)):10000000≤zbC s a 8:=by
 have H:=h 1 (by omega)
 have w:=h 2 (by omega)
 have A:=h 3 (by omega)
 have z:=h 4 (by omega)
 have I:=h 5 (by omega)
 have M:=h 6 (by omega)
 have L:=h 7 (by omega)
 simp only[zbC,Nat.add_zero]
 omega
theorem zlt {s:ByteArray} {a e:Nat} {I:Bool} (ha:a<s.size) (V:zH (bt s a)=true) (O:za4 (zK I) s a e) (h: ¬RdP (s.extract a e)∨1000000<rdV (s.extract a e)): ∀n w,¬zaX s a I n w:=by
 intro n w Z
 obtain rfl:=zeP (ztM Z) O
 have N:=zls ha V O
 have L:=O.2.1
 have Y:=zlr L N V
 have J:=zeM s a w L
 obtain⟨⟨_,_,A,_⟩,_,X,hv,hm,_⟩:=Z
 have M:RdP (s.extract a w):=by
  unfold RdP
  rw[Y,J]
  refine⟨by omega,?_,fun j hj=>?_,?_⟩
  ·rcases Nat.lt_or_ge 9 (w-a) with g|g
   ·exfalso
    have H: ∀j,j<w-a→48≤bt s (a+j):=fun j hj=>(zcI.1 (A (a+j) (by omega) (by omega))).1
    have U:49≤bt s a:=by
     have:=H 0 (by omega)
     rw[Nat.add_zero] at this
     rcases X with z|z
     ·omega
     ·omega
    have h8:=ztN U (fun j hj=>H j (by omega))
    have aa:=(zio 8 (w-a) H (by omega)).2
    omega
   ·omega
  ·rw[Nat.zero_add,zeL s a w j L (by omega)]
   exact zcI.1 (A (a+j) (by omega) (by omega))
  ·rw[zeL s a w 0 L (by omega),Nat.add_zero]
   rcases X with z|z
   ·right;exact⟨rfl,by omega⟩
   ·exact .inl z
 rcases h with h|h
 ·exact h M
 ·rw[rdV,if_pos (zf5 M),if_neg (by rw[Y];decide),J,zlq s a w L _ (by omega)] at h
  omega
theorem zlu (x:Int) (z:0≤x) (j:x≤255) (c:Nat) (w:c<256):UInt8.ofNat x.toNat=UInt8.ofNat c↔x=c:=by
 constructor
 ·intro h
  have:=congrArg UInt8.toNat h
  simp only[UInt8.toNat_ofNat'] at this
  omega
 ·intro h
  rw[h]
  rfl
theorem ztO (s:ByteArray) (h:1≤s.size):((s.extract 0 1).toList==[45])=decide (bt s 0=45):=by
 rw[zim s 1 h,Lib.toList_data,strOfNums_data]
 simp only[bsl,List.map_cons,List.map_nil]
 rw[Bool.eq_iff_iff,beq_iff_eq,decide_eq_true_eq]
 have:=zlu (bt s 0) (bt_nonneg s 0) (bt_le s 0) 45 (by decide)
 simp only[List.cons.injEq,and_true]
 exact this
theorem zlv (s:ByteArray) (w:World) (_:s.size≤9223372036854775807):
  Calls Tryz.prog 177 #[.string s,.string {data:=#[45]}] w fun e w'=>e= .returned (.bool (decide (bt s 0=45)))∧w'=w:=by
 by_cases h:1≤s.size
 ·have j:Hid (((s.extract 0 1).toList==[45])=decide (bt s 0=45)):=ztO s h
  go_enter Tryz.func177,Tryz.ntmps177
  go_wp2
  go_ret
  exact⟨zk j.out,rfl⟩
 ·have j:Hid (decide (bt s 0=45)=false):=by show decide (bt s 0=45)=false;rw[bt_end s (by omega)];rfl
  go_enter Tryz.func177,Tryz.ntmps177
  go_wp2
  go_ret
  exact⟨zk j.out.symm,rfl⟩
theorem ztP (s:ByteArray) (w:World) (j:s.size≤9223372036854775807) (h:decide (bt s 0=45)=false):
  Calls Tryz.prog 224 #[.string s,.string {data:=#[45]}] w fun e w'=>e= .returned (.tuple #[.string s,.bool false])∧w'=w:=by
 go_enter Tryz.func224,Tryz.ntmps224
 go_wp2_with fail
 refine (zlv _ _ j).mono ?_
 rintro e w' ⟨rfl,rfl⟩
 go_wp2
 go_ret2
 exact⟨rfl,rfl⟩
theorem ztQ (s:ByteArray) (w:World) (j:s.size≤9223372036854775807) (h:decide (bt s 0=45)=true) (z:1≤s.size):
  Calls Tryz.prog 224 #[.string s,.string {data:=#[45]}] w fun e w'=>e= .returned (.tuple #[.string (s.extract 1 s.size),.bool true])∧w'=w:=by
 go_enter Tryz.func224,Tryz.ntmps224
 go_wp2_with fail
 refine (zlv _ _ j).mono ?_
 rintro e w' ⟨rfl,rfl⟩
 go_wp2
 go_ret2
 exact⟨rfl,rfl⟩
theorem zhU (s:ByteArray) (w:World) (j:s.size≤9223372036854775807) (h:decide (bt s 0=45)=false):
  Calls Tryz.prog 204 #[.string s,.string {data:=#[45]}] w fun e w'=>e= .returned (.tuple #[.string s,.bool false])∧w'=w:=by
 go_enter Tryz.func204,Tryz.ntmps204
 go_wp2_with fail
 refine (ztP _ _ j h).mono ?_
 rintro e w' ⟨rfl,rfl⟩
 go_wp2
 go_ret2
 exact⟨rfl,rfl⟩
theorem ztR (s:ByteArray) (w:World) (j:s.size≤9223372036854775807) (h:decide (bt s 0=45)=true) (z:1≤s.size):
  Calls Tryz.prog 204 #[.string s,.string {data:=#[45]}] w fun e w'=>e= .returned (.tuple #[.string (s.extract 1 s.size),.bool true])∧w'=w:=by
 go_enter Tryz.func204,Tryz.ntmps204
 go_wp2_with fail
 refine (ztQ _ _ j h z).mono ?_
 rintro e w' ⟨rfl,rfl⟩
 go_wp2
 go_ret2
 exact⟨rfl,rfl⟩
theorem zlw (s:ByteArray) (h:bt s (pfx s)=48):(s.toList==[48])=true↔(pfx s=0∧s.size=1):=by
 have e:s.toList=(bsl s 0 s.size).map (fun n=>UInt8.ofNat n.toNat):=by
  rw[Lib.toList_data,←strOfNums_data,←zlO s]
 rw[e,beq_iff_eq]
 constructor
 ·intro k
  have j:=congrArg List.length k
  rw[List.length_map,zlL] at j
  have w:s.size=1:=by simpa using j
  rw[w] at k
  simp only[bsl,List.map_cons,List.map_nil,List.cons.injEq,and_true] at k
  have:=(zlu (bt s 0) (bt_nonneg s 0) (bt_le s 0) 48 (by decide)).1 k
  refine⟨?_,w⟩
  unfold pfx
  rw[if_neg (by omega)]
 ·rintro⟨A,z⟩
  rw[A] at h
  rw[z]
  simp[bsl,h]
def zdr (s:ByteArray) (k:Nat):Prop:=(∀j,j<k→zek (bt s (pfx s+j)))∧(1≤k→bt s (pfx s)≠48∨(pfx s=0∧s.size=1))
theorem ztS (s:ByteArray):zdr s 0:=⟨fun _ h=>by omega,fun h=>by omega⟩
theorem ztT {s:ByteArray} {k:Nat} (h:zdr s k) (w:k=s.size-pfx s) (j:1≤k) (z:k≤9):RdP s:=by
 subst w
 exact⟨j,z,h.1,h.2 j⟩
theorem zhV {s:ByteArray} {k:Nat} (h:zdr s k) (w:48≤bt s (pfx s+k)∧bt s (pfx s+k)≤57) (z:k=0→bt s (pfx s)≠48∨(pfx s=0∧s.size=1)):zdr s (k+1):=by
 refine⟨fun j A=>?_,fun _=>?_⟩
 ·by_cases e:j=k
  ·rw[e];exact w
  ·exact h.1 j (by omega)
 ·by_cases e:k=0
  ·exact z e
  ·exact h.2 (by omega)
theorem ztU {s:ByteArray} {k:Nat} (w:k<s.size-pfx s) (j: ¬(48≤bt s (pfx s+k)∧bt s (pfx s+k)≤57)): ¬RdP s:=fun h=>j (h.2.2.1 k w)
theorem ztV {s:ByteArray} (j:bt s (pfx s)=48) (h: ¬(pfx s=0∧s.size=1)): ¬RdP s:=fun k=>by
 rcases k.2.2.2 with e|e
 ·exact e j
 ·exact h e
theorem ztW {s:ByteArray} {k:Nat} (h:zdr s k) (j:k≤9):0≤dv s (pfx s) k∧dv s (pfx s) k≤1000000000:=by
 have a:=ztA s (pfx s) k h.1
 have b:=ztB k j
 omega
theorem ztX {s:ByteArray} (h:RdP s):rdV s=if pfx s=1 then-dv s (pfx s) (s.size-pfx s) else dv s (pfx s) (s.size-pfx s):=by
 rw[rdV,if_pos (zf5 h)]
 by_cases e:bt s 0=45
 ·have j:pfx s=1:=by simp[pfx,e]
  rw[j,if_pos rfl,if_pos rfl]
 ·have j:pfx s=0:=by simp[pfx,e]
  rw[j]
  rfl
theorem zlx (s t:ByteArray) (b:Bool) (w:World) (X:b=decide (pfx s=1)) (M: ∀k,bt t k=bt s (pfx s+k)) (O:t.size=s.size-pfx s)
  (hc: ∀w,Calls Tryz.prog 204 #[.string s,.string {data:=#[45]}] w fun e w'=>e= .returned (.tuple #[.string t,.bool b])∧w'=w) (h1:1≤t.size) (h9:t.size≤9):
  Calls Tryz.prog 184 #[.string s] w fun e w'=>e= .returned (.tuple #[.int .i64 (rdV s),.bool (zeK s)])∧w'=w:=by
 have HC:Hid (∀w,Calls Tryz.prog 204 #[.string s,.string {data:=#[45]}] w fun e w'=>e= .returned (.tuple #[.string t,.bool b])∧w'=w):=hc
 have J:Hid (∀k,bt t k=bt s (pfx s+k)):=M
 have L:Hid (t.size=s.size-pfx s):=O
 have ac:Hid (b=decide (pfx s=1)):=X
 clear hc M O X
 have t1:(1:Int)≤t.size:=by omega
 have t9:(t.size:Int)≤9:=by omega
 cases b
 all_goals
  go_enter Tryz.func184,Tryz.ntmps184
  go_wp2
  go_step3
  go_wp2_with (go_at_call 204;refine (HC.out _).mono ?_;rintro e w' ⟨rfl,rfl⟩)
  go_step3
  go_wp2
  go_loop [6,7,25] (fun n o i=>∃k:Nat,k≤t.size∧i= .int .i64 k∧n= .int .i64 (dv s (pfx s) k)∧o= .bool true∧zdr s k) (fun _ _ i=>(t.size-intOf i).toNat)
  case atStart=>exact⟨0,by omega,rfl,rfl,rfl,ztS s⟩
  case round=>
   obtain⟨k,hk,rfl,rfl,rfl,I⟩:=hrel
   have HT:Hid (zdr s k):=I
   have hv:=ztW I (by omega)
   clear I
   by_cases aa:k<t.size
   ·have ae:=bt_nonneg t k
    have ag:=bt_le t k
    have hb:=get_bt t
    by_cases Y:48≤bt t k∧bt t k≤57
    ·obtain⟨H,A⟩:=Y
     have HD:Hid (dv s (pfx s) (k+1)=10*dv s (pfx s) k+(bt t k-48)):=by
      show dv s (pfx s) (k+1)=_
      rw[dv,J.out k];omega
     by_cases N:(bt t k-48==0)=true
     ·by_cases z:((k:Int)==0)=true
      ·have Z:k=0:=by simpa using z
       have U:bt s (pfx s)=48:=by
        have V:=J.out k
        rw[Z] at V
        rw[Z] at N
        have e2:bt t 0-48=0:=by simpa using N
        rw[Nat.add_zero] at V
        omega
       by_cases hq:(s.toList==[48])=true
       ·have j:Hid (zdr s (k+1)):=zhV HT.out (by rw[←J.out k];exact⟨H,A⟩) (fun _=>.inr ((zlw s U).1 hq))
        clear Z U
        go_wp2
        go_round
        case rel=>exact⟨k+1,by omega,by go_num,by rw[HD.out],rfl,j.out⟩
        case measure=>simp[intOf];omega
       ·have j:Hid (¬RdP s):=ztV U (fun h=>hq ((zlw s U).2 h))
        have af:(s.toList==[48])=false:=by simpa using hq
        clear Z U hq
        go_wp2
        go_ret2
        exact⟨zd7 (by rw[zel j.out]) (zd6 j.out).symm,rfl⟩
      ·have j:Hid (zdr s (k+1)):=zhV HT.out (by rw[←J.out k];exact⟨H,A⟩) (fun e=>absurd (show ((k:Int)==0)=true by rw[e];rfl) z)
       have ad:((k:Int)==0)=false:=by simpa using z
       clear z
       go_wp2
       go_round
       case rel=>exact⟨k+1,by omega,by go_num,by rw[HD.out],rfl,j.out⟩
       case measure=>simp[intOf];omega
     ·have j:Hid (zdr s (k+1)):=zhV HT.out (by rw[←J.out k];exact⟨H,A⟩) (fun e=>by
       left
       intro ab
       apply N
       have V:=J.out k
       rw[e,Nat.add_zero] at V
       rw[e,V,ab]
       rfl)
      have ah:(bt t k-48==0)=false:=by simpa using N
      clear N
      go_wp2
      go_round
      case rel=>exact⟨k+1,by omega,by go_num,by rw[HD.out],rfl,j.out⟩
      case measure=>simp[intOf];omega
    ·have j:Hid (¬RdP s):=ztU (k:=k) (by rw[←L.out];exact aa) (by rw[←J.out k];exact Y)
     by_cases H:48≤bt t k
     ·have A:57<bt t k:=by omega
      clear Y
      go_wp2
      go_ret2
      exact⟨zd7 (by rw[zel j.out]) (zd6 j.out).symm,rfl⟩
     ·clear Y
      go_wp2
      go_ret2
      exact⟨zd7 (by rw[zel j.out]) (zd6 j.out).symm,rfl⟩
   ·have HY:Hid (RdP s):=ztT HT.out (by rw[←L.out];omega) (by omega) (by omega)
    have HK:Hid (k=s.size-pfx s):=by show k=s.size-pfx s;rw[←L.out];omega
    go_wp2
    go_ret2
    refine⟨zd7 ?_ (zf5 HY.out).symm,rfl⟩
    rw[ztX HY.out,HK.out]
    have:=ac.out
    simp at this
    simp[this]
theorem ztY (s:ByteArray) (k:Nat):bt (s.extract 1 s.size) k=bt s (1+k):=by
 rw[zdt,zdt,Lib.extract_data,List.take_of_length_le (by rw[List.length_drop,Array.length_toList];exact Nat.le_refl _),List.map_drop]
 simp only[List.getD,List.getElem?_drop]
theorem ztZ (s:ByteArray):(s.extract 1 s.size).size=s.size-1:=by simp
theorem zua (s:ByteArray) (w:World) (M:s.size≤9223372036854775807):
  Calls Tryz.prog 184 #[.string s] w fun e w'=>e= .returned (.tuple #[.int .i64 (rdV s),.bool (zeK s)])∧w'=w:=by
 by_cases I:bt s 0=45
 ·have j:pfx s=1:=by simp[pfx,I]
  have O:=ztC s
  have H:decide (bt s 0=45)=true:=decide_eq_true I
  have X:1≤s.size:=by omega
  obtain⟨t,L⟩: ∃t,t=s.extract 1 s.size:=⟨_,rfl⟩
  have J: ∀w,Calls Tryz.prog 204 #[.string s,.string {data:=#[45]}] w fun e w'=>e= .returned (.tuple #[.string t,.bool true])∧w'=w:=by
   intro w
   rw[L]
   exact ztR s w M H X
  have A:t.size=s.size-pfx s:=by rw[L,j,ztZ s]
  by_cases h:1≤t.size∧t.size≤9
  ·exact zlx s t true w (by rw[j];rfl) (fun k=>by rw[L,j];exact ztY s k) A J h.1 h.2
  ·have z:Hid (¬RdP s):=fun k=>h (by rw[A];exact⟨k.1,k.2.1⟩)
   have N:Hid (∀w,Calls Tryz.prog 204 #[.string s,.string {data:=#[45]}] w fun e w'=>e= .returned (.tuple #[.string t,.bool true])∧w'=w):=J
   have U:t.size≤9223372036854775807:=by omega
   clear J A L O H j I
   by_cases Y:1≤t.size
   ·have V:(9:Int)<t.size:=by omega
    clear h
    go_enter Tryz.func184,Tryz.ntmps184
    go_wp2
    go_step3
    go_wp2_with (go_at_call 204;refine (N.out _).mono ?_;rintro e w' ⟨rfl,rfl⟩)
    try rw[Exit.noGoto_ret]
    go_ret2
    exact⟨zd7 (by rw[zel z.out]) (zd6 z.out).symm,rfl⟩
   ·clear h
    go_enter Tryz.func184,Tryz.ntmps184
    go_wp2
    go_step3
    go_wp2_with (go_at_call 204;refine (N.out _).mono ?_;rintro e w' ⟨rfl,rfl⟩)
    try rw[Exit.noGoto_ret]
    go_ret2
    exact⟨zd7 (by rw[zel z.out]) (zd6 z.out).symm,rfl⟩
 ·have j:pfx s=0:=by simp[pfx,I]
  have H:decide (bt s 0=45)=false:=decide_eq_false I
  have J:=fun w=>zhU s w M H
  by_cases h:1≤s.size∧s.size≤9
  ·exact zlx s s false w (by rw[j];rfl) (fun k=>by rw[j,Nat.zero_add]) (by rw[j];rfl) J h.1 h.2
  ·have z:Hid (¬RdP s):=fun k=>h (by have a:=k.1;have b:=k.2.1;rw[j] at a b;exact⟨a,b⟩)
   clear J j I
   by_cases Y:1≤s.size
   ·have V:(9:Int)<s.size:=by omega
    clear h
    go_enter Tryz.func184,Tryz.ntmps184
    go_wp2
    go_step3
    go_wp2_with (go_at_call 204;refine (zhU _ _ M H).mono ?_;rintro e w' ⟨rfl,rfl⟩)
    try rw[Exit.noGoto_ret]
    go_ret2
    exact⟨zd7 (by rw[zel z.out]) (zd6 z.out).symm,rfl⟩
   ·clear h
    go_enter Tryz.func184,Tryz.ntmps184
    go_wp2
    go_step3
    go_wp2_with (go_at_call 204;refine (zhU _ _ M H).mono ?_;rintro e w' ⟨rfl,rfl⟩)
    try rw[Exit.noGoto_ret]
    go_ret2
    exact⟨zd7 (by rw[zel z.out]) (zd6 z.out).symm,rfl⟩
end Go.Proofs.YtjdddblpfbmpaaaGreat
