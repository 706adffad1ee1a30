/-
  Plain facts behind impl.Lex: a byte that is one of some,where a comment ends,a beginning of two /,a number's text. No program is spoken of.
  What impl.ReadDec answers: the walk.
-/
import Derived.Lib.IndexLaws
import Derived.Test.YtcidlffeeninbaaGreatClImplLexAToReadDecMath
import Derived.WalkMore
namespace Go.Proofs.YtcidlffeeninbaaGreat
set_option maxHeartbeats 1600000
open Go.RowKit Go.PlainAid
theorem ztE (s:ByteArray) (k c:Nat) (D:c<256):s.data.toList[k]? =some (UInt8.ofNat c)↔k<s.size∧bt s k=(c:Int):=by
 by_cases w:k<s.size
 ·have q:k<s.data.toList.length:=by rw[Array.length_toList];exact w
  have A:bt s k=((s.data.toList[k]).toNat:Int):=by rw[zdu];simp[List.getD,List.getElem?_eq_getElem q]
  have z:(UInt8.ofNat c).toNat=c:=by rw[UInt8.toNat_ofNat'];omega
  rw[List.getElem?_eq_getElem q,A]
  refine⟨fun h=>⟨w,by simp only[Option.some.injEq] at h;rw[h,z]⟩,fun h=>?_⟩
  have E:=h.2
  have:(s.data.toList[k])=UInt8.ofNat c:=by
   apply UInt8.toNat_inj.1
   rw[z]
   omega
  rw[this]
 ·have q:s.data.toList.length≤k:=by rw[Array.length_toList];exact Nat.le_of_not_lt w
  rw[List.getElem?_eq_none q]
  simp[w]
theorem zfE (s:ByteArray) (a k c:Nat) (h:c<256):(s.extract a s.size).data.toList[k]? =some (UInt8.ofNat c)↔a+k<s.size∧bt s (a+k)=(c:Int):=by
 rw[Lib.extract_data,←ztE _ _ _ h]
 have q:(s.data.toList.drop a).length=s.size-a:=by rw[List.length_drop,Array.length_toList];rfl
 rw[List.take_of_length_le (by omega),List.getElem?_drop]
def zfF (c:Int):Bool:=decide (zc8 c)
def zfG (c:Int):Bool:=decide (zbj c)
theorem ztF (c:Int) (w:0≤c) (q:c≤255):decide (0≤Lib.indexByte [9,10,13,32] c.toNat.toUInt8)=zfF c:=by
 obtain⟨n,rfl⟩: ∃n:Nat,c=n:=⟨c.toNat,by omega⟩
 have h: ∀n:Fin 256,decide (0≤Lib.indexByte [9,10,13,32] (UInt8.ofNat n.1))=zfF (n.1:Int):=by decide+kernel
 exact h ⟨n,by omega⟩
theorem ztG (c:Int) (w:0≤c) (q:c≤255):decide (0≤Lib.indexByte [123,125,40,41,44,59,61,46,42,43,45] c.toNat.toUInt8)=zfG c:=by
 obtain⟨n,rfl⟩: ∃n:Nat,c=n:=⟨c.toNat,by omega⟩
 have h: ∀n:Fin 256,decide (0≤Lib.indexByte [123,125,40,41,44,59,61,46,42,43,45] (UInt8.ofNat n.1))=zfG (n.1:Int):=by decide+kernel
 exact h ⟨n,by omega⟩
theorem ztH {s:ByteArray} {a:Nat} {o:Int} (H:0≤o) (h:Lib.indexByte (s.extract a s.size).data.toList (10:Int).toNat.toUInt8=o): ∃e:Nat,(a:Int)+o=(e:Int)∧za2 zbv s a e∧e<s.size:=by
 obtain⟨n,rfl⟩: ∃n:Nat,o=n:=⟨o.toNat,by omega⟩
 obtain⟨z,A⟩:=Lib.indexByte_some h
 have q:=(zfE s a n 10 (by decide)).1 z
 refine⟨a+n,by omega,⟨by omega,by omega,fun j E w=>decide_eq_true fun D=>?_,fun _=>by rw[zbv,q.2];rfl⟩,q.1⟩
 apply A (j-a) (by omega)
 have:=(zfE s a (j-a) 10 (by decide)).2 (by rw[show a+(j-a)=j from by omega];exact⟨by omega,D⟩)
 exact this
theorem ztI {s:ByteArray} {a:Nat} (D:a≤s.size) (h: ¬0≤Lib.indexByte (s.extract a s.size).data.toList (10:Int).toNat.toUInt8):za2 zbv s a s.size:=by
 have q:=Lib.indexByte_ge (s.extract a s.size).data.toList (10:Int).toNat.toUInt8
 have z:Lib.indexByte (s.extract a s.size).data.toList (10:Int).toNat.toUInt8= -1:=by omega
 refine⟨D,Nat.le_refl _,fun j E w=>decide_eq_true fun A=>?_,fun h=>absurd h (Nat.lt_irrefl _)⟩
 apply Lib.indexByte_none z (j-a)
 have:=(zfE s a (j-a) 10 (by decide)).2 (by rw[show a+(j-a)=j from by omega];exact⟨by omega,A⟩)
 exact this
theorem ztJ {s:ByteArray} {a c:Nat} (w:a<s.size) (q:zcv s a) (h:za2 zbv s a c):a<c:=by
 rcases Nat.lt_or_ge a c with k|k
 ·exact k
 ·have z:c=a:=by have:=h.1;omega
  subst z
  have:=h.2.2.2 w
  rw[zbv,q.1] at this
  simp at this
theorem ztK (l:List UInt8) (x y:UInt8):[x,y].isPrefixOf l=true↔l[0]? =some x∧l[1]? =some y:=by
 match l with
 |[]=>simp
 |[p]=>simp
 |p::q::r=>
  simp
  exact⟨fun h=>⟨h.1.symm,h.2.symm⟩,fun h=>⟨h.1.symm,h.2.symm⟩⟩
def zgH (s:ByteArray) (a:Nat):Bool:=decide (zcv s a)
theorem ztL (s:ByteArray) (a:Nat):Lib.hasPrefix (s.extract a s.size).data.toList [47,47]=zgH s a:=by
 rw[Bool.eq_iff_iff,Lib.hasPrefix,ztK,zgH,decide_eq_true_eq]
 have w:=zfE s a 0 47 (by decide)
 have q:=zfE s a 1 47 (by decide)
 rw[Nat.add_zero] at w
 constructor
 ·rintro⟨z,h⟩
  exact⟨(w.1 z).2,(q.1 h).1,(q.1 h).2⟩
 ·rintro⟨z,h,A⟩
  exact⟨w.2 ⟨by omega,z⟩,q.2 ⟨h,A⟩⟩
theorem zeU (s:ByteArray) (a e k:Nat) (_:e≤s.size) (q:a+k<e):bt (s.extract a e) k=bt s (a+k):=by
 rw[zdu,zdu,Lib.extract_data]
 have h:s.data.toList.length=s.size:=Array.length_toList
 simp only[List.getD,List.getElem?_map]
 rw[List.getElem?_take,if_pos (by omega),List.getElem?_drop]
theorem zeV (s:ByteArray) (a e:Nat) (h:e≤s.size):(s.extract a e).size=e-a:=by rw[ByteArray.size_extract];omega
theorem zlG (s:ByteArray) (a e:Nat) (h:e≤s.size) (k:Nat) (w:a+k≤e):dv (s.extract a e) 0 k=zb9 s a k:=by
 induction k with
 |zero=>rfl
 |succ k q=>rw[dv,zb9,q (by omega),Nat.zero_add,zeU s a e k h (by omega)]
theorem zlH {s:ByteArray} {a e:Nat} (h:e≤s.size) (w:a<e) (q:zJ (bt s a)=true):pfx (s.extract a e)=0:=by
 unfold pfx
 rw[zeU s a e 0 h (by omega),Nat.add_zero,if_neg]
 rw[zcJ] at q
 omega
theorem zlI {s:ByteArray} {a e:Nat} {h:Bool} (z:a<s.size) (w:zJ (bt s a)=true) (q:za2 (zK h) s a e):a<e:=by
 rcases Nat.lt_or_ge a e with k|k
 ·exact k
 ·have A:e=a:=by have:=q.1;omega
  subst A
  have:=q.2.2.2 z
  simp[zK,w] at this
theorem ztM {s:ByteArray} {a e:Nat} {w:Bool} (V:a<s.size) (N:zJ (bt s a)=true) (E:za2 (zK w) s a e) (h:RdP (s.extract a e)) (O:rdV (s.extract a e)≤1000000):zaX s a w (rdV (s.extract a e)) e:=by
 have D:=zlI V N E
 have A:=E.2.1
 have z:=zlH A D N
 have I:=zeV s a e A
 obtain⟨J,K,H,L⟩:=h
 rw[z] at J K H L
 have U: ∀j,j<e-a→zeu (bt s (a+j)):=fun j X=>by
  have:=H j (by omega)
  rw[Nat.zero_add,zeU s a e j A (by omega)] at this
  exact this
 have q:e<s.size→zK w (bt s e)=false:=E.2.2.2
 refine⟨⟨E.1,A,fun j J K=>?_,fun h=>?_⟩,D,?_,?_,O,fun h=>?_⟩
 ·have:=U (j-a) (by omega)
  rw[show a+(j-a)=j from by omega] at this
  exact zcJ.2 this
 ·have:=q h
  simp[zK] at this
  exact this.2
 ·rcases L with g|g
  ·rw[zeU s a e 0 A (by omega),Nat.add_zero] at g
   exact .inr g
  ·left;have:=g.2;omega
 ·have M:zeT (s.extract a e)=true:=zfD ⟨by rw[z];exact J,by rw[z];exact K,by rw[z];exact H,by rw[z];exact L⟩
  rw[rdV,if_pos M,if_neg (by rw[z];decide),I,zlG s a e A _ (by omega)]
 ·have:=q h
  simp[zK] at this
  exact this.1
theorem ztN {s:ByteArray} {a e:Nat} {q:Bool} {n:Int} (h:zaX s a q n e):za2 (zK q) s a e:=
 ⟨h.1.1,h.1.2.1,fun j w z=>by simp[zK,h.1.2.2.1 j w z],fun k=>by simp[zK,h.1.2.2.2 k,h.2.2.2.2.2 k]⟩
theorem ztO {s:ByteArray} {a:Nat} (E:49≤bt s a) (h: ∀j,j<8→48≤bt s (a+j)):10000000≤zb9 s a 8:=by
 have q:=h 1 (by omega)
 have D:=h 2 (by omega)
 have H:=h 3 (by omega)
 have I:=h 4 (by omega)
 have A:=h 5 (by omega)
 have z:=h 6 (by omega)
 have w:=h 7 (by omega)
 simp only[zb9,Nat.add_zero]
 omega
theorem zlJ {s:ByteArray} {a e:Nat} {I:Bool} (X:a<s.size) (U:zJ (bt s a)=true) (L:za2 (zK I) s a e) (h: ¬RdP (s.extract a e)∨1000000<rdV (s.extract a e)): ∀n q,¬zaX s a I n q:=by
 intro n q V
 obtain rfl:=zfb (ztN V) L
 have K:=zlI X U L
 have D:=L.2.1
 have M:=zlH D K U
 have E:=zeV s a q D
 obtain⟨⟨_,_,w,_⟩,_,O,hv,hm,_⟩:=V
 have H:RdP (s.extract a q):=by
  unfold RdP
  rw[M,E]
  refine⟨by omega,?_,fun j N=>?_,?_⟩
  ·rcases Nat.lt_or_ge 9 (q-a) with g|g
   ·exfalso
    have A: ∀j,j<q-a→48≤bt s (a+j):=fun j N=>(zcJ.1 (w (a+j) (by omega) (by omega))).1
    have J:49≤bt s a:=by
     have:=A 0 (by omega)
     rw[Nat.add_zero] at this
     rcases O with z|z
     ·omega
     ·omega
    have Z:=ztO J (fun j N=>A j (by omega))
    have Y:=(ziA 8 (q-a) A (by omega)).2
    omega
   ·omega
  ·rw[Nat.zero_add,zeU s a q j D (by omega)]
   exact zcJ.1 (w (a+j) (by omega) (by omega))
  ·rw[zeU s a q 0 D (by omega),Nat.add_zero]
   rcases O with z|z
   ·right;exact⟨rfl,by omega⟩
   ·exact .inl z
 rcases h with h|h
 ·exact h H
 ·rw[rdV,if_pos (zfD H),if_neg (by rw[M];decide),E,zlG s a q D _ (by omega)] at h
  omega
theorem zlK (x:Int) (w:0≤x) (q:x≤255) (c:Nat) (z:c<256):UInt8.ofNat x.toNat=UInt8.ofNat c↔x=c:=by
 constructor
 ·intro h
  have:=congrArg UInt8.toNat h
  simp only[UInt8.toNat_ofNat'] at this
  omega
 ·intro h
  rw[h]
  rfl
theorem ztP (s:ByteArray) (h:1≤s.size):((s.extract 0 1).toList==[45])=decide (bt s 0=45):=by
 rw[zi9 s 1 h,Lib.toList_data,strOfNums_data]
 simp only[bsl,List.map_cons,List.map_nil]
 rw[Bool.eq_iff_iff,beq_iff_eq,decide_eq_true_eq]
 have:=zlK (bt s 0) (bt_nonneg s 0) (bt_le s 0) 45 (by decide)
 simp only[List.cons.injEq,and_true]
 exact this
theorem zlL (s:ByteArray) (w:World) (_:s.size≤9223372036854775807):
  Calls Tryz.prog 172 #[.string s,.string {data:=#[45]}] w fun e z=>e= .returned (.bool (decide (bt s 0=45)))∧z=w:=by
 by_cases h:1≤s.size
 ·have q:Hid (((s.extract 0 1).toList==[45])=decide (bt s 0=45)):=ztP s h
  go_enter Tryz.func172,Tryz.ntmps172
  go_wp2
  go_ret
  exact⟨zh q.out,rfl⟩
 ·have q:Hid (decide (bt s 0=45)=false):=by show decide (bt s 0=45)=false;rw[bt_end s (by omega)];rfl
  go_enter Tryz.func172,Tryz.ntmps172
  go_wp2
  go_ret
  exact⟨zh q.out.symm,rfl⟩
theorem ztQ (s:ByteArray) (w:World) (z:s.size≤9223372036854775807) (h:decide (bt s 0=45)=false):
  Calls Tryz.prog 212 #[.string s,.string {data:=#[45]}] w fun e q=>e= .returned (.tuple #[.string s,.bool false])∧q=w:=by
 go_enter Tryz.func212,Tryz.ntmps212
 go_wp2_with fail
 refine (zlL _ _ z).mono ?_
 rintro e q ⟨rfl,rfl⟩
 go_wp2
 go_ret2
 exact⟨rfl,rfl⟩
theorem ztR (s:ByteArray) (w:World) (z:s.size≤9223372036854775807) (h:decide (bt s 0=45)=true) (A:1≤s.size):
  Calls Tryz.prog 212 #[.string s,.string {data:=#[45]}] w fun e q=>e= .returned (.tuple #[.string (s.extract 1 s.size),.bool true])∧q=w:=by
 go_enter Tryz.func212,Tryz.ntmps212
 go_wp2_with fail
 refine (zlL _ _ z).mono ?_
 rintro e q ⟨rfl,rfl⟩
 go_wp2
 go_ret2
 exact⟨rfl,rfl⟩
theorem zif (s:ByteArray) (w:World) (z:s.size≤9223372036854775807) (h:decide (bt s 0=45)=false):
  Calls Tryz.prog 193 #[.string s,.string {data:=#[45]}] w fun e q=>e= .returned (.tuple #[.string s,.bool false])∧q=w:=by
 go_enter Tryz.func193,Tryz.ntmps193
 go_wp2_with fail
 refine (ztQ _ _ z h).mono ?_
 rintro e q ⟨rfl,rfl⟩
 go_wp2
 go_ret2
 exact⟨rfl,rfl⟩
theorem ztS (s:ByteArray) (w:World) (z:s.size≤9223372036854775807) (h:decide (bt s 0=45)=true) (A:1≤s.size):
  Calls Tryz.prog 193 #[.string s,.string {data:=#[45]}] w fun e q=>e= .returned (.tuple #[.string (s.extract 1 s.size),.bool true])∧q=w:=by
 go_enter Tryz.func193,Tryz.ntmps193
 go_wp2_with fail
 refine (ztR _ _ z h A).mono ?_
 rintro e q ⟨rfl,rfl⟩
 go_wp2
 go_ret2
 exact⟨rfl,rfl⟩
theorem zlM (s:ByteArray) (h:bt s (pfx s)=48):(s.toList==[48])=true↔(pfx s=0∧s.size=1):=by
 have e:s.toList=(bsl s 0 s.size).map (fun n=>UInt8.ofNat n.toNat):=by
  rw[Lib.toList_data,←strOfNums_data,←zm4 s]
 rw[e,beq_iff_eq]
 constructor
 ·intro k
  have w:=congrArg List.length k
  rw[List.length_map,zm1] at w
  have q:s.size=1:=by simpa using w
  rw[q] at k
  simp only[bsl,List.map_cons,List.map_nil,List.cons.injEq,and_true] at k
  have:=(zlK (bt s 0) (bt_nonneg s 0) (bt_le s 0) 48 (by decide)).1 k
  refine⟨?_,q⟩
  unfold pfx
  rw[if_neg (by omega)]
 ·rintro⟨z,A⟩
  rw[z] at h
  rw[A]
  simp[bsl,h]
def zdr (s:ByteArray) (k:Nat):Prop:=(∀j,j<k→zeu (bt s (pfx s+j)))∧(1≤k→bt s (pfx s)≠48∨(pfx s=0∧s.size=1))
theorem ztT (s:ByteArray):zdr s 0:=⟨fun _ h=>by omega,fun h=>by omega⟩
theorem ztU {s:ByteArray} {k:Nat} (h:zdr s k) (z:k=s.size-pfx s) (q:1≤k) (w:k≤9):RdP s:=by
 subst z
 exact⟨q,w,h.1,h.2 q⟩
theorem zig {s:ByteArray} {k:Nat} (h:zdr s k) (w:48≤bt s (pfx s+k)∧bt s (pfx s+k)≤57) (q:k=0→bt s (pfx s)≠48∨(pfx s=0∧s.size=1)):zdr s (k+1):=by
 refine⟨fun j z=>?_,fun _=>?_⟩
 ·by_cases e:j=k
  ·rw[e];exact w
  ·exact h.1 j (by omega)
 ·by_cases e:k=0
  ·exact q e
  ·exact h.2 (by omega)
theorem ztV {s:ByteArray} {k:Nat} (q:k<s.size-pfx s) (w: ¬(48≤bt s (pfx s+k)∧bt s (pfx s+k)≤57)): ¬RdP s:=fun h=>w (h.2.2.1 k q)
theorem ztW {s:ByteArray} (q:bt s (pfx s)=48) (h: ¬(pfx s=0∧s.size=1)): ¬RdP s:=fun k=>by
 rcases k.2.2.2 with e|e
 ·exact e q
 ·exact h e
theorem ztX {s:ByteArray} {k:Nat} (h:zdr s k) (q:k≤9):0≤dv s (pfx s) k∧dv s (pfx s) k≤1000000000:=by
 have a:=ztB s (pfx s) k h.1
 have b:=ztC k q
 omega
theorem ztY {s:ByteArray} (h:RdP s):rdV s=if pfx s=1 then-dv s (pfx s) (s.size-pfx s) else dv s (pfx s) (s.size-pfx s):=by
 rw[rdV,if_pos (zfD h)]
 by_cases e:bt s 0=45
 ·have q:pfx s=1:=by simp[pfx,e]
  rw[q,if_pos rfl,if_pos rfl]
 ·have q:pfx s=0:=by simp[pfx,e]
  rw[q]
  rfl
theorem zlN (s t:ByteArray) (b:Bool) (w:World) (N:b=decide (pfx s=1)) (U: ∀k,bt t k=bt s (pfx s+k)) (L:t.size=s.size-pfx s)
  (hc: ∀w,Calls Tryz.prog 193 #[.string s,.string {data:=#[45]}] w fun e J=>e= .returned (.tuple #[.string t,.bool b])∧J=w) (h1:1≤t.size) (h9:t.size≤9):
  Calls Tryz.prog 174 #[.string s] w fun e J=>e= .returned (.tuple #[.int .i64 (rdV s),.bool (zeT s)])∧J=w:=by
 have HC:Hid (∀w,Calls Tryz.prog 193 #[.string s,.string {data:=#[45]}] w fun e J=>e= .returned (.tuple #[.string t,.bool b])∧J=w):=hc
 have E:Hid (∀k,bt t k=bt s (pfx s+k)):=U
 have H:Hid (t.size=s.size-pfx s):=L
 have ab:Hid (b=decide (pfx s=1)):=N
 clear hc U L N
 have t1:(1:Int)≤t.size:=by omega
 have t9:(t.size:Int)≤9:=by omega
 cases b
 all_goals
  go_enter Tryz.func174,Tryz.ntmps174
  go_wp2
  go_step3
  go_wp2_with (go_at_call 193;refine (HC.out _).mono ?_;rintro e J ⟨rfl,rfl⟩)
  go_step3
  go_wp2
  go_loop [6,7,25] (fun n o i=>∃k:Nat,k≤t.size∧i= .int .i64 k∧n= .int .i64 (dv s (pfx s) k)∧o= .bool true∧zdr s k) (fun _ _ i=>(t.size-intOf i).toNat)
  case atStart=>exact⟨0,by omega,rfl,rfl,rfl,ztT s⟩
  case round=>
   obtain⟨k,hk,rfl,rfl,rfl,I⟩:=hrel
   have Z:Hid (zdr s k):=I
   have hv:=ztX I (by omega)
   clear I
   by_cases aa:k<t.size
   ·have ag:=bt_nonneg t k
    have ah:=bt_le t k
    have hb:=get_bt t
    by_cases Y:48≤bt t k∧bt t k≤57
    ·obtain⟨A,D⟩:=Y
     have HD:Hid (dv s (pfx s) (k+1)=10*dv s (pfx s) k+(bt t k-48)):=by
      show dv s (pfx s) (k+1)=_
      rw[dv,E.out k];omega
     by_cases K:(bt t k-48==0)=true
     ·by_cases z:((k:Int)==0)=true
      ·have X:k=0:=by simpa using z
       have O:bt s (pfx s)=48:=by
        have M:=E.out k
        rw[X] at M
        rw[X] at K
        have e2:bt t 0-48=0:=by simpa using K
        rw[Nat.add_zero] at M
        omega
       by_cases V:(s.toList==[48])=true
       ·have q:Hid (zdr s (k+1)):=zig Z.out (by rw[←E.out k];exact⟨A,D⟩) (fun _=>.inr ((zlM s O).1 V))
        clear X O
        go_wp2
        go_round
        case rel=>exact⟨k+1,by omega,by go_num,by rw[HD.out],rfl,q.out⟩
        case measure=>simp[intOf];omega
       ·have q:Hid (¬RdP s):=ztW O (fun h=>V ((zlM s O).2 h))
        have af:(s.toList==[48])=false:=by simpa using V
        clear X O V
        go_wp2
        go_ret2
        exact⟨zd7 (by rw[zev q.out]) (zd4 q.out).symm,rfl⟩
      ·have q:Hid (zdr s (k+1)):=zig Z.out (by rw[←E.out k];exact⟨A,D⟩) (fun e=>absurd (show ((k:Int)==0)=true by rw[e];rfl) z)
       have ad:((k:Int)==0)=false:=by simpa using z
       clear z
       go_wp2
       go_round
       case rel=>exact⟨k+1,by omega,by go_num,by rw[HD.out],rfl,q.out⟩
       case measure=>simp[intOf];omega
     ·have q:Hid (zdr s (k+1)):=zig Z.out (by rw[←E.out k];exact⟨A,D⟩) (fun e=>by
       left
       intro ac
       apply K
       have M:=E.out k
       rw[e,Nat.add_zero] at M
       rw[e,M,ac]
       rfl)
      have ae:(bt t k-48==0)=false:=by simpa using K
      clear K
      go_wp2
      go_round
      case rel=>exact⟨k+1,by omega,by go_num,by rw[HD.out],rfl,q.out⟩
      case measure=>simp[intOf];omega
    ·have q:Hid (¬RdP s):=ztV (k:=k) (by rw[←H.out];exact aa) (by rw[←E.out k];exact Y)
     by_cases A:48≤bt t k
     ·have D:57<bt t k:=by omega
      clear Y
      go_wp2
      go_ret2
      exact⟨zd7 (by rw[zev q.out]) (zd4 q.out).symm,rfl⟩
     ·clear Y
      go_wp2
      go_ret2
      exact⟨zd7 (by rw[zev q.out]) (zd4 q.out).symm,rfl⟩
   ·have HY:Hid (RdP s):=ztU Z.out (by rw[←H.out];omega) (by omega) (by omega)
    have HK:Hid (k=s.size-pfx s):=by show k=s.size-pfx s;rw[←H.out];omega
    go_wp2
    go_ret2
    refine⟨zd7 ?_ (zfD HY.out).symm,rfl⟩
    rw[ztY HY.out,HK.out]
    have:=ab.out
    simp at this
    simp[this]
theorem ztZ (s:ByteArray) (k:Nat):bt (s.extract 1 s.size) k=bt s (1+k):=by
 rw[zdu,zdu,Lib.extract_data,List.take_of_length_le (by rw[List.length_drop,Array.length_toList];exact Nat.le_refl _),List.map_drop]
 simp only[List.getD,List.getElem?_drop]
theorem zua (s:ByteArray):(s.extract 1 s.size).size=s.size-1:=by simp
theorem zub (s:ByteArray) (w:World) (K:s.size≤9223372036854775807):
  Calls Tryz.prog 174 #[.string s] w fun e z=>e= .returned (.tuple #[.int .i64 (rdV s),.bool (zeT s)])∧z=w:=by
 by_cases I:bt s 0=45
 ·have q:pfx s=1:=by simp[pfx,I]
  have M:=ztD s
  have H:decide (bt s 0=45)=true:=decide_eq_true I
  have N:1≤s.size:=by omega
  obtain⟨t,J⟩: ∃t,t=s.extract 1 s.size:=⟨_,rfl⟩
  have E: ∀w,Calls Tryz.prog 193 #[.string s,.string {data:=#[45]}] w fun e z=>e= .returned (.tuple #[.string t,.bool true])∧z=w:=by
   intro w
   rw[J]
   exact ztS s w K H N
  have D:t.size=s.size-pfx s:=by rw[J,q,zua s]
  by_cases h:1≤t.size∧t.size≤9
  ·exact zlN s t true w (by rw[q];rfl) (fun k=>by rw[J,q];exact ztZ s k) D E h.1 h.2
  ·have A:Hid (¬RdP s):=fun k=>h (by rw[D];exact⟨k.1,k.2.1⟩)
   have L:Hid (∀w,Calls Tryz.prog 193 #[.string s,.string {data:=#[45]}] w fun e z=>e= .returned (.tuple #[.string t,.bool true])∧z=w):=E
   have U:t.size≤9223372036854775807:=by omega
   clear E D J M H q I
   by_cases O:1≤t.size
   ·have V:(9:Int)<t.size:=by omega
    clear h
    go_enter Tryz.func174,Tryz.ntmps174
    go_wp2
    go_step3
    go_wp2_with (go_at_call 193;refine (L.out _).mono ?_;rintro e z ⟨rfl,rfl⟩)
    try rw[Exit.noGoto_ret]
    go_ret2
    exact⟨zd7 (by rw[zev A.out]) (zd4 A.out).symm,rfl⟩
   ·clear h
    go_enter Tryz.func174,Tryz.ntmps174
    go_wp2
    go_step3
    go_wp2_with (go_at_call 193;refine (L.out _).mono ?_;rintro e z ⟨rfl,rfl⟩)
    try rw[Exit.noGoto_ret]
    go_ret2
    exact⟨zd7 (by rw[zev A.out]) (zd4 A.out).symm,rfl⟩
 ·have q:pfx s=0:=by simp[pfx,I]
  have H:decide (bt s 0=45)=false:=decide_eq_false I
  have E:=fun w=>zif s w K H
  by_cases h:1≤s.size∧s.size≤9
  ·exact zlN s s false w (by rw[q];rfl) (fun k=>by rw[q,Nat.zero_add]) (by rw[q];rfl) E h.1 h.2
  ·have A:Hid (¬RdP s):=fun k=>h (by have a:=k.1;have b:=k.2.1;rw[q] at a b;exact⟨a,b⟩)
   clear E q I
   by_cases O:1≤s.size
   ·have V:(9:Int)<s.size:=by omega
    clear h
    go_enter Tryz.func174,Tryz.ntmps174
    go_wp2
    go_step3
    go_wp2_with (go_at_call 193;refine (zif _ _ K H).mono ?_;rintro e z ⟨rfl,rfl⟩)
    try rw[Exit.noGoto_ret]
    go_ret2
    exact⟨zd7 (by rw[zev A.out]) (zd4 A.out).symm,rfl⟩
   ·clear h
    go_enter Tryz.func174,Tryz.ntmps174
    go_wp2
    go_step3
    go_wp2_with (go_at_call 193;refine (zif _ _ K H).mono ?_;rintro e z ⟨rfl,rfl⟩)
    try rw[Exit.noGoto_ret]
    go_ret2
    exact⟨zd7 (by rw[zev A.out]) (zd4 A.out).symm,rfl⟩
end Go.Proofs.YtcidlffeeninbaaGreat
