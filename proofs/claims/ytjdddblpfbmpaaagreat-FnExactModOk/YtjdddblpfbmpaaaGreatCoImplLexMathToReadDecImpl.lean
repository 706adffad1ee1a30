/-
  Plain facts behind impl.Lex: a byte that is one of some,where a comment ends,a beginning of two /,a number's text. No program is spoken of.
  What impl.ReadDec answers: the walk.
-/
import Derived.Lib.IndexLaws
import Derived.Test.YtjdddblpfbmpaaaGreatCoImplLexAToReadDecMath
import Derived.WalkMore
namespace Go.Proofs.YtjdddblpfbmpaaaGreat
set_option maxHeartbeats 1600000
open Go.RowKit Go.PlainAid
theorem znW (s:ByteArray) (k c:Nat) (A:c<256):s.data.toList[k]? =some (UInt8.ofNat c)↔k<s.size∧bt s k=(c:Int):=by
 by_cases j:k<s.size
 ·have n:k<s.data.toList.length:=by rw[Array.length_toList];exact j
  have w:bt s k=((s.data.toList[k]).toNat:Int):=by rw[zcQ];simp[List.getD,List.getElem?_eq_getElem n]
  have q:(UInt8.ofNat c).toNat=c:=by rw[UInt8.toNat_ofNat'];omega
  rw[List.getElem?_eq_getElem n,w]
  refine⟨fun h=>⟨j,by simp only[Option.some.injEq] at h;rw[h,q]⟩,fun h=>?_⟩
  have z:=h.2
  have:(s.data.toList[k])=UInt8.ofNat c:=by
   apply UInt8.toNat_inj.1
   rw[q]
   omega
  rw[this]
 ·have n:s.data.toList.length≤k:=by rw[Array.length_toList];exact Nat.le_of_not_lt j
  rw[List.getElem?_eq_none n]
  simp[j]
theorem ze0 (s:ByteArray) (a k c:Nat) (h:c<256):(s.extract a s.size).data.toList[k]? =some (UInt8.ofNat c)↔a+k<s.size∧bt s (a+k)=(c:Int):=by
 rw[Lib.extract_data,←znW _ _ _ h]
 have j:(s.data.toList.drop a).length=s.size-a:=by rw[List.length_drop,Array.length_toList];rfl
 rw[List.take_of_length_le (by omega),List.getElem?_drop]
def ze1 (c:Int):Bool:=decide (zbY c)
def ze2 (c:Int):Bool:=decide (zaP c)
theorem znX (c:Int) (q:0≤c) (j:c≤255):decide (0≤Lib.indexByte [9,10,13,32] c.toNat.toUInt8)=ze1 c:=by
 obtain⟨n,rfl⟩: ∃n:Nat,c=n:=⟨c.toNat,by omega⟩
 have h: ∀n:Fin 256,decide (0≤Lib.indexByte [9,10,13,32] (UInt8.ofNat n.1))=ze1 (n.1:Int):=by decide+kernel
 exact h ⟨n,by omega⟩
theorem znY (c:Int) (q:0≤c) (j:c≤255):decide (0≤Lib.indexByte [123,125,40,41,44,59,61,46,42,43,45] c.toNat.toUInt8)=ze2 c:=by
 obtain⟨n,rfl⟩: ∃n:Nat,c=n:=⟨c.toNat,by omega⟩
 have h: ∀n:Fin 256,decide (0≤Lib.indexByte [123,125,40,41,44,59,61,46,42,43,45] (UInt8.ofNat n.1))=ze2 (n.1:Int):=by decide+kernel
 exact h ⟨n,by omega⟩
theorem znZ {s:ByteArray} {a:Nat} {o:Int} (H:0≤o) (h:Lib.indexByte (s.extract a s.size).data.toList (10:Int).toNat.toUInt8=o): ∃e:Nat,(a:Int)+o=(e:Int)∧zas zaZ s a e∧e<s.size:=by
 obtain⟨n,rfl⟩: ∃n:Nat,o=n:=⟨o.toNat,by omega⟩
 obtain⟨A,w⟩:=Lib.indexByte_some h
 have q:=(ze0 s a n 10 (by decide)).1 A
 refine⟨a+n,by omega,⟨by omega,by omega,fun j z E=>decide_eq_true fun D=>?_,fun _=>by rw[zaZ,q.2];rfl⟩,q.1⟩
 apply w (j-a) (by omega)
 have:=(ze0 s a (j-a) 10 (by decide)).2 (by rw[show a+(j-a)=j from by omega];exact⟨by omega,D⟩)
 exact this
theorem zoa {s:ByteArray} {a:Nat} (q:a≤s.size) (h: ¬0≤Lib.indexByte (s.extract a s.size).data.toList (10:Int).toNat.toUInt8):zas zaZ s a s.size:=by
 have n:=Lib.indexByte_ge (s.extract a s.size).data.toList (10:Int).toNat.toUInt8
 have z:Lib.indexByte (s.extract a s.size).data.toList (10:Int).toNat.toUInt8= -1:=by omega
 refine⟨q,Nat.le_refl _,fun j w D=>decide_eq_true fun A=>?_,fun h=>absurd h (Nat.lt_irrefl _)⟩
 apply Lib.indexByte_none z (j-a)
 have:=(ze0 s a (j-a) 10 (by decide)).2 (by rw[show a+(j-a)=j from by omega];exact⟨by omega,A⟩)
 exact this
theorem zob {s:ByteArray} {a c:Nat} (n:a<s.size) (j:zbI s a) (h:zas zaZ s a c):a<c:=by
 rcases Nat.lt_or_ge a c with k|k
 ·exact k
 ·have q:c=a:=by have:=h.1;omega
  subst q
  have:=h.2.2.2 n
  rw[zaZ,j.1] at this
  simp at this
theorem zoc (l:List UInt8) (x y:UInt8):[x,y].isPrefixOf l=true↔l[0]? =some x∧l[1]? =some y:=by
 match l with
 |[]=>simp
 |[p]=>simp
 |p::q::r=>
  simp
  exact⟨fun h=>⟨h.1.symm,h.2.symm⟩,fun h=>⟨h.1.symm,h.2.symm⟩⟩
def zfq (s:ByteArray) (a:Nat):Bool:=decide (zbI s a)
theorem zod (s:ByteArray) (a:Nat):Lib.hasPrefix (s.extract a s.size).data.toList [47,47]=zfq s a:=by
 rw[Bool.eq_iff_iff,Lib.hasPrefix,zoc,zfq,decide_eq_true_eq]
 have q:=ze0 s a 0 47 (by decide)
 have n:=ze0 s a 1 47 (by decide)
 rw[Nat.add_zero] at q
 constructor
 ·rintro⟨j,h⟩
  exact⟨(q.1 j).2,(n.1 h).1,(n.1 h).2⟩
 ·rintro⟨j,h,w⟩
  exact⟨q.2 ⟨by omega,j⟩,n.2 ⟨h,w⟩⟩
theorem zdT (s:ByteArray) (a e k:Nat) (_:e≤s.size) (j:a+k<e):bt (s.extract a e) k=bt s (a+k):=by
 rw[zcQ,zcQ,Lib.extract_data]
 have h:s.data.toList.length=s.size:=Array.length_toList
 simp only[List.getD,List.getElem?_map]
 rw[List.getElem?_take,if_pos (by omega),List.getElem?_drop]
theorem zdU (s:ByteArray) (a e:Nat) (h:e≤s.size):(s.extract a e).size=e-a:=by rw[ByteArray.size_extract];omega
theorem ziI (s:ByteArray) (a e:Nat) (j:e≤s.size) (k:Nat) (n:a+k≤e):dv (s.extract a e) 0 k=zbk s a k:=by
 induction k with
 |zero=>rfl
 |succ k h=>rw[dv,zbk,h (by omega),Nat.zero_add,zdT s a e k j (by omega)]
theorem ziJ {s:ByteArray} {a e:Nat} (j:e≤s.size) (n:a<e) (h:zD (bt s a)=true):pfx (s.extract a e)=0:=by
 unfold pfx
 rw[zdT s a e 0 j (by omega),Nat.add_zero,if_neg]
 rw[zcg] at h
 omega
theorem ziK {s:ByteArray} {a e:Nat} {h:Bool} (w:a<s.size) (n:zD (bt s a)=true) (j:zas (zE h) s a e):a<e:=by
 rcases Nat.lt_or_ge a e with k|k
 ·exact k
 ·have q:e=a:=by have:=j.1;omega
  subst q
  have:=j.2.2.2 w
  simp[zE,n] at this
theorem zoe {s:ByteArray} {a e:Nat} {q:Bool} (U:a<s.size) (M:zD (bt s a)=true) (D:zas (zE q) s a e) (h:RdP (s.extract a e)) (O:rdV (s.extract a e)≤1000000):zaG s a q (rdV (s.extract a e)) e:=by
 have A:=ziK U M D
 have z:=D.2.1
 have w:=ziJ z A M
 have L:=zdU s a e z
 obtain⟨J,H,K,I⟩:=h
 rw[w] at J H K I
 have N: ∀j,j<e-a→zds (bt s (a+j)):=fun j V=>by
  have:=K j (by omega)
  rw[Nat.zero_add,zdT s a e j z (by omega)] at this
  exact this
 have n:e<s.size→zE q (bt s e)=false:=D.2.2.2
 refine⟨⟨D.1,z,fun j J H=>?_,fun h=>?_⟩,A,?_,?_,O,fun h=>?_⟩
 ·have:=N (j-a) (by omega)
  rw[show a+(j-a)=j from by omega] at this
  exact zcg.2 this
 ·have:=n h
  simp[zE] at this
  exact this.2
 ·rcases I with g|g
  ·rw[zdT s a e 0 z (by omega),Nat.add_zero] at g
   exact .inr g
  ·left;have:=g.2;omega
 ·have E:zdS (s.extract a e)=true:=zez ⟨by rw[w];exact J,by rw[w];exact H,by rw[w];exact K,by rw[w];exact I⟩
  rw[rdV,if_pos E,if_neg (by rw[w];decide),L,ziI s a e z _ (by omega)]
 ·have:=n h
  simp[zE] at this
  exact this.1
theorem zof {s:ByteArray} {a e:Nat} {q:Bool} {n:Int} (h:zaG s a q n e):zas (zE q) s a e:=
 ⟨h.1.1,h.1.2.1,fun j w z=>by simp[zE,h.1.2.2.1 j w z],fun k=>by simp[zE,h.1.2.2.2 k,h.2.2.2.2.2 k]⟩
theorem zog {s:ByteArray} {a:Nat} (D:49≤bt s a) (h: ∀j,j<8→48≤bt s (a+j)):10000000≤zbk s a 8:=by
 have z:=h 1 (by omega)
 have n:=h 2 (by omega)
 have w:=h 3 (by omega)
 have q:=h 4 (by omega)
 have A:=h 5 (by omega)
 have H:=h 6 (by omega)
 have E:=h 7 (by omega)
 simp only[zbk,Nat.add_zero]
 omega
theorem ziL {s:ByteArray} {a e:Nat} {D:Bool} (X:a<s.size) (M:zD (bt s a)=true) (K:zas (zE D) s a e) (h: ¬RdP (s.extract a e)∨1000000<rdV (s.extract a e)): ∀n q,¬zaG s a D n q:=by
 intro n q U
 obtain rfl:=zdZ (zof U) K
 have J:=ziK X M K
 have H:=K.2.1
 have O:=ziJ H J M
 have E:=zdU s a q H
 obtain⟨⟨_,_,w,_⟩,_,N,hv,hm,_⟩:=U
 have I:RdP (s.extract a q):=by
  unfold RdP
  rw[O,E]
  refine⟨by omega,?_,fun j V=>?_,?_⟩
  ·rcases Nat.lt_or_ge 9 (q-a) with g|g
   ·exfalso
    have A: ∀j,j<q-a→48≤bt s (a+j):=fun j V=>(zcg.1 (w (a+j) (by omega) (by omega))).1
    have L:49≤bt s a:=by
     have:=A 0 (by omega)
     rw[Nat.add_zero] at this
     rcases N with z|z
     ·omega
     ·omega
    have Z:=zog L (fun j V=>A j (by omega))
    have Y:=(zgA 8 (q-a) A (by omega)).2
    omega
   ·omega
  ·rw[Nat.zero_add,zdT s a q j H (by omega)]
   exact zcg.1 (w (a+j) (by omega) (by omega))
  ·rw[zdT s a q 0 H (by omega),Nat.add_zero]
   rcases N with z|z
   ·right;exact⟨rfl,by omega⟩
   ·exact .inl z
 rcases h with h|h
 ·exact h I
 ·rw[rdV,if_pos (zez I),if_neg (by rw[O];decide),E,ziI s a q H _ (by omega)] at h
  omega
theorem ziM (x:Int) (q:0≤x) (j:x≤255) (c:Nat) (n:c<256):UInt8.ofNat x.toNat=UInt8.ofNat c↔x=c:=by
 constructor
 ·intro h
  have:=congrArg UInt8.toNat h
  simp only[UInt8.toNat_ofNat'] at this
  omega
 ·intro h
  rw[h]
  rfl
theorem zoh (s:ByteArray) (h:1≤s.size):((s.extract 0 1).toList==[45])=decide (bt s 0=45):=by
 rw[zg8 s 1 h,Lib.toList_data,strOfNums_data]
 simp only[bsl,List.map_cons,List.map_nil]
 rw[Bool.eq_iff_iff,beq_iff_eq,decide_eq_true_eq]
 have:=ziM (bt s 0) (bt_nonneg s 0) (bt_le s 0) 45 (by decide)
 simp only[List.cons.injEq,and_true]
 exact this
theorem ziN (s:ByteArray) (w:World) (_:s.size≤9223372036854775807):
  Calls Tryz.prog 177 #[.string s,.string {data:=#[45]}] w fun e n=>e= .returned (.bool (decide (bt s 0=45)))∧n=w:=by
 by_cases h:1≤s.size
 ·have j:Hid (((s.extract 0 1).toList==[45])=decide (bt s 0=45)):=zoh s h
  go_enter Tryz.func177,Tryz.ntmps177
  go_wp2
  go_ret
  exact⟨zl j.out,rfl⟩
 ·have j:Hid (decide (bt s 0=45)=false):=by show decide (bt s 0=45)=false;rw[bt_end s (by omega)];rfl
  go_enter Tryz.func177,Tryz.ntmps177
  go_wp2
  go_ret
  exact⟨zl j.out.symm,rfl⟩
theorem zoi (s:ByteArray) (w:World) (n:s.size≤9223372036854775807) (h:decide (bt s 0=45)=false):
  Calls Tryz.prog 224 #[.string s,.string {data:=#[45]}] w fun e j=>e= .returned (.tuple #[.string s,.bool false])∧j=w:=by
 go_enter Tryz.func224,Tryz.ntmps224
 go_wp2_with fail
 refine (ziN _ _ n).mono ?_
 rintro e j ⟨rfl,rfl⟩
 go_wp2
 go_ret2
 exact⟨rfl,rfl⟩
theorem zoj (s:ByteArray) (w:World) (n:s.size≤9223372036854775807) (h:decide (bt s 0=45)=true) (q:1≤s.size):
  Calls Tryz.prog 224 #[.string s,.string {data:=#[45]}] w fun e j=>e= .returned (.tuple #[.string (s.extract 1 s.size),.bool true])∧j=w:=by
 go_enter Tryz.func224,Tryz.ntmps224
 go_wp2_with fail
 refine (ziN _ _ n).mono ?_
 rintro e j ⟨rfl,rfl⟩
 go_wp2
 go_ret2
 exact⟨rfl,rfl⟩
theorem zgm (s:ByteArray) (w:World) (n:s.size≤9223372036854775807) (h:decide (bt s 0=45)=false):
  Calls Tryz.prog 204 #[.string s,.string {data:=#[45]}] w fun e j=>e= .returned (.tuple #[.string s,.bool false])∧j=w:=by
 go_enter Tryz.func204,Tryz.ntmps204
 go_wp2_with fail
 refine (zoi _ _ n h).mono ?_
 rintro e j ⟨rfl,rfl⟩
 go_wp2
 go_ret2
 exact⟨rfl,rfl⟩
theorem zok (s:ByteArray) (w:World) (n:s.size≤9223372036854775807) (h:decide (bt s 0=45)=true) (q:1≤s.size):
  Calls Tryz.prog 204 #[.string s,.string {data:=#[45]}] w fun e j=>e= .returned (.tuple #[.string (s.extract 1 s.size),.bool true])∧j=w:=by
 go_enter Tryz.func204,Tryz.ntmps204
 go_wp2_with fail
 refine (zoj _ _ n h q).mono ?_
 rintro e j ⟨rfl,rfl⟩
 go_wp2
 go_ret2
 exact⟨rfl,rfl⟩
theorem ziO (s:ByteArray) (h:bt s (pfx s)=48):(s.toList==[48])=true↔(pfx s=0∧s.size=1):=by
 have e:s.toList=(bsl s 0 s.size).map (fun n=>UInt8.ofNat n.toNat):=by
  rw[Lib.toList_data,←strOfNums_data,←zjB s]
 rw[e,beq_iff_eq]
 constructor
 ·intro k
  have j:=congrArg List.length k
  rw[List.length_map,zj7] at j
  have q:s.size=1:=by simpa using j
  rw[q] at k
  simp only[bsl,List.map_cons,List.map_nil,List.cons.injEq,and_true] at k
  have:=(ziM (bt s 0) (bt_nonneg s 0) (bt_le s 0) 48 (by decide)).1 k
  refine⟨?_,q⟩
  unfold pfx
  rw[if_neg (by omega)]
 ·rintro⟨z,w⟩
  rw[z] at h
  rw[w]
  simp[bsl,h]
def zc9 (s:ByteArray) (k:Nat):Prop:=(∀j,j<k→zds (bt s (pfx s+j)))∧(1≤k→bt s (pfx s)≠48∨(pfx s=0∧s.size=1))
theorem zol (s:ByteArray):zc9 s 0:=⟨fun _ h=>by omega,fun h=>by omega⟩
theorem zom {s:ByteArray} {k:Nat} (h:zc9 s k) (n:k=s.size-pfx s) (j:1≤k) (q:k≤9):RdP s:=by
 subst n
 exact⟨j,q,h.1,h.2 j⟩
theorem zgn {s:ByteArray} {k:Nat} (h:zc9 s k) (n:48≤bt s (pfx s+k)∧bt s (pfx s+k)≤57) (q:k=0→bt s (pfx s)≠48∨(pfx s=0∧s.size=1)):zc9 s (k+1):=by
 refine⟨fun j w=>?_,fun _=>?_⟩
 ·by_cases e:j=k
  ·rw[e];exact n
  ·exact h.1 j (by omega)
 ·by_cases e:k=0
  ·exact q e
  ·exact h.2 (by omega)
theorem zon {s:ByteArray} {k:Nat} (n:k<s.size-pfx s) (j: ¬(48≤bt s (pfx s+k)∧bt s (pfx s+k)≤57)): ¬RdP s:=fun h=>j (h.2.2.1 k n)
theorem zoo {s:ByteArray} (j:bt s (pfx s)=48) (h: ¬(pfx s=0∧s.size=1)): ¬RdP s:=fun k=>by
 rcases k.2.2.2 with e|e
 ·exact e j
 ·exact h e
theorem zop {s:ByteArray} {k:Nat} (h:zc9 s k) (j:k≤9):0≤dv s (pfx s) k∧dv s (pfx s) k≤1000000000:=by
 have a:=znT s (pfx s) k h.1
 have b:=znU k j
 omega
theorem zoq {s:ByteArray} (h:RdP s):rdV s=if pfx s=1 then-dv s (pfx s) (s.size-pfx s) else dv s (pfx s) (s.size-pfx s):=by
 rw[rdV,if_pos (zez h)]
 by_cases e:bt s 0=45
 ·have j:pfx s=1:=by simp[pfx,e]
  rw[j,if_pos rfl,if_pos rfl]
 ·have j:pfx s=0:=by simp[pfx,e]
  rw[j]
  rfl
theorem ziP (s t:ByteArray) (b:Bool) (w:World) (O:b=decide (pfx s=1)) (J: ∀k,bt t k=bt s (pfx s+k)) (L:t.size=s.size-pfx s)
  (hc: ∀w,Calls Tryz.prog 204 #[.string s,.string {data:=#[45]}] w fun e I=>e= .returned (.tuple #[.string t,.bool b])∧I=w) (h1:1≤t.size) (h9:t.size≤9):
  Calls Tryz.prog 184 #[.string s] w fun e I=>e= .returned (.tuple #[.int .i64 (rdV s),.bool (zdS s)])∧I=w:=by
 have HC:Hid (∀w,Calls Tryz.prog 204 #[.string s,.string {data:=#[45]}] w fun e I=>e= .returned (.tuple #[.string t,.bool b])∧I=w):=hc
 have E:Hid (∀k,bt t k=bt s (pfx s+k)):=J
 have H:Hid (t.size=s.size-pfx s):=L
 have ab:Hid (b=decide (pfx s=1)):=O
 clear hc J L O
 have t1:(1:Int)≤t.size:=by omega
 have t9:(t.size:Int)≤9:=by omega
 cases b
 all_goals
  go_enter Tryz.func184,Tryz.ntmps184
  go_wp2
  go_step3
  go_wp2_with (go_at_call 204;refine (HC.out _).mono ?_;rintro e I ⟨rfl,rfl⟩)
  go_step3
  go_wp2
  go_loop [6,7,25] (fun n o i=>∃k:Nat,k≤t.size∧i= .int .i64 k∧n= .int .i64 (dv s (pfx s) k)∧o= .bool true∧zc9 s k) (fun _ _ i=>(t.size-intOf i).toNat)
  case atStart=>exact⟨0,by omega,rfl,rfl,rfl,zol s⟩
  case round=>
   obtain⟨k,hk,rfl,rfl,rfl,D⟩:=hrel
   have Y:Hid (zc9 s k):=D
   have hv:=zop D (by omega)
   clear D
   by_cases Z:k<t.size
   ·have ad:=bt_nonneg t k
    have af:=bt_le t k
    have hb:=get_bt t
    by_cases U:48≤bt t k∧bt t k≤57
    ·obtain⟨A,z⟩:=U
     have HD:Hid (dv s (pfx s) (k+1)=10*dv s (pfx s) k+(bt t k-48)):=by
      show dv s (pfx s) (k+1)=_
      rw[dv,E.out k];omega
     by_cases K:(bt t k-48==0)=true
     ·by_cases q:((k:Int)==0)=true
      ·have V:k=0:=by simpa using q
       have M:bt s (pfx s)=48:=by
        have N:=E.out k
        rw[V] at N
        rw[V] at K
        have e2:bt t 0-48=0:=by simpa using K
        rw[Nat.add_zero] at N
        omega
       by_cases X:(s.toList==[48])=true
       ·have j:Hid (zc9 s (k+1)):=zgn Y.out (by rw[←E.out k];exact⟨A,z⟩) (fun _=>.inr ((ziO s M).1 X))
        clear V M
        go_wp2
        go_round
        case rel=>exact⟨k+1,by omega,by go_num,by rw[HD.out],rfl,j.out⟩
        case measure=>simp[intOf];omega
       ·have j:Hid (¬RdP s):=zoo M (fun h=>X ((ziO s M).2 h))
        have ae:(s.toList==[48])=false:=by simpa using X
        clear V M X
        go_wp2
        go_ret2
        exact⟨zcP (by rw[zdt j.out]) (zcO j.out).symm,rfl⟩
      ·have j:Hid (zc9 s (k+1)):=zgn Y.out (by rw[←E.out k];exact⟨A,z⟩) (fun e=>absurd (show ((k:Int)==0)=true by rw[e];rfl) q)
       have ac:((k:Int)==0)=false:=by simpa using q
       clear q
       go_wp2
       go_round
       case rel=>exact⟨k+1,by omega,by go_num,by rw[HD.out],rfl,j.out⟩
       case measure=>simp[intOf];omega
     ·have j:Hid (zc9 s (k+1)):=zgn Y.out (by rw[←E.out k];exact⟨A,z⟩) (fun e=>by
       left
       intro aa
       apply K
       have N:=E.out k
       rw[e,Nat.add_zero] at N
       rw[e,N,aa]
       rfl)
      have ag:(bt t k-48==0)=false:=by simpa using K
      clear K
      go_wp2
      go_round
      case rel=>exact⟨k+1,by omega,by go_num,by rw[HD.out],rfl,j.out⟩
      case measure=>simp[intOf];omega
    ·have j:Hid (¬RdP s):=zon (k:=k) (by rw[←H.out];exact Z) (by rw[←E.out k];exact U)
     by_cases A:48≤bt t k
     ·have z:57<bt t k:=by omega
      clear U
      go_wp2
      go_ret2
      exact⟨zcP (by rw[zdt j.out]) (zcO j.out).symm,rfl⟩
     ·clear U
      go_wp2
      go_ret2
      exact⟨zcP (by rw[zdt j.out]) (zcO j.out).symm,rfl⟩
   ·have HY:Hid (RdP s):=zom Y.out (by rw[←H.out];omega) (by omega) (by omega)
    have HK:Hid (k=s.size-pfx s):=by show k=s.size-pfx s;rw[←H.out];omega
    go_wp2
    go_ret2
    refine⟨zcP ?_ (zez HY.out).symm,rfl⟩
    rw[zoq HY.out,HK.out]
    have:=ab.out
    simp at this
    simp[this]
theorem zor (s:ByteArray) (k:Nat):bt (s.extract 1 s.size) k=bt s (1+k):=by
 rw[zcQ,zcQ,Lib.extract_data,List.take_of_length_le (by rw[List.length_drop,Array.length_toList];exact Nat.le_refl _),List.map_drop]
 simp only[List.getD,List.getElem?_drop]
theorem zos (s:ByteArray):(s.extract 1 s.size).size=s.size-1:=by simp
theorem zot (s:ByteArray) (w:World) (I:s.size≤9223372036854775807):
  Calls Tryz.prog 184 #[.string s] w fun e n=>e= .returned (.tuple #[.int .i64 (rdV s),.bool (zdS s)])∧n=w:=by
 by_cases D:bt s 0=45
 ·have j:pfx s=1:=by simp[pfx,D]
  have K:=znV s
  have A:decide (bt s 0=45)=true:=decide_eq_true D
  have N:1≤s.size:=by omega
  obtain⟨t,H⟩: ∃t,t=s.extract 1 s.size:=⟨_,rfl⟩
  have E: ∀w,Calls Tryz.prog 204 #[.string s,.string {data:=#[45]}] w fun e n=>e= .returned (.tuple #[.string t,.bool true])∧n=w:=by
   intro w
   rw[H]
   exact zok s w I A N
  have z:t.size=s.size-pfx s:=by rw[H,j,zos s]
  by_cases h:1≤t.size∧t.size≤9
  ·exact ziP s t true w (by rw[j];rfl) (fun k=>by rw[H,j];exact zor s k) z E h.1 h.2
  ·have q:Hid (¬RdP s):=fun k=>h (by rw[z];exact⟨k.1,k.2.1⟩)
   have J:Hid (∀w,Calls Tryz.prog 204 #[.string s,.string {data:=#[45]}] w fun e n=>e= .returned (.tuple #[.string t,.bool true])∧n=w):=E
   have L:t.size≤9223372036854775807:=by omega
   clear E z H K A j D
   by_cases O:1≤t.size
   ·have M:(9:Int)<t.size:=by omega
    clear h
    go_enter Tryz.func184,Tryz.ntmps184
    go_wp2
    go_step3
    go_wp2_with (go_at_call 204;refine (J.out _).mono ?_;rintro e n ⟨rfl,rfl⟩)
    try rw[Exit.noGoto_ret]
    go_ret2
    exact⟨zcP (by rw[zdt q.out]) (zcO q.out).symm,rfl⟩
   ·clear h
    go_enter Tryz.func184,Tryz.ntmps184
    go_wp2
    go_step3
    go_wp2_with (go_at_call 204;refine (J.out _).mono ?_;rintro e n ⟨rfl,rfl⟩)
    try rw[Exit.noGoto_ret]
    go_ret2
    exact⟨zcP (by rw[zdt q.out]) (zcO q.out).symm,rfl⟩
 ·have j:pfx s=0:=by simp[pfx,D]
  have A:decide (bt s 0=45)=false:=decide_eq_false D
  have E:=fun w=>zgm s w I A
  by_cases h:1≤s.size∧s.size≤9
  ·exact ziP s s false w (by rw[j];rfl) (fun k=>by rw[j,Nat.zero_add]) (by rw[j];rfl) E h.1 h.2
  ·have q:Hid (¬RdP s):=fun k=>h (by have a:=k.1;have b:=k.2.1;rw[j] at a b;exact⟨a,b⟩)
   clear E j D
   by_cases O:1≤s.size
   ·have M:(9:Int)<s.size:=by omega
    clear h
    go_enter Tryz.func184,Tryz.ntmps184
    go_wp2
    go_step3
    go_wp2_with (go_at_call 204;refine (zgm _ _ I A).mono ?_;rintro e n ⟨rfl,rfl⟩)
    try rw[Exit.noGoto_ret]
    go_ret2
    exact⟨zcP (by rw[zdt q.out]) (zcO q.out).symm,rfl⟩
   ·clear h
    go_enter Tryz.func184,Tryz.ntmps184
    go_wp2
    go_step3
    go_wp2_with (go_at_call 204;refine (zgm _ _ I A).mono ?_;rintro e n ⟨rfl,rfl⟩)
    try rw[Exit.noGoto_ret]
    go_ret2
    exact⟨zcP (by rw[zdt q.out]) (zcO q.out).symm,rfl⟩
end Go.Proofs.YtjdddblpfbmpaaaGreat
