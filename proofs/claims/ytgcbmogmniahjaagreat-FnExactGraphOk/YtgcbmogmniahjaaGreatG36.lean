/- Facts and walks that the theorem stands on. -/
import Derived.Lib.IndexLaws
import Derived.Test.YtgcbmogmniahjaaGreatG6
import Derived.WalkMore
namespace Go.Proofs.YtgcbmogmniahjaaGreat
open Go.Proofs.Tryz
set_option maxHeartbeats 1600000
open Go.RowKit Go.PlainAid
theorem zua (s:BA) (k c:Nat) (E:c<256):s.data.toList[k]? =some (UInt8.ofNat c)↔k<s.size/\bt s k=(c:Int):=by
 by_cases q:k<s.size
 ·have w:k<s.data.toList.length:=by rw[Array.length_toList];exact q
  have A:bt s k=((s.data.toList[k]).toNat:Int):=by rw[zdu];simp[List.getD,List.getElem?_eq_getElem w]
  have z:(UInt8.ofNat c).toNat=c:=by rw[UInt8.toNat_ofNat'];omega
  rw[List.getElem?_eq_getElem w,A];refine⟨fun h=>⟨q,by simp only[Option.some.injEq] at h;rw[h,z]⟩,fun h=>?_⟩;have D:=h.2;have:(s.data.toList[k])=UInt8.ofNat c:=by
   apply UInt8.toNat_inj.1;rw[z];omega
  rw[this]
 ·have w:s.data.toList.length<=k:=by rw[Array.length_toList];exact Nat.le_of_not_lt q
  rw[List.getElem?_eq_none w];simp[q]
theorem zfI (s:BA) (a k c:Nat) (h:c<256):(s.extract a s.size).data.toList[k]? =some (UInt8.ofNat c)↔a+k<s.size/\bt s (a+k)=(c:Int):=by
 rw[Lib.extract_data,<-zua _ _ _ h];have q:(s.data.toList.drop a).length=s.size-a:=by rw[List.length_drop,Array.length_toList];rfl
 rw[List.take_of_length_le (by omega),List.getElem?_drop]
def zfJ (c:Int):Bool:=decide (zc7 c)
def zfK (c:Int):Bool:=decide (zbl c)
theorem zub (c:Int) (w:0<=c) (q:c<=255):decide (0<=Lib.indexByte [9,10,13,32] c.toNat.toUInt8)=zfJ c:=by
 obtain⟨n,rfl⟩: ∃n:Nat,c=n:=⟨c.toNat,by omega⟩;have h: ∀n:Fin 256,decide (0<=Lib.indexByte [9,10,13,32] (UInt8.ofNat n.1))=zfJ (n.1:Int):=by decide+kernel
 exact h ⟨n,by omega⟩
theorem zuc (c:Int) (w:0<=c) (q:c<=255):decide (0<=Lib.indexByte [123,125,40,41,44,59,61,46,42,43,45] c.toNat.toUInt8)=zfK c:=by
 obtain⟨n,rfl⟩: ∃n:Nat,c=n:=⟨c.toNat,by omega⟩;have h: ∀n:Fin 256,decide (0<=Lib.indexByte [123,125,40,41,44,59,61,46,42,43,45] (UInt8.ofNat n.1))=zfK (n.1:Int):=by decide+kernel
 exact h ⟨n,by omega⟩
theorem zud {s:BA} {a:Nat} {o:Int} (H:0<=o) (h:Lib.indexByte (s.extract a s.size).data.toList (10:Int).toNat.toUInt8=o): ∃e:Nat,(a:Int)+o=(e:Int)/\za1 zby s a e/\e<s.size:=by
 obtain⟨n,rfl⟩: ∃n:Nat,o=n:=⟨o.toNat,by omega⟩;obtain⟨A,w⟩:=Lib.indexByte_some h;have q:=(zfI s a n 10 (by decide)).1 A;refine⟨a+n,by omega,⟨by omega,by omega,fun j z E=>decide_eq_true fun D=>?_,fun _=>by rw[zby,q.2];rfl⟩,q.1⟩;apply w (j-a) (by omega);have:=(zfI s a (j-a) 10 (by decide)).2 (by rw[show a+(j-a)=j from by omega];exact⟨by omega,D⟩);exact this
theorem zue {s:BA} {a:Nat} (w:a<=s.size) (h: ¬0<=Lib.indexByte (s.extract a s.size).data.toList (10:Int).toNat.toUInt8):za1 zby s a s.size:=by
 have q:=Lib.indexByte_ge (s.extract a s.size).data.toList (10:Int).toNat.toUInt8;have A:Lib.indexByte (s.extract a s.size).data.toList (10:Int).toNat.toUInt8= -1:=by omega
 refine⟨w,Nat.le_refl _,fun j z E=>decide_eq_true fun D=>?_,fun h=>absurd h (Nat.lt_irrefl _)⟩;apply Lib.indexByte_none A (j-a);have:=(zfI s a (j-a) 10 (by decide)).2 (by rw[show a+(j-a)=j from by omega];exact⟨by omega,D⟩);exact this
theorem zuf {s:BA} {a c:Nat} (w:a<s.size) (q:zcu s a) (h:za1 zby s a c):a<c:=by
 rcases Nat.lt_or_ge a c with k|k
 ·exact k
 ·have z:c=a:=by have:=h.1;omega
  subst z;have:=h.2.2.2 w;rw[zby,q.1] at this;simp at this
theorem zug (l:List UInt8) (x y:UInt8):[x,y].isPrefixOf l=true↔l[0]? =some x/\l[1]? =some y:=by
 match l with
 |[]=>simp
 |[p]=>simp
 |p::q::r=>
  simp;exact⟨fun h=>⟨h.1.symm,h.2.symm⟩,fun h=>⟨h.1.symm,h.2.symm⟩⟩
def zgM (s:BA) (a:Nat):Bool:=decide (zcu s a)
theorem zuh (s:BA) (a:Nat):Lib.hasPrefix (s.extract a s.size).data.toList [47,47]=zgM s a:=by
 rw[Bool.eq_iff_iff,Lib.hasPrefix,zug,zgM,decide_eq_true_eq];have z:=zfI s a 0 47 (by decide);have w:=zfI s a 1 47 (by decide);rw[Nat.add_zero] at z;constructor
 ·rintro⟨q,h⟩;exact⟨(z.1 q).2,(w.1 h).1,(w.1 h).2⟩
 ·rintro⟨q,h,A⟩;exact⟨z.2 ⟨by omega,q⟩,w.2 ⟨h,A⟩⟩
theorem zeS (s:BA) (a e k:Nat) (_:e<=s.size) (q:a+k<e):bt (s.extract a e) k=bt s (a+k):=by
 rw[zdu,zdu,Lib.extract_data];have h:s.data.toList.length=s.size:=Array.length_toList;simp only[List.getD,List.getElem?_map];rw[List.getElem?_take,if_pos (by omega),List.getElem?_drop]
theorem zeT (s:BA) (a e:Nat) (h:e<=s.size):(s.extract a e).size=e-a:=by rw[ByteArray.size_extract];omega
theorem zlW (s:BA) (a e:Nat) (q:e<=s.size) (k:Nat) (w:a+k<=e):dv (s.extract a e) 0 k=zbC s a k:=by
 induction k with
 |zero=>rfl
 |succ k h=>rw[dv,zbC,h (by omega),Nat.zero_add,zeS s a e k q (by omega)]
theorem zlX {s:BA} {a e:Nat} (q:e<=s.size) (w:a<e) (h:zJ (bt s a)=true):pfx (s.extract a e)=0:=by
 unfold pfx;rw[zeS s a e 0 q (by omega),Nat.add_zero,if_neg];rw[zcI] at h;omega
theorem zlY {s:BA} {a e:Nat} {h:Bool} (A:a<s.size) (w:zJ (bt s a)=true) (q:za1 (zL h) s a e):a<e:=by
 rcases Nat.lt_or_ge a e with k|k
 ·exact k
 ·have z:e=a:=by have:=q.1;omega
  subst z;have:=q.2.2.2 A;simp[zL,w] at this
theorem zui {s:BA} {a e:Nat} {w:Bool} (V:a<s.size) (N:zJ (bt s a)=true) (E:za1 (zL w) s a e) (h:RdP (s.extract a e)) (U:rdV (s.extract a e)<=1000000):zaZ s a w (rdV (s.extract a e)) e:=by
 have D:=zlY V N E;have A:=E.2.1;have z:=zlX A D N;have M:=zeT s a e A;obtain⟨K,I,L,J⟩:=h;rw[z] at K I L J;have O: ∀j,j<e-a->zeu (bt s (a+j)):=fun j X=>by
  have:=L j (by omega);rw[Nat.zero_add,zeS s a e j A (by omega)] at this;exact this
 have q:e<s.size->zL w (bt s e)=false:=E.2.2.2;refine⟨⟨E.1,A,fun j K I=>?_,fun h=>?_⟩,D,?_,?_,U,fun h=>?_⟩
 ·have:=O (j-a) (by omega);rw[show a+(j-a)=j from by omega] at this;exact zcI.2 this
 ·have:=q h;simp[zL] at this;exact this.2
 ·rcases J with g|g
  ·rw[zeS s a e 0 A (by omega),Nat.add_zero] at g;exact .inr g
  ·left;have:=g.2;omega
 ·have H:zeR (s.extract a e)=true:=zfH ⟨by rw[z];exact K,by rw[z];exact I,by rw[z];exact L,by rw[z];exact J⟩;rw[rdV,if_pos H,if_neg (by rw[z];decide),M,zlW s a e A _ (by omega)]
 ·have:=q h;simp[zL] at this;exact this.1
theorem zuj {s:BA} {a e:Nat} {q:Bool} {n:Int} (h:zaZ s a q n e):za1 (zL q) s a e:=
 ⟨h.1.1,h.1.2.1,fun j w z=>by simp[zL,h.1.2.2.1 j w z],fun k=>by simp[zL,h.1.2.2.2 k,h.2.2.2.2.2 k]⟩
theorem zuk {s:BA} {a:Nat} (E:49<=bt s a) (h: ∀j,j<8->48<=bt s (a+j)):10000000<=zbC s a 8:=by
 have A:=h 1 (by omega);have q:=h 2 (by omega);have z:=h 3 (by omega);have w:=h 4 (by omega);have D:=h 5 (by omega);have I:=h 6 (by omega);have H:=h 7 (by omega);simp only[zbC,Nat.add_zero];omega
theorem zlZ {s:BA} {a e:Nat} {D:Bool} (X:a<s.size) (M:zJ (bt s a)=true) (K:za1 (zL D) s a e) (h: ¬RdP (s.extract a e)∨1000000<rdV (s.extract a e)): ∀n q,¬zaZ s a D n q:=by
 intro n q U;obtain rfl:=zfe (zuj U) K;have J:=zlY X M K;have H:=K.2.1;have O:=zlX H J M;have E:=zeT s a q H;obtain⟨⟨_,_,w,_⟩,_,N,hv,hm,_⟩:=U;have I:RdP (s.extract a q):=by
  unfold RdP;rw[O,E];refine⟨by omega,?_,fun j V=>?_,?_⟩
  ·rcases Nat.lt_or_ge 9 (q-a) with g|g
   ·exfalso;have A: ∀j,j<q-a->48<=bt s (a+j):=fun j V=>(zcI.1 (w (a+j) (by omega) (by omega))).1;have L:49<=bt s a:=by
     have:=A 0 (by omega);rw[Nat.add_zero] at this;rcases N with z|z
     ·omega
     ·omega
    have Z:=zuk L (fun j V=>A j (by omega));have Y:=(ziO 8 (q-a) A (by omega)).2;omega
   ·omega
  ·rw[Nat.zero_add,zeS s a q j H (by omega)];exact zcI.1 (w (a+j) (by omega) (by omega))
  ·rw[zeS s a q 0 H (by omega),Nat.add_zero];rcases N with z|z
   ·right;exact⟨rfl,by omega⟩
   ·exact .inl z
 rcases h with h|h
 ·exact h I
 ·rw[rdV,if_pos (zfH I),if_neg (by rw[O];decide),E,zlW s a q H _ (by omega)] at h;omega
theorem zma (x:Int) (z:0<=x) (q:x<=255) (c:Nat) (w:c<256):UInt8.ofNat x.toNat=UInt8.ofNat c↔x=c:=by
 constructor
 ·intro h;have:=congrArg UInt8.toNat h;simp only[UInt8.toNat_ofNat'] at this;omega
 ·intro h;rw[h];rfl
theorem zul (s:BA) (h:1<=s.size):((s.extract 0 1).toList==[45])=decide (bt s 0=45):=by
 rw[ziN s 1 h,Lib.toList_data,strOfNums_data];simp only[bsl,List.map_cons,List.map_nil];rw[Bool.eq_iff_iff,beq_iff_eq,decide_eq_true_eq];have:=zma (bt s 0) (bt_nonneg s 0) (bt_le s 0) 45 (by decide);simp only[List.cons.injEq,and_true];exact this
theorem zmb (s:BA) (w:World) (_:s.size<=9223372036854775807):
  Calls prog 207 #[.string s,.string {data:=#[45]}] w fun e z=>e= .returned (.bool (decide (bt s 0=45)))/\z=w:=by
 by_cases h:1<=s.size
 ·have q:Hid (((s.extract 0 1).toList==[45])=decide (bt s 0=45)):=zul s h;go_enter func207,ntmps207;go_wp2;go_ret;exact⟨zi q.o,rfl⟩
 ·have q:Hid (decide (bt s 0=45)=false):=by show decide (bt s 0=45)=false;rw[bt_end s (by omega)];rfl
  go_enter func207,ntmps207;go_wp2;go_ret;exact⟨zi q.o.symm,rfl⟩
theorem zum (s:BA) (w:World) (z:s.size<=9223372036854775807) (h:decide (bt s 0=45)=false):
  Calls prog 245 #[.string s,.string {data:=#[45]}] w fun e q=>e= .returned (.tuple #[.string s,.bool false])/\q=w:=by
 go_enter func245,ntmps245;go_wp2_with fail;refine (zmb _ _ z).mono ?_;rintro e q ⟨rfl,rfl⟩;go_wp2;go_ret2;exact⟨rfl,rfl⟩
theorem zun (s:BA) (w:World) (z:s.size<=9223372036854775807) (h:decide (bt s 0=45)=true) (A:1<=s.size):
  Calls prog 245 #[.string s,.string {data:=#[45]}] w fun e q=>e= .returned (.tuple #[.string (s.extract 1 s.size),.bool true])/\q=w:=by
 go_enter func245,ntmps245;go_wp2_with fail;refine (zmb _ _ z).mono ?_;rintro e q ⟨rfl,rfl⟩;go_wp2;go_ret2;exact⟨rfl,rfl⟩
theorem zim (s:BA) (w:World) (z:s.size<=9223372036854775807) (h:decide (bt s 0=45)=false):
  Calls prog 226 #[.string s,.string {data:=#[45]}] w fun e q=>e= .returned (.tuple #[.string s,.bool false])/\q=w:=by
 go_enter func226,ntmps226;go_wp2_with fail;refine (zum _ _ z h).mono ?_;rintro e q ⟨rfl,rfl⟩;go_wp2;go_ret2;exact⟨rfl,rfl⟩
theorem zuo (s:BA) (w:World) (z:s.size<=9223372036854775807) (h:decide (bt s 0=45)=true) (A:1<=s.size):
  Calls prog 226 #[.string s,.string {data:=#[45]}] w fun e q=>e= .returned (.tuple #[.string (s.extract 1 s.size),.bool true])/\q=w:=by
 go_enter func226,ntmps226;go_wp2_with fail;refine (zun _ _ z h A).mono ?_;rintro e q ⟨rfl,rfl⟩;go_wp2;go_ret2;exact⟨rfl,rfl⟩
theorem zmc (s:BA) (h:bt s (pfx s)=48):(s.toList==[48])=true↔(pfx s=0/\s.size=1):=by
 have e:s.toList=(bsl s 0 s.size).map (fun n=>UInt8.ofNat n.toNat):=by
  rw[Lib.toList_data,<-strOfNums_data,<-zmP s]
 rw[e,beq_iff_eq];constructor
 ·intro k;have q:=congrArg List.length k;rw[List.length_map,zmM] at q;have w:s.size=1:=by simpa using q
  rw[w] at k;simp only[bsl,List.map_cons,List.map_nil,List.cons.injEq,and_true] at k;have:=(zma (bt s 0) (bt_nonneg s 0) (bt_le s 0) 48 (by decide)).1 k;refine⟨?_,w⟩;unfold pfx;rw[if_neg (by omega)]
 ·rintro⟨A,z⟩;rw[A] at h;rw[z];simp[bsl,h]
def zdr (s:BA) (k:Nat):Prop:=(∀j,j<k->zeu (bt s (pfx s+j)))/\(1<=k->bt s (pfx s)≠48∨(pfx s=0/\s.size=1))
theorem zup (s:BA):zdr s 0:=⟨fun _ h=>by omega,fun h=>by omega⟩
theorem zuq {s:BA} {k:Nat} (h:zdr s k) (w:k=s.size-pfx s) (q:1<=k) (z:k<=9):RdP s:=by
 subst w;exact⟨q,z,h.1,h.2 q⟩
theorem zin {s:BA} {k:Nat} (h:zdr s k) (q:48<=bt s (pfx s+k)/\bt s (pfx s+k)<=57) (w:k=0->bt s (pfx s)≠48∨(pfx s=0/\s.size=1)):zdr s (k+1):=by
 refine⟨fun j z=>?_,fun _=>?_⟩
 ·by_cases e:j=k
  ·rw[e];exact q
  ·exact h.1 j (by omega)
 ·by_cases e:k=0
  ·exact w e
  ·exact h.2 (by omega)
theorem zur {s:BA} {k:Nat} (w:k<s.size-pfx s) (q: ¬(48<=bt s (pfx s+k)/\bt s (pfx s+k)<=57)): ¬RdP s:=fun h=>q (h.2.2.1 k w)
theorem zus {s:BA} (q:bt s (pfx s)=48) (h: ¬(pfx s=0/\s.size=1)): ¬RdP s:=fun k=>by
 rcases k.2.2.2 with e|e
 ·exact e q
 ·exact h e
theorem zut {s:BA} {k:Nat} (h:zdr s k) (q:k<=9):0<=dv s (pfx s) k/\dv s (pfx s) k<=1000000000:=by
 have a:=ztX s (pfx s) k h.1;have b:=ztY k q;omega
theorem zuu {s:BA} (h:RdP s):rdV s=if pfx s=1 then-dv s (pfx s) (s.size-pfx s) else dv s (pfx s) (s.size-pfx s):=by
 rw[rdV,if_pos (zfH h)];by_cases e:bt s 0=45
 ·have q:pfx s=1:=by simp[pfx,e]
  rw[q,if_pos rfl,if_pos rfl]
 ·have q:pfx s=0:=by simp[pfx,e]
  rw[q];rfl
theorem zmd (s t:BA) (b:Bool) (w:World) (U:b=decide (pfx s=1)) (K: ∀k,bt t k=bt s (pfx s+k)) (M:t.size=s.size-pfx s)
  (hc: ∀w,Calls prog 226 #[.string s,.string {data:=#[45]}] w fun e J=>e= .returned (.tuple #[.string t,.bool b])/\J=w) (h1:1<=t.size) (h9:t.size<=9):
  Calls prog 209 #[.string s] w fun e J=>e= .returned (.tuple #[.int .i64 (rdV s),.bool (zeR s)])/\J=w:=by
 have HC:Hid (∀w,Calls prog 226 #[.string s,.string {data:=#[45]}] w fun e J=>e= .returned (.tuple #[.string t,.bool b])/\J=w):=hc;have H:Hid (∀k,bt t k=bt s (pfx s+k)):=K;have I:Hid (t.size=s.size-pfx s):=M;have ac:Hid (b=decide (pfx s=1)):=U;clear hc K M U;have t1:(1:Int)<=t.size:=by omega
 have t9:(t.size:Int)<=9:=by omega
 cases b
 all_goals
  go_enter func209,ntmps209;go_wp2;go_step3;go_wp2_with (go_at_call 226;refine (HC.o _).mono ?_;rintro e J ⟨rfl,rfl⟩);go_step3;go_wp2;go_loop [6,7,25] (fun n o i=>∃k:Nat,k<=t.size/\i= .int .i64 k/\n= .int .i64 (dv s (pfx s) k)/\o= .bool true/\zdr s k) (fun _ _ i=>(t.size-intOf i).toNat)
  case atStart=>exact⟨0,by omega,rfl,rfl,rfl,zup s⟩
  case round=>
   obtain⟨k,hk,rfl,rfl,rfl,E⟩:=hrel;have Z:Hid (zdr s k):=E;have hv:=zut E (by omega);clear E;by_cases aa:k<t.size
   ·have ae:=bt_nonneg t k;have ag:=bt_le t k;have hb:=get_bt t;by_cases V:48<=bt t k/\bt t k<=57
    ·obtain⟨D,A⟩:=V;have HD:Hid (dv s (pfx s) (k+1)=10*dv s (pfx s) k+(bt t k-48)):=by
      show dv s (pfx s) (k+1)=_;rw[dv,H.o k];omega
     by_cases L:(bt t k-48==0)=true
     ·by_cases z:((k:Int)==0)=true
      ·have X:k=0:=by simpa using z
       have N:bt s (pfx s)=48:=by
        have O:=H.o k;rw[X] at O;rw[X] at L;have e2:bt t 0-48=0:=by simpa using L
        rw[Nat.add_zero] at O;omega
       by_cases Y:(s.toList==[48])=true
       ·have q:Hid (zdr s (k+1)):=zin Z.o (by rw[<-H.o k];exact⟨D,A⟩) (fun _=>.inr ((zmc s N).1 Y));clear X N;go_wp2;go_round
        case rel=>exact⟨k+1,by omega,by go_num,by rw[HD.o],rfl,q.o⟩
        case measure=>simp[intOf];omega
       ·have q:Hid (¬RdP s):=zus N (fun h=>Y ((zmc s N).2 h));have af:(s.toList==[48])=false:=by simpa using Y
        clear X N Y;go_wp2;go_ret2;exact⟨zd8 (by rw[zev q.o]) (zd5 q.o).symm,rfl⟩
      ·have q:Hid (zdr s (k+1)):=zin Z.o (by rw[<-H.o k];exact⟨D,A⟩) (fun e=>absurd (show ((k:Int)==0)=true by rw[e];rfl) z);have ad:((k:Int)==0)=false:=by simpa using z
       clear z;go_wp2;go_round
       case rel=>exact⟨k+1,by omega,by go_num,by rw[HD.o],rfl,q.o⟩
       case measure=>simp[intOf];omega
     ·have q:Hid (zdr s (k+1)):=zin Z.o (by rw[<-H.o k];exact⟨D,A⟩) (fun e=>by
       left;intro ab;apply L;have O:=H.o k;rw[e,Nat.add_zero] at O;rw[e,O,ab]
       rfl)
      have ah:(bt t k-48==0)=false:=by simpa using L
      clear L;go_wp2;go_round
      case rel=>exact⟨k+1,by omega,by go_num,by rw[HD.o],rfl,q.o⟩
      case measure=>simp[intOf];omega
    ·have q:Hid (¬RdP s):=zur (k:=k) (by rw[<-I.o];exact aa) (by rw[<-H.o k];exact V);by_cases D:48<=bt t k
     ·have A:57<bt t k:=by omega
      clear V;go_wp2;go_ret2;exact⟨zd8 (by rw[zev q.o]) (zd5 q.o).symm,rfl⟩
     ·clear V;go_wp2;go_ret2;exact⟨zd8 (by rw[zev q.o]) (zd5 q.o).symm,rfl⟩
   ·have HY:Hid (RdP s):=zuq Z.o (by rw[<-I.o];omega) (by omega) (by omega);have HK:Hid (k=s.size-pfx s):=by show k=s.size-pfx s;rw[<-I.o];omega
    go_wp2;go_ret2;refine⟨zd8 ?_ (zfH HY.o).symm,rfl⟩;rw[zuu HY.o,HK.o];have:=ac.o;simp at this;simp[this]
theorem zuv (s:BA) (k:Nat):bt (s.extract 1 s.size) k=bt s (1+k):=by
 rw[zdu,zdu,Lib.extract_data,List.take_of_length_le (by rw[List.length_drop,Array.length_toList];exact Nat.le_refl _),List.map_drop];simp only[List.getD,List.getElem?_drop]
theorem zuw (s:BA):(s.extract 1 s.size).size=s.size-1:=by simp
theorem zux (s:BA) (w:World) (K:s.size<=9223372036854775807):
  Calls prog 209 #[.string s] w fun e z=>e= .returned (.tuple #[.int .i64 (rdV s),.bool (zeR s)])/\z=w:=by
 by_cases H:bt s 0=45
 ·have q:pfx s=1:=by simp[pfx,H]
  have M:=ztZ s;have E:decide (bt s 0=45)=true:=decide_eq_true H;have U:1<=s.size:=by omega
  obtain⟨t,J⟩: ∃t,t=s.extract 1 s.size:=⟨_,rfl⟩;have I: ∀w,Calls prog 226 #[.string s,.string {data:=#[45]}] w fun e z=>e= .returned (.tuple #[.string t,.bool true])/\z=w:=by
   intro w;rw[J];exact zuo s w K E U
  have D:t.size=s.size-pfx s:=by rw[J,q,zuw s]
  by_cases h:1<=t.size/\t.size<=9
  ·exact zmd s t true w (by rw[q];rfl) (fun k=>by rw[J,q];exact zuv s k) D I h.1 h.2
  ·have A:Hid (¬RdP s):=fun k=>h (by rw[D];exact⟨k.1,k.2.1⟩);have L:Hid (∀w,Calls prog 226 #[.string s,.string {data:=#[45]}] w fun e z=>e= .returned (.tuple #[.string t,.bool true])/\z=w):=I;have N:t.size<=9223372036854775807:=by omega
   clear I D J M E q H;by_cases V:1<=t.size
   ·have O:(9:Int)<t.size:=by omega
    clear h;go_enter func209,ntmps209;go_wp2;go_step3;go_wp2_with (go_at_call 226;refine (L.o _).mono ?_;rintro e z ⟨rfl,rfl⟩)
    try rw[Exit.noGoto_ret]
    go_ret2;exact⟨zd8 (by rw[zev A.o]) (zd5 A.o).symm,rfl⟩
   ·clear h;go_enter func209,ntmps209;go_wp2;go_step3;go_wp2_with (go_at_call 226;refine (L.o _).mono ?_;rintro e z ⟨rfl,rfl⟩)
    try rw[Exit.noGoto_ret]
    go_ret2;exact⟨zd8 (by rw[zev A.o]) (zd5 A.o).symm,rfl⟩
 ·have q:pfx s=0:=by simp[pfx,H]
  have E:decide (bt s 0=45)=false:=decide_eq_false H;have I:=fun w=>zim s w K E;by_cases h:1<=s.size/\s.size<=9
  ·exact zmd s s false w (by rw[q];rfl) (fun k=>by rw[q,Nat.zero_add]) (by rw[q];rfl) I h.1 h.2
  ·have A:Hid (¬RdP s):=fun k=>h (by have a:=k.1;have b:=k.2.1;rw[q] at a b;exact⟨a,b⟩);clear I q H;by_cases V:1<=s.size
   ·have O:(9:Int)<s.size:=by omega
    clear h;go_enter func209,ntmps209;go_wp2;go_step3;go_wp2_with (go_at_call 226;refine (zim _ _ K E).mono ?_;rintro e z ⟨rfl,rfl⟩)
    try rw[Exit.noGoto_ret]
    go_ret2;exact⟨zd8 (by rw[zev A.o]) (zd5 A.o).symm,rfl⟩
   ·clear h;go_enter func209,ntmps209;go_wp2;go_step3;go_wp2_with (go_at_call 226;refine (zim _ _ K E).mono ?_;rintro e z ⟨rfl,rfl⟩)
    try rw[Exit.noGoto_ret]
    go_ret2;exact⟨zd8 (by rw[zev A.o]) (zd5 A.o).symm,rfl⟩
end Go.Proofs.YtgcbmogmniahjaaGreat
