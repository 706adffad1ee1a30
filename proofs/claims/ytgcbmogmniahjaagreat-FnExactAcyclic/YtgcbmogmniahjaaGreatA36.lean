/- Facts and walks that the theorem stands on. -/
import Derived.Lib.IndexLaws
import Derived.Test.YtgcbmogmniahjaaGreatA6
import Derived.WalkMore
namespace Go.Proofs.YtgcbmogmniahjaaGreat
open Go.Proofs.Tryz
set_option maxHeartbeats 1600000
open Go.RowKit Go.PlainAid
theorem zuz (s:BA) (k c:Nat) (I:c<256):s.data.toList[k]? =some (UInt8.ofNat c)↔k<s.size/\bt s k=(c:Int):=by
 by_cases q:k<s.size
 ·have w:k<s.data.toList.length:=by rw[Array.length_toList];exact q
  have A:bt s k=((s.data.toList[k]).toNat:Int):=by rw[zd1];simp[List.getD,List.getElem?_eq_getElem w]
  have z:(UInt8.ofNat c).toNat=c:=by rw[UInt8.toNat_ofNat'];omega
  rw[List.getElem?_eq_getElem w,A];refine⟨fun h=>⟨q,by simp only[Option.some.injEq] at h;rw[h,z]⟩,fun h=>?_⟩;have H:=h.2;have:(s.data.toList[k])=UInt8.ofNat c:=by
   apply UInt8.toNat_inj.1;rw[z];omega
  rw[this]
 ·have w:s.data.toList.length<=k:=by rw[Array.length_toList];exact Nat.le_of_not_lt q
  rw[List.getElem?_eq_none w];simp[q]
theorem zfR (s:BA) (a k c:Nat) (h:c<256):(s.extract a s.size).data.toList[k]? =some (UInt8.ofNat c)↔a+k<s.size/\bt s (a+k)=(c:Int):=by
 rw[Lib.extract_data,<-zuz _ _ _ h];have q:(s.data.toList.drop a).length=s.size-a:=by rw[List.length_drop,Array.length_toList];rfl
 rw[List.take_of_length_le (by omega),List.getElem?_drop]
def zfS (c:Int):Bool:=decide (zcC c)
def zfT (c:Int):Bool:=decide (zbo c)
theorem zu0 (c:Int) (w:0<=c) (q:c<=255):decide (0<=Lib.indexByte [9,10,13,32] c.toNat.toUInt8)=zfS c:=by
 obtain⟨n,rfl⟩: ∃n:Nat,c=n:=⟨c.toNat,by omega⟩;have h: ∀n:Fin 256,decide (0<=Lib.indexByte [9,10,13,32] (UInt8.ofNat n.1))=zfS (n.1:Int):=by decide+kernel
 exact h ⟨n,by omega⟩
theorem zu1 (c:Int) (w:0<=c) (q:c<=255):decide (0<=Lib.indexByte [123,125,40,41,44,59,61,46,42,43,45] c.toNat.toUInt8)=zfT c:=by
 obtain⟨n,rfl⟩: ∃n:Nat,c=n:=⟨c.toNat,by omega⟩;have h: ∀n:Fin 256,decide (0<=Lib.indexByte [123,125,40,41,44,59,61,46,42,43,45] (UInt8.ofNat n.1))=zfT (n.1:Int):=by decide+kernel
 exact h ⟨n,by omega⟩
theorem zu2 {s:BA} {a:Nat} {o:Int} (J:0<=o) (h:Lib.indexByte (s.extract a s.size).data.toList (10:Int).toNat.toUInt8=o): ∃e:Nat,(a:Int)+o=(e:Int)/\za3 zbz s a e/\e<s.size:=by
 obtain⟨n,rfl⟩: ∃n:Nat,o=n:=⟨o.toNat,by omega⟩;obtain⟨A,w⟩:=Lib.indexByte_some h;have q:=(zfR s a n 10 (by decide)).1 A;refine⟨a+n,by omega,⟨by omega,by omega,fun j z I=>decide_eq_true fun H=>?_,fun _=>by rw[zbz,q.2];rfl⟩,q.1⟩;apply w (j-a) (by omega);have:=(zfR s a (j-a) 10 (by decide)).2 (by rw[show a+(j-a)=j from by omega];exact⟨by omega,H⟩);exact this
theorem zu3 {s:BA} {a:Nat} (w:a<=s.size) (h: ¬0<=Lib.indexByte (s.extract a s.size).data.toList (10:Int).toNat.toUInt8):za3 zbz s a s.size:=by
 have q:=Lib.indexByte_ge (s.extract a s.size).data.toList (10:Int).toNat.toUInt8;have A:Lib.indexByte (s.extract a s.size).data.toList (10:Int).toNat.toUInt8= -1:=by omega
 refine⟨w,Nat.le_refl _,fun j z I=>decide_eq_true fun H=>?_,fun h=>absurd h (Nat.lt_irrefl _)⟩;apply Lib.indexByte_none A (j-a);have:=(zfR s a (j-a) 10 (by decide)).2 (by rw[show a+(j-a)=j from by omega];exact⟨by omega,H⟩);exact this
theorem zu4 {s:BA} {a c:Nat} (w:a<s.size) (q:zcz s a) (h:za3 zbz s a c):a<c:=by
 rcases Nat.lt_or_ge a c with k|k
 ·exact k
 ·have z:c=a:=by have:=h.1;omega
  subst z;have:=h.2.2.2 w;rw[zbz,q.1] at this;simp at this
theorem zu5 (l:List UInt8) (x y:UInt8):[x,y].isPrefixOf l=true↔l[0]? =some x/\l[1]? =some y:=by
 match l with
 |[]=>simp
 |[p]=>simp
 |p::q::r=>
  simp;exact⟨fun h=>⟨h.1.symm,h.2.symm⟩,fun h=>⟨h.1.symm,h.2.symm⟩⟩
def zgW (s:BA) (a:Nat):Bool:=decide (zcz s a)
theorem zu6 (s:BA) (a:Nat):Lib.hasPrefix (s.extract a s.size).data.toList [47,47]=zgW s a:=by
 rw[Bool.eq_iff_iff,Lib.hasPrefix,zu5,zgW,decide_eq_true_eq];have z:=zfR s a 0 47 (by decide);have w:=zfR s a 1 47 (by decide);rw[Nat.add_zero] at z;constructor
 ·rintro⟨q,h⟩;exact⟨(z.1 q).2,(w.1 h).1,(w.1 h).2⟩
 ·rintro⟨q,h,A⟩;exact⟨z.2 ⟨by omega,q⟩,w.2 ⟨h,A⟩⟩
theorem zfa (s:BA) (a e k:Nat) (_:e<=s.size) (q:a+k<e):bt (s.extract a e) k=bt s (a+k):=by
 rw[zd1,zd1,Lib.extract_data];have h:s.data.toList.length=s.size:=Array.length_toList;simp only[List.getD,List.getElem?_map];rw[List.getElem?_take,if_pos (by omega),List.getElem?_drop]
theorem zfb (s:BA) (a e:Nat) (h:e<=s.size):(s.extract a e).size=e-a:=by rw[ByteArray.size_extract];omega
theorem zmm (s:BA) (a e:Nat) (q:e<=s.size) (k:Nat) (w:a+k<=e):dv (s.extract a e) 0 k=zbE s a k:=by
 induction k with
 |zero=>rfl
 |succ k h=>rw[dv,zbE,h (by omega),Nat.zero_add,zfa s a e k q (by omega)]
theorem zmn {s:BA} {a e:Nat} (q:e<=s.size) (w:a<e) (h:zK (bt s a)=true):pfx (s.extract a e)=0:=by
 unfold pfx;rw[zfa s a e 0 q (by omega),Nat.add_zero,if_neg];rw[zcN] at h;omega
theorem zmo {s:BA} {a e:Nat} {h:Bool} (A:a<s.size) (w:zK (bt s a)=true) (q:za3 (zM h) s a e):a<e:=by
 rcases Nat.lt_or_ge a e with k|k
 ·exact k
 ·have z:e=a:=by have:=q.1;omega
  subst z;have:=q.2.2.2 A;simp[zM,w] at this
theorem zu7 {s:BA} {a e:Nat} {w:Bool} (Y:a<s.size) (U:zK (bt s a)=true) (I:za3 (zM w) s a e) (h:RdP (s.extract a e)) (X:rdV (s.extract a e)<=1000000):zba s a w (rdV (s.extract a e)) e:=by
 have H:=zmo Y U I;have A:=I.2.1;have z:=zmn A H U;have O:=zfb s a e A;obtain⟨M,K,N,L⟩:=h;rw[z] at M K N L;have V: ∀j,j<e-a->ze2 (bt s (a+j)):=fun j Z=>by
  have:=N j (by omega);rw[Nat.zero_add,zfa s a e j A (by omega)] at this;exact this
 have q:e<s.size->zM w (bt s e)=false:=I.2.2.2;refine⟨⟨I.1,A,fun j M K=>?_,fun h=>?_⟩,H,?_,?_,X,fun h=>?_⟩
 ·have:=V (j-a) (by omega);rw[show a+(j-a)=j from by omega] at this;exact zcN.2 this
 ·have:=q h;simp[zM] at this;exact this.2
 ·rcases L with g|g
  ·rw[zfa s a e 0 A (by omega),Nat.add_zero] at g;exact .inr g
  ·left;have:=g.2;omega
 ·have J:zeZ (s.extract a e)=true:=zfQ ⟨by rw[z];exact M,by rw[z];exact K,by rw[z];exact N,by rw[z];exact L⟩;rw[rdV,if_pos J,if_neg (by rw[z];decide),O,zmm s a e A _ (by omega)]
 ·have:=q h;simp[zM] at this;exact this.1
theorem zu8 {s:BA} {a e:Nat} {q:Bool} {n:Int} (h:zba s a q n e):za3 (zM q) s a e:=
 ⟨h.1.1,h.1.2.1,fun j w z=>by simp[zM,h.1.2.2.1 j w z],fun k=>by simp[zM,h.1.2.2.2 k,h.2.2.2.2.2 k]⟩
theorem zu9 {s:BA} {a:Nat} (I:49<=bt s a) (h: ∀j,j<8->48<=bt s (a+j)):10000000<=zbE s a 8:=by
 have A:=h 1 (by omega);have q:=h 2 (by omega);have z:=h 3 (by omega);have w:=h 4 (by omega);have H:=h 5 (by omega);have K:=h 6 (by omega);have J:=h 7 (by omega);simp only[zbE,Nat.add_zero];omega
theorem zmp {s:BA} {a e:Nat} {H:Bool} (Z:a<s.size) (O:zK (bt s a)=true) (M:za3 (zM H) s a e) (h: ¬RdP (s.extract a e)∨1000000<rdV (s.extract a e)): ∀n q,¬zba s a H n q:=by
 intro n q X;obtain rfl:=zfm (zu8 X) M;have L:=zmo Z O M;have J:=M.2.1;have V:=zmn J L O;have I:=zfb s a q J;obtain⟨⟨_,_,w,_⟩,_,U,hv,hm,_⟩:=X;have K:RdP (s.extract a q):=by
  unfold RdP;rw[V,I];refine⟨by omega,?_,fun j Y=>?_,?_⟩
  ·rcases Nat.lt_or_ge 9 (q-a) with g|g
   ·exfalso;have A: ∀j,j<q-a->48<=bt s (a+j):=fun j Y=>(zcN.1 (w (a+j) (by omega) (by omega))).1;have N:49<=bt s a:=by
     have:=A 0 (by omega);rw[Nat.add_zero] at this;rcases U with z|z
     ·omega
     ·omega
    have h8:=zu9 N (fun j Y=>A j (by omega));have aa:=(zjh 8 (q-a) A (by omega)).2;omega
   ·omega
  ·rw[Nat.zero_add,zfa s a q j J (by omega)];exact zcN.1 (w (a+j) (by omega) (by omega))
  ·rw[zfa s a q 0 J (by omega),Nat.add_zero];rcases U with z|z
   ·right;exact⟨rfl,by omega⟩
   ·exact .inl z
 rcases h with h|h
 ·exact h K
 ·rw[rdV,if_pos (zfQ K),if_neg (by rw[V];decide),I,zmm s a q J _ (by omega)] at h;omega
theorem zmq (x:Int) (z:0<=x) (q:x<=255) (c:Nat) (w:c<256):UInt8.ofNat x.toNat=UInt8.ofNat c↔x=c:=by
 constructor
 ·intro h;have:=congrArg UInt8.toNat h;simp only[UInt8.toNat_ofNat'] at this;omega
 ·intro h;rw[h];rfl
theorem zuA (s:BA) (h:1<=s.size):((s.extract 0 1).toList==[45])=decide (bt s 0=45):=by
 rw[zjg s 1 h,Lib.toList_data,strOfNums_data];simp only[bsl,List.map_cons,List.map_nil];rw[Bool.eq_iff_iff,beq_iff_eq,decide_eq_true_eq];have:=zmq (bt s 0) (bt_nonneg s 0) (bt_le s 0) 45 (by decide);simp only[List.cons.injEq,and_true];exact this
theorem zmr (s:BA) (w:World) (_:s.size<=9223372036854775807):
  Calls prog 207 #[.string s,.string {data:=#[45]}] w fun e w'=>e= .returned (.bool (decide (bt s 0=45)))/\w'=w:=by
 by_cases h:1<=s.size
 ·have q:Hid (((s.extract 0 1).toList==[45])=decide (bt s 0=45)):=zuA s h;go_enter func207,ntmps207;go_wp2;go_ret;exact⟨zi q.o,rfl⟩
 ·have q:Hid (decide (bt s 0=45)=false):=by show decide (bt s 0=45)=false;rw[bt_end s (by omega)];rfl
  go_enter func207,ntmps207;go_wp2;go_ret;exact⟨zi q.o.symm,rfl⟩
theorem zuB (s:BA) (w:World) (q:s.size<=9223372036854775807) (h:decide (bt s 0=45)=false):
  Calls prog 245 #[.string s,.string {data:=#[45]}] w fun e w'=>e= .returned (.tuple #[.string s,.bool false])/\w'=w:=by
 go_enter func245,ntmps245;go_wp2_with fail;refine (zmr _ _ q).mono ?_;rintro e w' ⟨rfl,rfl⟩;go_wp2;go_ret2;exact⟨rfl,rfl⟩
theorem zuC (s:BA) (w:World) (q:s.size<=9223372036854775807) (h:decide (bt s 0=45)=true) (z:1<=s.size):
  Calls prog 245 #[.string s,.string {data:=#[45]}] w fun e w'=>e= .returned (.tuple #[.string (s.extract 1 s.size),.bool true])/\w'=w:=by
 go_enter func245,ntmps245;go_wp2_with fail;refine (zmr _ _ q).mono ?_;rintro e w' ⟨rfl,rfl⟩;go_wp2;go_ret2;exact⟨rfl,rfl⟩
theorem zi3 (s:BA) (w:World) (q:s.size<=9223372036854775807) (h:decide (bt s 0=45)=false):
  Calls prog 226 #[.string s,.string {data:=#[45]}] w fun e w'=>e= .returned (.tuple #[.string s,.bool false])/\w'=w:=by
 go_enter func226,ntmps226;go_wp2_with fail;refine (zuB _ _ q h).mono ?_;rintro e w' ⟨rfl,rfl⟩;go_wp2;go_ret2;exact⟨rfl,rfl⟩
theorem zuD (s:BA) (w:World) (q:s.size<=9223372036854775807) (h:decide (bt s 0=45)=true) (z:1<=s.size):
  Calls prog 226 #[.string s,.string {data:=#[45]}] w fun e w'=>e= .returned (.tuple #[.string (s.extract 1 s.size),.bool true])/\w'=w:=by
 go_enter func226,ntmps226;go_wp2_with fail;refine (zuC _ _ q h z).mono ?_;rintro e w' ⟨rfl,rfl⟩;go_wp2;go_ret2;exact⟨rfl,rfl⟩
theorem zms (s:BA) (h:bt s (pfx s)=48):(s.toList==[48])=true↔(pfx s=0/\s.size=1):=by
 have e:s.toList=(bsl s 0 s.size).map (fun n=>UInt8.ofNat n.toNat):=by
  rw[Lib.toList_data,<-strOfNums_data,<-znq s]
 rw[e,beq_iff_eq];constructor
 ·intro k;have q:=congrArg List.length k;rw[List.length_map,znn] at q;have w:s.size=1:=by simpa using q
  rw[w] at k;simp only[bsl,List.map_cons,List.map_nil,List.cons.injEq,and_true] at k;have:=(zmq (bt s 0) (bt_nonneg s 0) (bt_le s 0) 48 (by decide)).1 k;refine⟨?_,w⟩;unfold pfx;rw[if_neg (by omega)]
 ·rintro⟨A,z⟩;rw[A] at h;rw[z];simp[bsl,h]
def zdw (s:BA) (k:Nat):Prop:=(∀j,j<k->ze2 (bt s (pfx s+j)))/\(1<=k->bt s (pfx s)≠48∨(pfx s=0/\s.size=1))
theorem zuE (s:BA):zdw s 0:=⟨fun _ h=>by omega,fun h=>by omega⟩
theorem zuF {s:BA} {k:Nat} (h:zdw s k) (w:k=s.size-pfx s) (q:1<=k) (z:k<=9):RdP s:=by
 subst w;exact⟨q,z,h.1,h.2 q⟩
theorem zi4 {s:BA} {k:Nat} (h:zdw s k) (q:48<=bt s (pfx s+k)/\bt s (pfx s+k)<=57) (w:k=0->bt s (pfx s)≠48∨(pfx s=0/\s.size=1)):zdw s (k+1):=by
 refine⟨fun j z=>?_,fun _=>?_⟩
 ·by_cases e:j=k
  ·rw[e];exact q
  ·exact h.1 j (by omega)
 ·by_cases e:k=0
  ·exact w e
  ·exact h.2 (by omega)
theorem zuG {s:BA} {k:Nat} (w:k<s.size-pfx s) (q: ¬(48<=bt s (pfx s+k)/\bt s (pfx s+k)<=57)): ¬RdP s:=fun h=>q (h.2.2.1 k w)
theorem zuH {s:BA} (q:bt s (pfx s)=48) (h: ¬(pfx s=0/\s.size=1)): ¬RdP s:=fun k=>by
 rcases k.2.2.2 with e|e
 ·exact e q
 ·exact h e
theorem zuI {s:BA} {k:Nat} (h:zdw s k) (q:k<=9):0<=dv s (pfx s) k/\dv s (pfx s) k<=1000000000:=by
 have a:=zuw s (pfx s) k h.1;have b:=zux k q;omega
theorem zuJ {s:BA} (h:RdP s):rdV s=if pfx s=1 then-dv s (pfx s) (s.size-pfx s) else dv s (pfx s) (s.size-pfx s):=by
 rw[rdV,if_pos (zfQ h)];by_cases e:bt s 0=45
 ·have q:pfx s=1:=by simp[pfx,e]
  rw[q,if_pos rfl,if_pos rfl]
 ·have q:pfx s=0:=by simp[pfx,e]
  rw[q];rfl
theorem zmt (s t:BA) (b:Bool) (w:World) (V:b=decide (pfx s=1)) (L: ∀k,bt t k=bt s (pfx s+k)) (N:t.size=s.size-pfx s)
  (hc: ∀w,Calls prog 226 #[.string s,.string {data:=#[45]}] w fun e w'=>e= .returned (.tuple #[.string t,.bool b])/\w'=w) (h1:1<=t.size) (h9:t.size<=9):
  Calls prog 209 #[.string s] w fun e w'=>e= .returned (.tuple #[.int .i64 (rdV s),.bool (zeZ s)])/\w'=w:=by
 have HC:Hid (∀w,Calls prog 226 #[.string s,.string {data:=#[45]}] w fun e w'=>e= .returned (.tuple #[.string t,.bool b])/\w'=w):=hc;have J:Hid (∀k,bt t k=bt s (pfx s+k)):=L;have K:Hid (t.size=s.size-pfx s):=N;have ac:Hid (b=decide (pfx s=1)):=V;clear hc L N V;have t1:(1:Int)<=t.size:=by omega
 have t9:(t.size:Int)<=9:=by omega
 cases b
 all_goals
  go_enter func209,ntmps209;go_wp2;go_step3;go_wp2_with (go_at_call 226;refine (HC.o _).mono ?_;rintro e w' ⟨rfl,rfl⟩);go_step3;go_wp2;go_loop [6,7,25] (fun n o i=>∃k:Nat,k<=t.size/\i= .int .i64 k/\n= .int .i64 (dv s (pfx s) k)/\o= .bool true/\zdw s k) (fun _ _ i=>(t.size-intOf i).toNat)
  case atStart=>exact⟨0,by omega,rfl,rfl,rfl,zuE s⟩
  case round=>
   obtain⟨k,hk,rfl,rfl,rfl,I⟩:=hrel;have HT:Hid (zdw s k):=I;have hv:=zuI I (by omega);clear I;by_cases aa:k<t.size
   ·have ae:=bt_nonneg t k;have ag:=bt_le t k;have hb:=get_bt t;by_cases X:48<=bt t k/\bt t k<=57
    ·obtain⟨H,A⟩:=X;have HD:Hid (dv s (pfx s) (k+1)=10*dv s (pfx s) k+(bt t k-48)):=by
      show dv s (pfx s) (k+1)=_;rw[dv,J.o k];omega
     by_cases M:(bt t k-48==0)=true
     ·by_cases z:((k:Int)==0)=true
      ·have Y:k=0:=by simpa using z
       have O:bt s (pfx s)=48:=by
        have U:=J.o k;rw[Y] at U;rw[Y] at M;have e2:bt t 0-48=0:=by simpa using M
        rw[Nat.add_zero] at U;omega
       by_cases Z:(s.toList==[48])=true
       ·have q:Hid (zdw s (k+1)):=zi4 HT.o (by rw[<-J.o k];exact⟨H,A⟩) (fun _=>.inr ((zms s O).1 Z));clear Y O;go_wp2;go_round
        case rel=>exact⟨k+1,by omega,by go_num,by rw[HD.o],rfl,q.o⟩
        case measure=>simp[intOf];omega
       ·have q:Hid (¬RdP s):=zuH O (fun h=>Z ((zms s O).2 h));have af:(s.toList==[48])=false:=by simpa using Z
        clear Y O Z;go_wp2;go_ret2;exact⟨zdF (by rw[ze3 q.o]) (zdC q.o).symm,rfl⟩
      ·have q:Hid (zdw s (k+1)):=zi4 HT.o (by rw[<-J.o k];exact⟨H,A⟩) (fun e=>absurd (show ((k:Int)==0)=true by rw[e];rfl) z);have ad:((k:Int)==0)=false:=by simpa using z
       clear z;go_wp2;go_round
       case rel=>exact⟨k+1,by omega,by go_num,by rw[HD.o],rfl,q.o⟩
       case measure=>simp[intOf];omega
     ·have q:Hid (zdw s (k+1)):=zi4 HT.o (by rw[<-J.o k];exact⟨H,A⟩) (fun e=>by
       left;intro ab;apply M;have U:=J.o k;rw[e,Nat.add_zero] at U;rw[e,U,ab]
       rfl)
      have ah:(bt t k-48==0)=false:=by simpa using M
      clear M;go_wp2;go_round
      case rel=>exact⟨k+1,by omega,by go_num,by rw[HD.o],rfl,q.o⟩
      case measure=>simp[intOf];omega
    ·have q:Hid (¬RdP s):=zuG (k:=k) (by rw[<-K.o];exact aa) (by rw[<-J.o k];exact X);by_cases H:48<=bt t k
     ·have A:57<bt t k:=by omega
      clear X;go_wp2;go_ret2;exact⟨zdF (by rw[ze3 q.o]) (zdC q.o).symm,rfl⟩
     ·clear X;go_wp2;go_ret2;exact⟨zdF (by rw[ze3 q.o]) (zdC q.o).symm,rfl⟩
   ·have HY:Hid (RdP s):=zuF HT.o (by rw[<-K.o];omega) (by omega) (by omega);have HK:Hid (k=s.size-pfx s):=by show k=s.size-pfx s;rw[<-K.o];omega
    go_wp2;go_ret2;refine⟨zdF ?_ (zfQ HY.o).symm,rfl⟩;rw[zuJ HY.o,HK.o];have:=ac.o;simp at this;simp[this]
theorem zuK (s:BA) (k:Nat):bt (s.extract 1 s.size) k=bt s (1+k):=by
 rw[zd1,zd1,Lib.extract_data,List.take_of_length_le (by rw[List.length_drop,Array.length_toList];exact Nat.le_refl _),List.map_drop];simp only[List.getD,List.getElem?_drop]
theorem zuL (s:BA):(s.extract 1 s.size).size=s.size-1:=by simp
theorem zuM (s:BA) (w:World) (L:s.size<=9223372036854775807):
  Calls prog 209 #[.string s] w fun e w'=>e= .returned (.tuple #[.int .i64 (rdV s),.bool (zeZ s)])/\w'=w:=by
 by_cases I:bt s 0=45
 ·have q:pfx s=1:=by simp[pfx,I]
  have N:=zuy s;have H:decide (bt s 0=45)=true:=decide_eq_true I;have V:1<=s.size:=by omega
  obtain⟨t,K⟩: ∃t,t=s.extract 1 s.size:=⟨_,rfl⟩;have J: ∀w,Calls prog 226 #[.string s,.string {data:=#[45]}] w fun e w'=>e= .returned (.tuple #[.string t,.bool true])/\w'=w:=by
   intro w;rw[K];exact zuD s w L H V
  have A:t.size=s.size-pfx s:=by rw[K,q,zuL s]
  by_cases h:1<=t.size/\t.size<=9
  ·exact zmt s t true w (by rw[q];rfl) (fun k=>by rw[K,q];exact zuK s k) A J h.1 h.2
  ·have z:Hid (¬RdP s):=fun k=>h (by rw[A];exact⟨k.1,k.2.1⟩);have M:Hid (∀w,Calls prog 226 #[.string s,.string {data:=#[45]}] w fun e w'=>e= .returned (.tuple #[.string t,.bool true])/\w'=w):=J;have O:t.size<=9223372036854775807:=by omega
   clear J A K N H q I;by_cases X:1<=t.size
   ·have U:(9:Int)<t.size:=by omega
    clear h;go_enter func209,ntmps209;go_wp2;go_step3;go_wp2_with (go_at_call 226;refine (M.o _).mono ?_;rintro e w' ⟨rfl,rfl⟩)
    try rw[Exit.noGoto_ret]
    go_ret2;exact⟨zdF (by rw[ze3 z.o]) (zdC z.o).symm,rfl⟩
   ·clear h;go_enter func209,ntmps209;go_wp2;go_step3;go_wp2_with (go_at_call 226;refine (M.o _).mono ?_;rintro e w' ⟨rfl,rfl⟩)
    try rw[Exit.noGoto_ret]
    go_ret2;exact⟨zdF (by rw[ze3 z.o]) (zdC z.o).symm,rfl⟩
 ·have q:pfx s=0:=by simp[pfx,I]
  have H:decide (bt s 0=45)=false:=decide_eq_false I;have J:=fun w=>zi3 s w L H;by_cases h:1<=s.size/\s.size<=9
  ·exact zmt s s false w (by rw[q];rfl) (fun k=>by rw[q,Nat.zero_add]) (by rw[q];rfl) J h.1 h.2
  ·have z:Hid (¬RdP s):=fun k=>h (by have a:=k.1;have b:=k.2.1;rw[q] at a b;exact⟨a,b⟩);clear J q I;by_cases X:1<=s.size
   ·have U:(9:Int)<s.size:=by omega
    clear h;go_enter func209,ntmps209;go_wp2;go_step3;go_wp2_with (go_at_call 226;refine (zi3 _ _ L H).mono ?_;rintro e w' ⟨rfl,rfl⟩)
    try rw[Exit.noGoto_ret]
    go_ret2;exact⟨zdF (by rw[ze3 z.o]) (zdC z.o).symm,rfl⟩
   ·clear h;go_enter func209,ntmps209;go_wp2;go_step3;go_wp2_with (go_at_call 226;refine (zi3 _ _ L H).mono ?_;rintro e w' ⟨rfl,rfl⟩)
    try rw[Exit.noGoto_ret]
    go_ret2;exact⟨zdF (by rw[ze3 z.o]) (zdC z.o).symm,rfl⟩
end Go.Proofs.YtgcbmogmniahjaaGreat
