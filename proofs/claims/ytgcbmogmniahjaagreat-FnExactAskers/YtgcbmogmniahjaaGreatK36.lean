/- Facts and walks. -/
import Derived.Lib.IndexLaws
import Derived.Test.YtgcbmogmniahjaaGreatK6
import Derived.WalkMore
namespace Go.Proofs.YtgcbmogmniahjaaGreat
open Nat (lt_or_ge add_zero zero_add)
open Go.Proofs.Tryz
set_option maxHeartbeats 1600000
open Go.RowKit Go.PlainAid
variable (z:Int) (s:BA) (g b c:Nat) (w:World) {t:BA} {d n:Nat} {u:Int} {W:Bool}
theorem zuL (E:b<256):s.data.toList[g]? =some (UInt8.ofNat b)↔g<s.size/\bt s g=(b:Int):=by
 by_cases q:g<s.size
 ·have w:g<s.data.toList.length:=by rw[Array.length_toList];exact q
  have A:bt s g=((s.data.toList[g]).toNat:Int):=by rw[zd8];simp[List.getD,List.getElem?_eq_getElem w]
  have z:(UInt8.ofNat b).toNat=b:=by rw[UInt8.toNat_ofNat'];omega
  rw[List.getElem?_eq_getElem w,A];refine⟨fun h=>⟨q,by simp only[Option.some.injEq] at h;rw[h,z]⟩,fun h=>?_⟩;have D:=h.2;have:(s.data.toList[g])=UInt8.ofNat b:=by
   apply UInt8.toNat_inj.1;rw[z];omega
  rw[this]
 ·have w:s.data.toList.length<=g:=by rw[Array.length_toList];exact Nat.le_of_not_lt q
  rw[List.getElem?_eq_none w];simp[q]
theorem zga (h:c<256):(s.extract g s.size).data.toList[b]? =some (UInt8.ofNat c)↔g+b<s.size/\bt s (g+b)=(c:Int):=by
 rw[Lib.extract_data,<-zuL _ _ _ h];have q:(s.data.toList.drop g).length=s.size-g:=by rw[List.length_drop,Array.length_toList];rfl
 rw[List.take_of_length_le (by omega),List.getElem?_drop]
def zgb (c:Int):Bool:=decide (zcF c)
def zgc (c:Int):Bool:=decide (zbr c)
theorem zuM (w:0<=z) (q:z<=255):decide (0<=Lib.indexByte [9,10,13,32] z.toNat.toUInt8)=zgb z:=by
 obtain⟨n,rfl⟩: ∃n:Nat,z=n:=⟨z.toNat,by omega⟩;have h: ∀n:Fin 256,decide (0<=Lib.indexByte [9,10,13,32] (UInt8.ofNat n.1))=zgb (n.1:Int):=by decide+kernel
 exact h ⟨n,by omega⟩
theorem zuN (w:0<=z) (q:z<=255):decide (0<=Lib.indexByte [123,125,40,41,44,59,61,46,42,43,45] z.toNat.toUInt8)=zgc z:=by
 obtain⟨n,rfl⟩: ∃n:Nat,z=n:=⟨z.toNat,by omega⟩;have h: ∀n:Fin 256,decide (0<=Lib.indexByte [123,125,40,41,44,59,61,46,42,43,45] (UInt8.ofNat n.1))=zgc (n.1:Int):=by decide+kernel
 exact h ⟨n,by omega⟩
theorem zuO (H:0<=u) (h:Lib.indexByte (t.extract d t.size).data.toList (10:Int).toNat.toUInt8=u): ∃e:Nat,(d:Int)+u=(e:Int)/\za6 zb3 t d e/\e<t.size:=by
 obtain⟨n,rfl⟩: ∃n:Nat,u=n:=⟨u.toNat,by omega⟩;obtain⟨A,w⟩:=Lib.indexByte_some h;have q:=(zga t d n 10 (by decide)).1 A;refine⟨d+n,by omega,⟨by omega,by omega,fun j z E=>decide_eq_true fun D=>?_,fun _=>by rw[zb3,q.2];rfl⟩,q.1⟩;apply w (j-d) (by omega);have:=(zga t d (j-d) 10 (by decide)).2 (by rw[show d+(j-d)=j from by omega];exact⟨by omega,D⟩);exact this
theorem zuP (w:d<=t.size) (h: ¬0<=Lib.indexByte (t.extract d t.size).data.toList (10:Int).toNat.toUInt8):za6 zb3 t d t.size:=by
 have q:=Lib.indexByte_ge (t.extract d t.size).data.toList (10:Int).toNat.toUInt8;have A:Lib.indexByte (t.extract d t.size).data.toList (10:Int).toNat.toUInt8= -1:=by omega
 refine⟨w,Nat.le_refl _,fun j z E=>decide_eq_true fun D=>?_,fun h=>absurd h (Nat.lt_irrefl _)⟩;apply Lib.indexByte_none A (j-d);have:=(zga t d (j-d) 10 (by decide)).2 (by rw[show d+(j-d)=j from by omega];exact⟨by omega,D⟩);exact this
theorem zuQ (w:d<t.size) (q:zc1 t d) (h:za6 zb3 t d n):d<n:=by
 rcases lt_or_ge d n with k|k
 ·exact k
 ·have z:n=d:=by have:=h.1;omega
  subst z;have:=h.2.2.2 w;rw[zb3,q.1] at this;simp at this
theorem zuR (l:List UInt8) (x y:UInt8):[x,y].isPrefixOf l=true↔l[0]? =some x/\l[1]? =some y:=by
 match l with
 |[]=>simp
 |[p]=>simp
 |p::q::r=>
  simp;exact⟨fun h=>⟨h.1.symm,h.2.symm⟩,fun h=>⟨h.1.symm,h.2.symm⟩⟩
def zhg (s:BA) (a:Nat):Bool:=decide (zc1 s a)
theorem zuS:Lib.hasPrefix (s.extract g s.size).data.toList [47,47]=zhg s g:=by
 rw[Bool.eq_iff_iff,Lib.hasPrefix,zuR,zhg,decide_eq_true_eq];have z:=zga s g 0 47 (by decide);have w:=zga s g 1 47 (by decide);rw[add_zero] at z;constructor
 ·rintro⟨q,h⟩;exact⟨(z.1 q).2,(w.1 h).1,(w.1 h).2⟩
 ·rintro⟨q,h,A⟩;exact⟨z.2 ⟨by omega,q⟩,w.2 ⟨h,A⟩⟩
theorem zfk (_:b<=s.size) (q:g+c<b):bt (s.extract g b) c=bt s (g+c):=by
 rw[zd8,zd8,Lib.extract_data];have h:s.data.toList.length=s.size:=Array.length_toList;simp only[List.getD,List.getElem?_map];rw[List.getElem?_take,if_pos (by omega),List.getElem?_drop]
theorem zfl (h:b<=s.size):(s.extract g b).size=b-g:=by rw[ByteArray.size_extract];omega
theorem zm1 (q:b<=s.size) (k:Nat) (w:g+k<=b):dv (s.extract g b) 0 k=zbI s g k:=by
 induction k with
 |zero=>rfl
 |succ k h=>rw[dv,zbI,h (by omega),zero_add,zfk s g b k q (by omega)]
theorem zm2 (q:n<=t.size) (w:d<n) (h:zL (bt t d)=true):pfx (t.extract d n)=0:=by
 unfold pfx;rw[zfk t d n 0 q (by omega),add_zero,if_neg];rw[zcS] at h;omega
theorem zm3 (A:d<t.size) (w:zL (bt t d)=true) (q:za6 (zN W) t d n):d<n:=by
 rcases lt_or_ge d n with k|k
 ·exact k
 ·have z:n=d:=by have:=q.1;omega
  subst z;have:=q.2.2.2 A;simp[zN,w] at this
theorem zuT (V:d<t.size) (N:zL (bt t d)=true) (E:za6 (zN W) t d n) (h:RdP (t.extract d n)) (U:rdV (t.extract d n)<=1000000):zbc t d W (rdV (t.extract d n)) n:=by
 have D:=zm3 V N E;have A:=E.2.1;have z:=zm2 A D N;have M:=zfl t d n A;obtain⟨K,I,L,J⟩:=h;rw[z] at K I L J;have O: ∀j,j<n-d->zeC (bt t (d+j)):=fun j X=>by
  have:=L j (by omega);rw[zero_add,zfk t d n j A (by omega)] at this;exact this
 have q:n<t.size->zN W (bt t n)=false:=E.2.2.2;refine⟨⟨E.1,A,fun j K I=>?_,fun h=>?_⟩,D,?_,?_,U,fun h=>?_⟩
 ·have:=O (j-d) (by omega);rw[show d+(j-d)=j from by omega] at this;exact zcS.2 this
 ·have:=q h;simp[zN] at this;exact this.2
 ·rcases J with g|g
  ·rw[zfk t d n 0 A (by omega),add_zero] at g;exact .inr g
  ·left;have:=g.2;omega
 ·have H:zfj (t.extract d n)=true:=zfZ ⟨by rw[z];exact K,by rw[z];exact I,by rw[z];exact L,by rw[z];exact J⟩;rw[rdV,if_pos H,if_neg (by rw[z];decide),M,zm1 t d n A _ (by omega)]
 ·have:=q h;simp[zN] at this;exact this.1
theorem zuU {C:Int} (h:zbc t d W C n):za6 (zN W) t d n:=
 ⟨h.1.1,h.1.2.1,fun j w z=>by simp[zN,h.1.2.2.1 j w z],fun k=>by simp[zN,h.1.2.2.2 k,h.2.2.2.2.2 k]⟩
theorem zuV (E:49<=bt t d) (h: ∀j,j<8->48<=bt t (d+j)):10000000<=zbI t d 8:=by
 have A:=h 1 (by omega);have q:=h 2 (by omega);have z:=h 3 (by omega);have w:=h 4 (by omega);have D:=h 5 (by omega);have I:=h 6 (by omega);have H:=h 7 (by omega);simp only[zbI,add_zero];omega
theorem zm4 (X:d<t.size) (M:zL (bt t d)=true) (K:za6 (zN W) t d n) (h: ¬RdP (t.extract d n)∨1000000<rdV (t.extract d n)): ∀C q,¬zbc t d W C q:=by
 intro C q U;obtain rfl:=zfw (zuU U) K;have J:=zm3 X M K;have H:=K.2.1;have O:=zm2 H J M;have E:=zfl t d q H;obtain⟨⟨_,_,w,_⟩,_,N,hv,hm,_⟩:=U;have I:RdP (t.extract d q):=by
  unfold RdP;rw[O,E];refine⟨by omega,?_,fun j V=>?_,?_⟩
  ·rcases lt_or_ge 9 (q-d) with g|g
   ·exfalso;have A: ∀j,j<q-d->48<=bt t (d+j):=fun j V=>(zcS.1 (w (d+j) (by omega) (by omega))).1;have L:49<=bt t d:=by
     have:=A 0 (by omega);rw[add_zero] at this;rcases N with z|z
     ·omega
     ·omega
    have Z:=zuV L (fun j V=>A j (by omega));have Y:=(zjw 8 (q-d) A (by omega)).2;omega
   ·omega
  ·rw[zero_add,zfk t d q j H (by omega)];exact zcS.1 (w (d+j) (by omega) (by omega))
  ·rw[zfk t d q 0 H (by omega),add_zero];rcases N with z|z
   ·right;exact⟨rfl,by omega⟩
   ·exact .inl z
 rcases h with h|h
 ·exact h I
 ·rw[rdV,if_pos (zfZ I),if_neg (by rw[O];decide),E,zm1 t d q H _ (by omega)] at h;omega
theorem zm5 (C:0<=z) (q:z<=255) (c:Nat) (w:c<256):UInt8.ofNat z.toNat=UInt8.ofNat c↔z=c:=by
 constructor
 ·intro h;have:=congrArg UInt8.toNat h;simp only[UInt8.toNat_ofNat'] at this;omega
 ·intro h;rw[h];rfl
theorem zuW (h:1<=s.size):((s.extract 0 1).toList==[45])=decide (bt s 0=45):=by
 rw[zjv s 1 h,Lib.toList_data,strOfNums_data];simp only[bsl,List.map_cons,List.map_nil];rw[Bool.eq_iff_iff,beq_iff_eq,decide_eq_true_eq];have:=zm5 (bt s 0) (bt_nonneg s 0) (bt_le s 0) 45 (by decide);simp only[List.cons.injEq,and_true];exact this
theorem zm6 (_:s.size<=9223372036854775807):
  Calls prog 207 #[.string s,.string {data:=#[45]}] w fun e z=>e= .returned (.bool (decide (bt s 0=45)))/\z=w:=by
 by_cases h:1<=s.size
 ·have q:Hid (((s.extract 0 1).toList==[45])=decide (bt s 0=45)):=zuW s h;go_enter func207,ntmps207;go_wp2;go_ret;exact⟨zi q.o,rfl⟩
 ·have q:Hid (decide (bt s 0=45)=false):=by show decide (bt s 0=45)=false;rw[bt_end s (by omega)];rfl
  go_enter func207,ntmps207;go_wp2;go_ret;exact⟨zi q.o.symm,rfl⟩
theorem zuX (z:s.size<=9223372036854775807) (h:decide (bt s 0=45)=false):
  Calls prog 245 #[.string s,.string {data:=#[45]}] w fun e q=>e= .returned (.tuple #[.string s,.bool false])/\q=w:=by
 go_enter func245,ntmps245;go_wp2_with fail;refine (zm6 _ _ z).mono ?_;rintro e q ⟨rfl,rfl⟩;go_wp2;go_ret2;exact⟨rfl,rfl⟩
theorem zuY (z:s.size<=9223372036854775807) (h:decide (bt s 0=45)=true) (A:1<=s.size):
  Calls prog 245 #[.string s,.string {data:=#[45]}] w fun e q=>e= .returned (.tuple #[.string (s.extract 1 s.size),.bool true])/\q=w:=by
 go_enter func245,ntmps245;go_wp2_with fail;refine (zm6 _ _ z).mono ?_;rintro e q ⟨rfl,rfl⟩;go_wp2;go_ret2;exact⟨rfl,rfl⟩
theorem ziC (z:s.size<=9223372036854775807) (h:decide (bt s 0=45)=false):
  Calls prog 226 #[.string s,.string {data:=#[45]}] w fun e q=>e= .returned (.tuple #[.string s,.bool false])/\q=w:=by
 go_enter func226,ntmps226;go_wp2_with fail;refine (zuX _ _ z h).mono ?_;rintro e q ⟨rfl,rfl⟩;go_wp2;go_ret2;exact⟨rfl,rfl⟩
theorem zuZ (z:s.size<=9223372036854775807) (h:decide (bt s 0=45)=true) (A:1<=s.size):
  Calls prog 226 #[.string s,.string {data:=#[45]}] w fun e q=>e= .returned (.tuple #[.string (s.extract 1 s.size),.bool true])/\q=w:=by
 go_enter func226,ntmps226;go_wp2_with fail;refine (zuY _ _ z h A).mono ?_;rintro e q ⟨rfl,rfl⟩;go_wp2;go_ret2;exact⟨rfl,rfl⟩
theorem zm7 (h:bt s (pfx s)=48):(s.toList==[48])=true↔(pfx s=0/\s.size=1):=by
 have e:s.toList=(bsl s 0 s.size).map (fun n=>UInt8.ofNat n.toNat):=by
  rw[Lib.toList_data,<-strOfNums_data,<-znC s]
 rw[e,beq_iff_eq];constructor
 ·intro k;have q:=congrArg List.length k;rw[List.length_map,zn9] at q;have w:s.size=1:=by simpa using q
  rw[w] at k;simp only[bsl,List.map_cons,List.map_nil,List.cons.injEq,and_true] at k;have:=(zm5 (bt s 0) (bt_nonneg s 0) (bt_le s 0) 48 (by decide)).1 k;refine⟨?_,w⟩;unfold pfx;rw[if_neg (by omega)]
 ·rintro⟨A,z⟩;rw[A] at h;rw[z];simp[bsl,h]
def zd3 (s:BA) (k:Nat):Prop:=(∀j,j<k->zeC (bt s (pfx s+j)))/\(1<=k->bt s (pfx s)≠48∨(pfx s=0/\s.size=1))
theorem zva:zd3 s 0:=⟨fun _ h=>by omega,fun h=>by omega⟩
theorem zvb (h:zd3 t d) (w:d=t.size-pfx t) (q:1<=d) (z:d<=9):RdP t:=by
 subst w;exact⟨q,z,h.1,h.2 q⟩
theorem ziD (h:zd3 t d) (q:48<=bt t (pfx t+d)/\bt t (pfx t+d)<=57) (w:d=0->bt t (pfx t)≠48∨(pfx t=0/\t.size=1)):zd3 t (d+1):=by
 refine⟨fun j z=>?_,fun _=>?_⟩
 ·by_cases e:j=d
  ·rw[e];exact q
  ·exact h.1 j (by omega)
 ·by_cases e:d=0
  ·exact w e
  ·exact h.2 (by omega)
theorem zvc {k:Nat} (w:k<t.size-pfx t) (q: ¬(48<=bt t (pfx t+k)/\bt t (pfx t+k)<=57)): ¬RdP t:=fun h=>q (h.2.2.1 k w)
theorem zvd (q:bt t (pfx t)=48) (h: ¬(pfx t=0/\t.size=1)): ¬RdP t:=fun k=>by
 rcases k.2.2.2 with e|e
 ·exact e q
 ·exact h e
theorem zve (h:zd3 t d) (q:d<=9):0<=dv t (pfx t) d/\dv t (pfx t) d<=1000000000:=by
 have a:=zuI t (pfx t) d h.1;have b:=zuJ d q;omega
theorem zvf (h:RdP t):rdV t=if pfx t=1 then-dv t (pfx t) (t.size-pfx t) else dv t (pfx t) (t.size-pfx t):=by
 rw[rdV,if_pos (zfZ h)];by_cases e:bt t 0=45
 ·have q:pfx t=1:=by simp[pfx,e]
  rw[q,if_pos rfl,if_pos rfl]
 ·have q:pfx t=0:=by simp[pfx,e]
  rw[q];rfl
theorem zm8 (t:BA) (b:Bool) (w:World) (U:b=decide (pfx s=1)) (K: ∀k,bt t k=bt s (pfx s+k)) (M:t.size=s.size-pfx s) (hc: ∀w,Calls prog 226 #[.string s,.string {data:=#[45]}] w fun e J=>e= .returned (.tuple #[.string t,.bool b])/\J=w) (h1:1<=t.size) (h9:t.size<=9):
  Calls prog 209 #[.string s] w fun e J=>e= .returned (.tuple #[.int .i64 (rdV s),.bool (zfj s)])/\J=w:=by
 have HC:Hid (∀w,Calls prog 226 #[.string s,.string {data:=#[45]}] w fun e J=>e= .returned (.tuple #[.string t,.bool b])/\J=w):=hc;have H:Hid (∀k,bt t k=bt s (pfx s+k)):=K;have I:Hid (t.size=s.size-pfx s):=M;have ac:Hid (b=decide (pfx s=1)):=U;clear hc K M U;have t1:(1:Int)<=t.size:=by omega
 have t9:(t.size:Int)<=9:=by omega
 cases b
 all_goals
  go_enter func209,ntmps209;go_wp2;go_step3;go_wp2_with (go_at_call 226;refine (HC.o _).mono ?_;rintro e J ⟨rfl,rfl⟩);go_step3;go_wp2;go_loop [6,7,25] (fun n o i=>∃k:Nat,k<=t.size/\i= .int .i64 k/\n= .int .i64 (dv s (pfx s) k)/\o= .bool true/\zd3 s k) (fun _ _ i=>(t.size-intOf i).toNat)
  case atStart=>exact⟨0,by omega,rfl,rfl,rfl,zva s⟩
  case round=>
   obtain⟨k,hk,rfl,rfl,rfl,E⟩:=hrel;have Z:Hid (zd3 s k):=E;have hv:=zve E (by omega);clear E;by_cases aa:k<t.size
   ·have ae:=bt_nonneg t k;have ag:=bt_le t k;have hb:=get_bt t;by_cases V:48<=bt t k/\bt t k<=57
    ·obtain⟨D,A⟩:=V;have HD:Hid (dv s (pfx s) (k+1)=10*dv s (pfx s) k+(bt t k-48)):=by
      show dv s (pfx s) (k+1)=_;rw[dv,H.o k];omega
     by_cases L:(bt t k-48==0)=true
     ·by_cases z:((k:Int)==0)=true
      ·have X:k=0:=by simpa using z
       have N:bt s (pfx s)=48:=by
        have O:=H.o k;rw[X] at O;rw[X] at L;have e2:bt t 0-48=0:=by simpa using L
        rw[add_zero] at O;omega
       by_cases Y:(s.toList==[48])=true
       ·have q:Hid (zd3 s (k+1)):=ziD Z.o (by rw[<-H.o k];exact⟨D,A⟩) (fun _=>.inr ((zm7 s N).1 Y));clear X N;go_wp2;go_round
        case rel=>exact⟨k+1,by omega,by go_num,by rw[HD.o],rfl,q.o⟩
        case measure=>simp[intOf];omega
       ·have q:Hid (¬RdP s):=zvd N (fun h=>Y ((zm7 s N).2 h));have af:(s.toList==[48])=false:=by simpa using Y
        clear X N Y;go_wp2;go_ret2;exact⟨zdO (by rw[zeD q.o]) (zdK q.o).symm,rfl⟩
      ·have q:Hid (zd3 s (k+1)):=ziD Z.o (by rw[<-H.o k];exact⟨D,A⟩) (fun e=>absurd (show ((k:Int)==0)=true by rw[e];rfl) z);have ad:((k:Int)==0)=false:=by simpa using z
       clear z;go_wp2;go_round
       case rel=>exact⟨k+1,by omega,by go_num,by rw[HD.o],rfl,q.o⟩
       case measure=>simp[intOf];omega
     ·have q:Hid (zd3 s (k+1)):=ziD Z.o (by rw[<-H.o k];exact⟨D,A⟩) (fun e=>by
       left;intro ab;apply L;have O:=H.o k;rw[e,add_zero] at O;rw[e,O,ab]
       rfl)
      have ah:(bt t k-48==0)=false:=by simpa using L
      clear L;go_wp2;go_round
      case rel=>exact⟨k+1,by omega,by go_num,by rw[HD.o],rfl,q.o⟩
      case measure=>simp[intOf];omega
    ·have q:Hid (¬RdP s):=zvc (k:=k) (by rw[<-I.o];exact aa) (by rw[<-H.o k];exact V);by_cases D:48<=bt t k
     ·have A:57<bt t k:=by omega
      clear V;go_wp2;go_ret2;exact⟨zdO (by rw[zeD q.o]) (zdK q.o).symm,rfl⟩
     ·clear V;go_wp2;go_ret2;exact⟨zdO (by rw[zeD q.o]) (zdK q.o).symm,rfl⟩
   ·have HY:Hid (RdP s):=zvb Z.o (by rw[<-I.o];omega) (by omega) (by omega);have HK:Hid (k=s.size-pfx s):=by show k=s.size-pfx s;rw[<-I.o];omega
    go_wp2;go_ret2;refine⟨zdO ?_ (zfZ HY.o).symm,rfl⟩;rw[zvf HY.o,HK.o];have:=ac.o;simp at this;simp[this]
theorem zvg:bt (s.extract 1 s.size) g=bt s (1+g):=by
 rw[zd8,zd8,Lib.extract_data,List.take_of_length_le (by rw[List.length_drop,Array.length_toList];exact Nat.le_refl _),List.map_drop];simp only[List.getD,List.getElem?_drop]
theorem zvh:(s.extract 1 s.size).size=s.size-1:=by simp
theorem zvi (K:s.size<=9223372036854775807):
  Calls prog 209 #[.string s] w fun e z=>e= .returned (.tuple #[.int .i64 (rdV s),.bool (zfj s)])/\z=w:=by
 by_cases H:bt s 0=45
 ·have q:pfx s=1:=by simp[pfx,H]
  have M:=zuK s;have E:decide (bt s 0=45)=true:=decide_eq_true H;have U:1<=s.size:=by omega
  obtain⟨t,J⟩: ∃t,t=s.extract 1 s.size:=⟨_,rfl⟩;have I: ∀w,Calls prog 226 #[.string s,.string {data:=#[45]}] w fun e z=>e= .returned (.tuple #[.string t,.bool true])/\z=w:=by
   intro w;rw[J];exact zuZ s w K E U
  have D:t.size=s.size-pfx s:=by rw[J,q,zvh s]
  by_cases h:1<=t.size/\t.size<=9
  ·exact zm8 s t true w (by rw[q];rfl) (fun k=>by rw[J,q];exact zvg s k) D I h.1 h.2
  ·have A:Hid (¬RdP s):=fun k=>h (by rw[D];exact⟨k.1,k.2.1⟩);have L:Hid (∀w,Calls prog 226 #[.string s,.string {data:=#[45]}] w fun e z=>e= .returned (.tuple #[.string t,.bool true])/\z=w):=I;have N:t.size<=9223372036854775807:=by omega
   clear I D J M E q H;by_cases V:1<=t.size
   ·have O:(9:Int)<t.size:=by omega
    clear h;go_enter func209,ntmps209;go_wp2;go_step3;go_wp2_with (go_at_call 226;refine (L.o _).mono ?_;rintro e z ⟨rfl,rfl⟩)
    try rw[Exit.noGoto_ret]
    go_ret2;exact⟨zdO (by rw[zeD A.o]) (zdK A.o).symm,rfl⟩
   ·clear h;go_enter func209,ntmps209;go_wp2;go_step3;go_wp2_with (go_at_call 226;refine (L.o _).mono ?_;rintro e z ⟨rfl,rfl⟩)
    try rw[Exit.noGoto_ret]
    go_ret2;exact⟨zdO (by rw[zeD A.o]) (zdK A.o).symm,rfl⟩
 ·have q:pfx s=0:=by simp[pfx,H]
  have E:decide (bt s 0=45)=false:=decide_eq_false H;have I:=fun w=>ziC s w K E;by_cases h:1<=s.size/\s.size<=9
  ·exact zm8 s s false w (by rw[q];rfl) (fun k=>by rw[q,zero_add]) (by rw[q];rfl) I h.1 h.2
  ·have A:Hid (¬RdP s):=fun k=>h (by have a:=k.1;have b:=k.2.1;rw[q] at a b;exact⟨a,b⟩);clear I q H;by_cases V:1<=s.size
   ·have O:(9:Int)<s.size:=by omega
    clear h;go_enter func209,ntmps209;go_wp2;go_step3;go_wp2_with (go_at_call 226;refine (ziC _ _ K E).mono ?_;rintro e z ⟨rfl,rfl⟩)
    try rw[Exit.noGoto_ret]
    go_ret2;exact⟨zdO (by rw[zeD A.o]) (zdK A.o).symm,rfl⟩
   ·clear h;go_enter func209,ntmps209;go_wp2;go_step3;go_wp2_with (go_at_call 226;refine (ziC _ _ K E).mono ?_;rintro e z ⟨rfl,rfl⟩)
    try rw[Exit.noGoto_ret]
    go_ret2;exact⟨zdO (by rw[zeD A.o]) (zdK A.o).symm,rfl⟩
end Go.Proofs.YtgcbmogmniahjaaGreat
