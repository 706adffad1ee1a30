/- Facts and walks. -/
import Derived.Test.YtgcbmogmniahjaaGreatK23
namespace Go.Proofs.YtgcbmogmniahjaaGreat
open Go.Proofs.Tryz
set_option maxRecDepth 100000
set_option maxHeartbeats 3200000
open Go.RowKit Go.PlainAid
theorem zmX (s:BA) (w:World) (_:s.size<=9223372036854775807):
  Calls prog 53 #[.string s] w fun e J=>e= .returned (.bool (zaW s))/\J=w:=by
 by_cases Y:1<=s.size/\s.size<=40
 ·obtain⟨X,M⟩:=Y;have U:=zjq (a:=s.size) (b:=1) (c:=40) (by omega) (by omega);have hb:=get_bt s;by_cases A:(bt s 0==47)=true
  ·have D:bt s 0=47:=by simpa using A
   have V:Hid (bt s 0=47):=D;have L:(bt s 0 !=47)=false:=by simpa using D
   clear D;go_enter func53,ntmps53;go_wp2_with (go_at_call 25;refine (zfs _ _ _ _).mono ?_;rintro e J ⟨rfl,rfl⟩);go_loop [3,4] (fun i _=>∃k:Nat,k<=s.size/\i= .int .i64 k/\∀j,j<k->okc (bt s j)) (fun i _=>(s.size-intOf i).toNat)
   case atStart=>exact⟨0,by omega,rfl,fun j hj=>by omega⟩
   case round=>
    obtain⟨k,hk,rfl,I⟩:=hrel;have H:Hid (∀j,j<k->okc (bt s j)):=I;clear I;by_cases K:k<s.size
    ·have aa:=bt_nonneg s k;have ab:=bt_le s k;by_cases E:okc (bt s k)
     ·have z:Hid (∀j,j<k+1->okc (bt s j)):=fun j hj=>by
       by_cases e:j=k
       ·rw[e];exact E
       ·exact H.o j (by omega)
      have q:(97<=bt s k/\bt s k<=122)∨(48<=bt s k/\bt s k<=57)∨bt s k=46∨bt s k=95∨bt s k=45∨bt s k=47:=E;clear E;rcases q with ⟨a,b⟩|⟨a,b⟩|a|a|a|a
      all_goals
       go_wp2;go_round
       case rel=>exact⟨k+1,by omega,by go_num,z.o⟩
       case measure=>simp[intOf];omega
     ·have z:Hid (¬zc7 s):=fun h=>E (h.2.2.2 k K);have q: ¬(97<=bt s k/\bt s k<=122)/\¬(48<=bt s k/\bt s k<=57)/\bt s k≠46/\bt s k≠95/\bt s k≠45/\bt s k≠47:=by
       unfold okc at E;omega
      obtain⟨N,O,Z,c4,c5,c6⟩:=q;have d3:(bt s k==46)=false:=beq_eq_false_iff_ne.2 Z;have d4:(bt s k==95)=false:=beq_eq_false_iff_ne.2 c4;have d5:(bt s k==45)=false:=beq_eq_false_iff_ne.2 c5;have d6:(bt s k==47)=false:=beq_eq_false_iff_ne.2 c6;clear E Z c4 c5 c6;by_cases g1:97<=bt s k
      ·have g2:122<bt s k:=by omega
       have q1:decide (bt s k<=122)=false:=decide_eq_false (by omega);have q2:decide (bt s k<=57)=false:=decide_eq_false (by omega);clear N O;go_wp2;go_ret;exact⟨zi (zdI z.o).symm,rfl⟩
      ·by_cases g3:48<=bt s k
       ·have g4:57<bt s k:=by omega
        have q2:decide (bt s k<=57)=false:=decide_eq_false (by omega);clear N O;go_wp2;go_ret;exact⟨zi (zdI z.o).symm,rfl⟩
       ·clear N O;go_wp2;go_ret;exact⟨zi (zdI z.o).symm,rfl⟩
    ·have HY:Hid (zc7 s):=⟨X,M,V.o,fun j hj=>H.o j (by omega)⟩;go_wp2;go_ret;exact⟨zi (zk5 HY.o).symm,rfl⟩
  ·have z:Hid (¬zc7 s):=fun h=>A (by rw[h.2.2.1];rfl);have L:(bt s 0 !=47)=true:=by simpa using A
   clear A;go_enter func53,ntmps53;go_wp2_with (go_at_call 25;refine (zfs _ _ _ _).mono ?_;rintro e J ⟨rfl,rfl⟩);go_ret;exact⟨zi (zdI z.o).symm,rfl⟩
 ·have z:Hid (¬zc7 s):=fun h=>Y ⟨h.1,h.2.1⟩;have U:=zhw (a:=s.size) (b:=1) (c:=40) (by omega);go_enter func53,ntmps53;go_wp2_with (go_at_call 25;refine (zfs _ _ _ _).mono ?_;rintro e J ⟨rfl,rfl⟩);go_ret;exact⟨zi (zdI z.o).symm,rfl⟩
theorem Tryz.infoStr:(prog.info? 9).map (fun i=>(i.zero,i.size,i.bytes))=some (some (.string {data:=#[]}),1,16):=by kernel_rfl
theorem zwm (c:UInt8):({data:=#[c]}:BA).size=1:=rfl
theorem zwn (s:BA) (w:World) (hs:s.size<=9223372036854775807):
  Calls prog 26 #[.string s] w fun e U=>e= .returned (.string (zaL s))/\Bw w U:=by
 obtain⟨i0,hi,ag,ai,ak⟩:=info_parts Tryz.infoStr;by_cases hp:zaW s=true
 ·have az:1<=s.size:=(zdX.1 hp).1;have ax:s.size<=40:=(zdX.1 hp).2.1;have HP:Hid (zaW s=true):=hp;have hb:=get_bt s;go_enter func26,ntmps26;go_wp2_with (go_at_call 53;refine (zmX _ _ hs).mono ?_;rintro e U ⟨rfl,rfl⟩);go_loopw [3,4,5,6] (fun l f i _ wr=>∃(k n g D:Nat) (q:List BA) (E:Nat),k<=s.size+1/\i= .int .i64 k/\f= .int .i64 E/\l= .slice (some ⟨g,0,none⟩) n D/\zY s k=(E,q)/\zbo wr U.heap.size 9 g n D q/\Bw U wr) (fun _ _ i _ _=>(s.size+1-intOf i).toNat)
  case atStart=>exact⟨0,0,U.heap.size,0,[],0,by omega,rfl,rfl,rfl,rfl,⟨World.ownsRow_lit U #[] 0 (Nat.le_refl _) (by unfold maxLen;omega) rfl,rfl⟩,bA0⟩
  case round=>
   obtain⟨k,n,g,D,q,E,hk,rfl,rfl,rfl,aa,h,z⟩:=hrel;have HT:Hid (zY s k=(E,q)):=aa;have Y:=zhZ s k;rw[aa] at Y;simp only at Y;have hn:=zgI h;have K:=zig h;have H:n<=42:=by omega
   have A:Hid (n=q.length):=hn;clear aa hn;have au:E<=k:=Y.1;clear Y;have aj:=z.size;by_cases aw:k<=s.size
   ·by_cases hc:k<s.size/\bt s k≠47
    ·obtain⟨ac,ad⟩:=hc;have V:Hid (zY s (k+1)=(E,q)):=(zk6 ac ad).trans HT.o;have hq:(bt s k !=47)=true:=by simpa using ad
     clear ad;go_wp2;go_roundw
     case rel=>exact⟨k+1,n,g,D,q,E,by omega,by go_num,rfl,rfl,V.o,h,z⟩
     case measure=>simp[intOf];omega
    ·have V:Hid (zY s (k+1)=(k+1,upd (s.extract E k) q)):=by
      have:=zk7 hc;rw[HT.o] at this;exact this
     by_cases an:k<s.size
     ·have hq:(bt s k !=47)=false:=by
       have:bt s k=47:=by
        rcases Classical.em (bt s k=47) with e|e
        ·exact e
        ·exact absurd ⟨an,e⟩ hc
       simp[this]
      clear hc;by_cases p0:(s.extract E k).toList.isEmpty=true
      ·have I:Hid (zY s (k+1)=(k+1,q)):=by have:=V.o;rw[zgH p0] at this;exact this
       go_wp2;go_roundw
       case rel=>exact⟨k+1,n,g,D,q,k+1,by omega,by go_num,by go_num,rfl,I.o,h,z⟩
       case measure=>simp[intOf];omega
      ·have M:(s.extract E k).toList.isEmpty=false:=by simpa using p0
       clear p0;by_cases p1:((s.extract E k).toList==[46])=true
       ·have I:Hid (zY s (k+1)=(k+1,q)):=by have:=V.o;rw[zia p1] at this;exact this
        go_wp2;go_roundw
        case rel=>exact⟨k+1,n,g,D,q,k+1,by omega,by go_num,by go_num,rfl,I.o,h,z⟩
        case measure=>simp[intOf];omega
       ·have N:((s.extract E k).toList==[46])=false:=by simpa using p1
        clear p1;by_cases Z:((s.extract E k).toList==[46,46])=true
        ·have I:Hid (zY s (k+1)=(k+1,q.dropLast)):=by have:=V.o;rw[zic M N Z] at this;exact this
         match n,h,A,H,K with
         |0,h,A,H,K=>
          have HD:Hid (q.dropLast=q):=by
           show q.dropLast=q;have:=A.o;have e:q=[]:=List.length_eq_zero_iff.1 this.symm;rw[e];rfl
          go_wp2;go_roundw
          case rel=>exact⟨k+1,0,g,D,q,k+1,by omega,by go_num,by go_num,rfl,by rw[I.o,HD.o],h,z⟩
          case measure=>simp[intOf];omega
         |n+1,h,A,H,K=>
          have O:=zkB h;have ac:n<=D:=by omega
          go_wp2;go_roundw
          case rel=>exact⟨k+1,n,g,D,q.dropLast,k+1,by omega,by go_num,by go_num,rfl,I.o,O,z⟩
          case measure=>simp[intOf];omega
        ·have ab:((s.extract E k).toList==[46,46])=false:=by simpa using Z
         clear Z;have I:Hid (zY s (k+1)=(k+1,q++[s.extract E k])):=by have:=V.o;rw[zib M N ab] at this;exact this
         go_wp2_with (first|(at_builtin;refine zgJ wr rfl _ _ 22 rfl U.heap.size 9 i0 _ underlying22 hi ag ai ak rfl g n D q (by rfl) h (s.extract E k) (by rfl) (by omega) aj ?_));intro g' L w2 J ae;go_wp2;go_roundw
         case rel=>exact⟨k+1,n+1,g',L,q++[s.extract E k],k+1,by omega,by go_num,by go_num,rfl,I.o,J,z.trans ae⟩
         case measure=>simp[intOf];omega
     ·clear hc;by_cases p0:(s.extract E k).toList.isEmpty=true
      ·have I:Hid (zY s (k+1)=(k+1,q)):=by have:=V.o;rw[zgH p0] at this;exact this
       go_wp2;go_roundw
       case rel=>exact⟨k+1,n,g,D,q,k+1,by omega,by go_num,by go_num,rfl,I.o,h,z⟩
       case measure=>simp[intOf];omega
      ·have M:(s.extract E k).toList.isEmpty=false:=by simpa using p0
       clear p0;by_cases p1:((s.extract E k).toList==[46])=true
       ·have I:Hid (zY s (k+1)=(k+1,q)):=by have:=V.o;rw[zia p1] at this;exact this
        go_wp2;go_roundw
        case rel=>exact⟨k+1,n,g,D,q,k+1,by omega,by go_num,by go_num,rfl,I.o,h,z⟩
        case measure=>simp[intOf];omega
       ·have N:((s.extract E k).toList==[46])=false:=by simpa using p1
        clear p1;by_cases Z:((s.extract E k).toList==[46,46])=true
        ·have I:Hid (zY s (k+1)=(k+1,q.dropLast)):=by have:=V.o;rw[zic M N Z] at this;exact this
         match n,h,A,H,K with
         |0,h,A,H,K=>
          have HD:Hid (q.dropLast=q):=by
           show q.dropLast=q;have:=A.o;have e:q=[]:=List.length_eq_zero_iff.1 this.symm;rw[e];rfl
          go_wp2;go_roundw
          case rel=>exact⟨k+1,0,g,D,q,k+1,by omega,by go_num,by go_num,rfl,by rw[I.o,HD.o],h,z⟩
          case measure=>simp[intOf];omega
         |n+1,h,A,H,K=>
          have O:=zkB h;have ac:n<=D:=by omega
          go_wp2;go_roundw
          case rel=>exact⟨k+1,n,g,D,q.dropLast,k+1,by omega,by go_num,by go_num,rfl,I.o,O,z⟩
          case measure=>simp[intOf];omega
        ·have ab:((s.extract E k).toList==[46,46])=false:=by simpa using Z
         clear Z;have I:Hid (zY s (k+1)=(k+1,q++[s.extract E k])):=by have:=V.o;rw[zib M N ab] at this;exact this
         go_wp2_with (first|(at_builtin;refine zgJ wr rfl _ _ 22 rfl U.heap.size 9 i0 _ underlying22 hi ag ai ak rfl g n D q (by rfl) h (s.extract E k) (by rfl) (by omega) aj ?_));intro g' L w2 J ae;go_wp2;go_roundw
         case rel=>exact⟨k+1,n+1,g',L,q++[s.extract E k],k+1,by omega,by go_num,by go_num,rfl,I.o,J,z.trans ae⟩
         case measure=>simp[intOf];omega
   ·obtain rfl:k=s.size+1:=by omega
    have af:Hid (parts s=q):=by show (zY s (s.size+1)).2=q;rw[HT.o]
    have ah: ∀x∈q,x.size<=s.size:=by
     have:=zk8 s (s.size+1);rw[HT.o] at this;exact this
    have HX:Hid (∀x∈q,x.size<=s.size):=ah;clear ah;by_cases X:n=0
    ·have HE:Hid (zaL s={data:=#[47]}):=zie HP.o (by rw[af.o,<-A.o];exact X);have hq:((n:Int)==0)=true:=by rw[X];rfl
     clear X;go_wp2;go_ret;exact⟨za4 HE.o.symm,z⟩
    ·have HE:Hid (zaL s=zcv q n):=by
      have:=zif HP.o (by rw[af.o,<-A.o];exact X);rw[af.o,<-A.o] at this;exact this
     have hq:((n:Int)==0)=false:=beq_eq_false_iff_ne.2 (by omega);go_wp2;go_loop [7,8] (fun o i=>∃j:Nat,j<=n/\i= .int .i64 j/\o= .string (zcv q j)) (fun _ i=>(n-intOf i).toNat)
     case atStart=>exact⟨0,by omega,rfl,rfl⟩
     case round=>
      obtain⟨j,hj,rfl,rfl⟩:=hrel;by_cases am:j<n
      ·have ap:=zih h j am;have av:(zcv q j).size<=2000:=by
        have h1:=zkA s q HX.o j;have h2:j*(s.size+1)<=42*41:=Nat.mul_le_mul (by omega) (by omega);omega
       have ay:(q[j]?.getD {data:=#[]}).size<=40:=by
        have:=zk9 s q HX.o j;rw[List.getD_eq_getElem?_getD] at this;omega
       have ar:(zcv q j++{data:=#[47]}).size<=2001:=by rw[ByteArray.size_append,zwm];omega
       have HJ:Hid (zcv q (j+1)=zcv q j++{data:=#[47]}++q.getD j {data:=#[]}):=rfl;go_wp2;go_round
       case rel=>exact⟨j+1,by omega,by go_num,by rw[HJ.o,List.getD_eq_getElem?_getD]⟩
       case measure=>simp[intOf];omega
      ·have al:j=n:=by omega
       have aq:Hid (zaL s=zcv q j):=by show zaL s=_;rw[HE.o,al]
       clear al;go_wp2;go_ret;exact⟨za4 aq.o.symm,z⟩
 ·have ao:zaW s=false:=by simpa using hp
  have HV:Hid (zaL s={data:=#[]}):=zid ao;clear hp;go_enter func26,ntmps26;go_wp2_with (go_at_call 53;refine (zmX _ _ hs).mono ?_;rintro e U ⟨rfl,rfl⟩);go_ret;exact⟨za4 HV.o.symm,Below.refl _ _⟩
end Go.Proofs.YtgcbmogmniahjaaGreat
namespace Go.Proofs.YtgcbmogmniahjaaGreat
open Go.Proofs.Tryz
set_option maxRecDepth 100000
set_option maxHeartbeats 1600000
open Go.RowKit Go.PlainAid
def okB (c:Int):Bool:=decide (okc c)
variable {z:Int}
theorem zng (h:okc z):okB z=true:=decide_eq_true h
theorem znh (h: ¬okc z):okB z=false:=decide_eq_false h
theorem zni (c:Int) (w:World) (Y:0<=c) (h1:c<=255):
  Calls prog 93 #[.int .u8 c] w fun e V=>e= .returned (.bool (okB c))/\V=w:=by
 by_cases z:okc c
 ·have q:Hid (okB c=true):=zng z;have h:(c=46∨c=95∨c=45∨c=47)∨(97<=c/\c<=122)∨(48<=c/\c<=57):=by unfold okc at z;omega
  clear z;rcases h with a|a|a
  ·rcases a with rfl|rfl|rfl|rfl
   all_goals
    go_enter func93,ntmps93;go_wp2;go_ret;exact⟨zi q.o.symm,rfl⟩
  ·have N:(c==46)=false:=beq_eq_false_iff_ne.2 (by omega);have M:(c==95)=false:=beq_eq_false_iff_ne.2 (by omega);have O:(c==45)=false:=beq_eq_false_iff_ne.2 (by omega);have U:(c==47)=false:=beq_eq_false_iff_ne.2 (by omega);obtain⟨X,J⟩:=a;have L:decide (c<=122)=true:=decide_eq_true J;go_enter func93,ntmps93;go_wp2;go_ret;exact⟨zi q.o.symm,rfl⟩
  ·have N:(c==46)=false:=beq_eq_false_iff_ne.2 (by omega);have M:(c==95)=false:=beq_eq_false_iff_ne.2 (by omega);have O:(c==45)=false:=beq_eq_false_iff_ne.2 (by omega);have U:(c==47)=false:=beq_eq_false_iff_ne.2 (by omega);obtain⟨X,J⟩:=a;have L:decide (c<=57)=true:=decide_eq_true J;go_enter func93,ntmps93;go_wp2;go_ret;exact⟨zi q.o.symm,rfl⟩
 ·have q:Hid (okB c=false):=znh z;have h:c≠46/\c≠95/\c≠45/\c≠47/\¬(97<=c/\c<=122)/\¬(48<=c/\c<=57):=by unfold okc at z;omega
  clear z;obtain⟨A,D,E,H,I,K⟩:=h;have N:(c==46)=false:=beq_eq_false_iff_ne.2 A;have M:(c==95)=false:=beq_eq_false_iff_ne.2 D;have O:(c==45)=false:=beq_eq_false_iff_ne.2 E;have U:(c==47)=false:=beq_eq_false_iff_ne.2 H;by_cases g1:97<=c
  ·have q1:decide (c<=122)=false:=decide_eq_false (by omega);have L:decide (c<=57)=false:=decide_eq_false (by omega);have Z:48<=c:=by omega
   clear A D E H I K;go_enter func93,ntmps93;go_wp2;go_ret;exact⟨zi q.o.symm,rfl⟩
  ·by_cases g3:48<=c
   ·have L:decide (c<=57)=false:=decide_eq_false (by omega);clear A D E H I K;go_enter func93,ntmps93;go_wp2;go_ret;exact⟨zi q.o.symm,rfl⟩
   ·clear A D E H I K;go_enter func93,ntmps93;go_wp2;go_ret;exact⟨zi q.o.symm,rfl⟩
theorem zje (s:BA) (w:World) (_:s.size<=9223372036854775807):
  Calls prog 62 #[.string s] w fun e O=>e= .returned (.bool (zaW s))/\O=w:=by
 have Z:=get_bt s;by_cases K:1<=s.size
 ·by_cases H:s.size<=40
  ·by_cases q:(bt s 0==47)=true
   ·have A:bt s 0=47:=by simpa using q
    have U:Hid (bt s 0=47):=A;have N:(bt s 0 !=47)=false:=by simpa using A
    clear A q;go_enter func62,ntmps62;go_wp2;go_loop [19,3] (fun i _=>∃k:Nat,k<=s.size/\i= .int .i64 k/\∀j,j<k->okc (bt s j)) (fun i _=>(s.size-intOf i).toNat)
    case atStart=>exact⟨0,by omega,rfl,fun j V=>by omega⟩
    case round=>
     obtain⟨k,hk,rfl,J⟩:=hrel;have E:Hid (∀j,j<k->okc (bt s j)):=J;clear J;by_cases M:k<s.size
     ·have I:=bt_nonneg s k;have L:=bt_le s k;by_cases D:okc (bt s k)
      ·have z:Hid (∀j,j<k+1->okc (bt s j)):=fun j V=>by
        by_cases e:j=k
        ·rw[e];exact D
        ·exact E.o j (by omega)
       have X:=zng D;clear D;go_wp2_with (go_at_call 93;refine (zni _ _ I L).mono ?_;rintro e O ⟨rfl,rfl⟩);go_round
       case rel=>exact⟨k+1,by omega,by go_num,z.o⟩
       case measure=>simp[intOf];omega
      ·have z:Hid (¬zc7 s):=fun h=>D (h.2.2.2 k M);have X:=znh D;clear D;go_wp2_with (go_at_call 93;refine (zni _ _ I L).mono ?_;rintro e O ⟨rfl,rfl⟩);go_ret;exact⟨zi (zdI z.o).symm,rfl⟩
     ·have Y:Hid (zc7 s):=⟨K,H,U.o,fun j V=>E.o j (by omega)⟩;go_wp2;go_ret;exact⟨zi (zk5 Y.o).symm,rfl⟩
   ·have z:Hid (¬zc7 s):=fun h=>q (by rw[h.2.2.1];rfl);have N:(bt s 0 !=47)=true:=by simpa using q
    clear q;go_enter func62,ntmps62;go_wp2;go_ret;exact⟨zi (zdI z.o).symm,rfl⟩
  ·have z:Hid (¬zc7 s):=fun h=>H h.2.1;go_enter func62,ntmps62;go_wp2;go_ret;exact⟨zi (zdI z.o).symm,rfl⟩
 ·have z:Hid (¬zc7 s):=fun h=>K h.1;go_enter func62,ntmps62;go_wp2;go_ret;exact⟨zi (zdI z.o).symm,rfl⟩
end Go.Proofs.YtgcbmogmniahjaaGreat
