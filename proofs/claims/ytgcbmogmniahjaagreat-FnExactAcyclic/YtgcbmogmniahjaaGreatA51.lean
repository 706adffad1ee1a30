/- Facts and walks that the theorem stands on. -/
import Derived.Test.YtgcbmogmniahjaaGreatA23
namespace Go.Proofs.YtgcbmogmniahjaaGreat
open Go.Proofs.Tryz
set_option maxRecDepth 100000
set_option maxHeartbeats 3200000
open Go.RowKit Go.PlainAid
theorem zmI (s:BA) (w:World) (_:s.size<=9223372036854775807):
  Calls prog 53 #[.string s] w fun e w'=>e= .returned (.bool (zaU s))/\w'=w:=by
 by_cases Z:1<=s.size/\s.size<=40
 ·obtain⟨Y,N⟩:=Z;have V:=zja (a:=s.size) (b:=1) (c:=40) (by omega) (by omega);have hb:=get_bt s;by_cases A:(bt s 0==47)=true
  ·have H:bt s 0=47:=by simpa using A
   have X:Hid (bt s 0=47):=H;have M:(bt s 0 !=47)=false:=by simpa using H
   clear H;go_enter func53,ntmps53;go_wp2_with (go_at_call 25;refine (zfi _ _ _ _).mono ?_;rintro e w' ⟨rfl,rfl⟩);go_loop [3,4] (fun i _=>∃k:Nat,k<=s.size/\i= .int .i64 k/\∀j,j<k->okc (bt s j)) (fun i _=>(s.size-intOf i).toNat)
   case atStart=>exact⟨0,by omega,rfl,fun j hj=>by omega⟩
   case round=>
    obtain⟨k,hk,rfl,K⟩:=hrel;have J:Hid (∀j,j<k->okc (bt s j)):=K;clear K;by_cases L:k<s.size
    ·have aa:=bt_nonneg s k;have ab:=bt_le s k;by_cases I:okc (bt s k)
     ·have z:Hid (∀j,j<k+1->okc (bt s j)):=fun j hj=>by
       by_cases e:j=k
       ·rw[e];exact I
       ·exact J.o j (by omega)
      have q:(97<=bt s k/\bt s k<=122)∨(48<=bt s k/\bt s k<=57)∨bt s k=46∨bt s k=95∨bt s k=45∨bt s k=47:=I;clear I;rcases q with ⟨a,b⟩|⟨a,b⟩|a|a|a|a
      all_goals
       go_wp2;go_round
       case rel=>exact⟨k+1,by omega,by go_num,z.o⟩
       case measure=>simp[intOf];omega
     ·have z:Hid (¬zc5 s):=fun h=>I (h.2.2.2 k L);have q: ¬(97<=bt s k/\bt s k<=122)/\¬(48<=bt s k/\bt s k<=57)/\bt s k≠46/\bt s k≠95/\bt s k≠45/\bt s k≠47:=by
       unfold okc at I;omega
      obtain⟨O,U,c3,c4,c5,c6⟩:=q;have d3:(bt s k==46)=false:=beq_eq_false_iff_ne.2 c3;have d4:(bt s k==95)=false:=beq_eq_false_iff_ne.2 c4;have d5:(bt s k==45)=false:=beq_eq_false_iff_ne.2 c5;have d6:(bt s k==47)=false:=beq_eq_false_iff_ne.2 c6;clear I c3 c4 c5 c6;by_cases g1:97<=bt s k
      ·have g2:122<bt s k:=by omega
       have q1:decide (bt s k<=122)=false:=decide_eq_false (by omega);have q2:decide (bt s k<=57)=false:=decide_eq_false (by omega);clear O U;go_wp2;go_ret;exact⟨zi (zdB z.o).symm,rfl⟩
      ·by_cases g3:48<=bt s k
       ·have g4:57<bt s k:=by omega
        have q2:decide (bt s k<=57)=false:=decide_eq_false (by omega);clear O U;go_wp2;go_ret;exact⟨zi (zdB z.o).symm,rfl⟩
       ·clear O U;go_wp2;go_ret;exact⟨zi (zdB z.o).symm,rfl⟩
    ·have HY:Hid (zc5 s):=⟨Y,N,X.o,fun j hj=>J.o j (by omega)⟩;go_wp2;go_ret;exact⟨zi (zkq HY.o).symm,rfl⟩
  ·have z:Hid (¬zc5 s):=fun h=>A (by rw[h.2.2.1];rfl);have M:(bt s 0 !=47)=true:=by simpa using A
   clear A;go_enter func53,ntmps53;go_wp2_with (go_at_call 25;refine (zfi _ _ _ _).mono ?_;rintro e w' ⟨rfl,rfl⟩);go_ret;exact⟨zi (zdB z.o).symm,rfl⟩
 ·have z:Hid (¬zc5 s):=fun h=>Z ⟨h.1,h.2.1⟩;have V:=zhn (a:=s.size) (b:=1) (c:=40) (by omega);go_enter func53,ntmps53;go_wp2_with (go_at_call 25;refine (zfi _ _ _ _).mono ?_;rintro e w' ⟨rfl,rfl⟩);go_ret;exact⟨zi (zdB z.o).symm,rfl⟩
theorem Tryz.infoStr:(prog.info? 9).map (fun i=>(i.zero,i.size,i.bytes))=some (some (.string {data:=#[]}),1,16):=by kernel_rfl
theorem zvQ (c:UInt8):({data:=#[c]}:BA).size=1:=rfl
theorem zvR (s:BA) (w:World) (hs:s.size<=9223372036854775807):
  Calls prog 26 #[.string s] w fun e w'=>e= .returned (.string (zaK s))/\Below w.heap.size w w':=by
 obtain⟨i0,hi,ag,ai,ak⟩:=info_parts Tryz.infoStr;by_cases hp:zaU s=true
 ·have az:1<=s.size:=(zdO.1 hp).1;have ax:s.size<=40:=(zdO.1 hp).2.1;have HP:Hid (zaU s=true):=hp;have hb:=get_bt s;go_enter func26,ntmps26;go_wp2_with (go_at_call 53;refine (zmI _ _ hs).mono ?_;rintro e w' ⟨rfl,rfl⟩);go_loopw [3,4,5,6] (fun l f i _ wr=>∃(k n g H:Nat) (q:List BA) (I:Nat),k<=s.size+1/\i= .int .i64 k/\f= .int .i64 I/\l= .slice (some ⟨g,0,none⟩) n H/\zX s k=(I,q)/\zbl wr w'.heap.size 9 g n H q/\Below w'.heap.size w' wr) (fun _ _ i _ _=>(s.size+1-intOf i).toNat)
  case atStart=>exact⟨0,0,w'.heap.size,0,[],0,by omega,rfl,rfl,rfl,rfl,⟨World.ownsRow_lit w' #[] 0 (Nat.le_refl _) (by unfold maxLen;omega) rfl,rfl⟩,(Below.refl _ _).alloc (Nat.le_refl _) _⟩
  case round=>
   obtain⟨k,n,g,H,q,I,hk,rfl,rfl,rfl,aa,h,z⟩:=hrel;have HT:Hid (zX s k=(I,q)):=aa;have Z:=zhP s k;rw[aa] at Z;simp only at Z;have hn:=zg9 h;have M:=zhW h;have J:n<=42:=by omega
   have A:Hid (n=q.length):=hn;clear aa hn;have au:I<=k:=Z.1;clear Z;have aj:=z.size;by_cases aw:k<=s.size
   ·by_cases hc:k<s.size/\bt s k≠47
    ·obtain⟨ac,ad⟩:=hc;have X:Hid (zX s (k+1)=(I,q)):=(zkr ac ad).trans HT.o;have hq:(bt s k !=47)=true:=by simpa using ad
     clear ad;go_wp2;go_roundw
     case rel=>exact⟨k+1,n,g,H,q,I,by omega,by go_num,rfl,rfl,X.o,h,z⟩
     case measure=>simp[intOf];omega
    ·have X:Hid (zX s (k+1)=(k+1,upd (s.extract I k) q)):=by
      have:=zks hc;rw[HT.o] at this;exact this
     by_cases an:k<s.size
     ·have hq:(bt s k !=47)=false:=by
       have:bt s k=47:=by
        rcases Classical.em (bt s k=47) with e|e
        ·exact e
        ·exact absurd ⟨an,e⟩ hc
       simp[this]
      clear hc;by_cases p0:(s.extract I k).toList.isEmpty=true
      ·have K:Hid (zX s (k+1)=(k+1,q)):=by have:=X.o;rw[zg8 p0] at this;exact this
       go_wp2;go_roundw
       case rel=>exact⟨k+1,n,g,H,q,k+1,by omega,by go_num,by go_num,rfl,K.o,h,z⟩
       case measure=>simp[intOf];omega
      ·have O:(s.extract I k).toList.isEmpty=false:=by simpa using p0
       clear p0;by_cases p1:((s.extract I k).toList==[46])=true
       ·have K:Hid (zX s (k+1)=(k+1,q)):=by have:=X.o;rw[zhQ p1] at this;exact this
        go_wp2;go_roundw
        case rel=>exact⟨k+1,n,g,H,q,k+1,by omega,by go_num,by go_num,rfl,K.o,h,z⟩
        case measure=>simp[intOf];omega
       ·have U:((s.extract I k).toList==[46])=false:=by simpa using p1
        clear p1;by_cases p2:((s.extract I k).toList==[46,46])=true
        ·have K:Hid (zX s (k+1)=(k+1,q.dropLast)):=by have:=X.o;rw[zhS O U p2] at this;exact this
         match n,h,A,J,M with
         |0,h,A,J,M=>
          have HD:Hid (q.dropLast=q):=by
           show q.dropLast=q;have:=A.o;have e:q=[]:=List.length_eq_zero_iff.1 this.symm;rw[e];rfl
          go_wp2;go_roundw
          case rel=>exact⟨k+1,0,g,H,q,k+1,by omega,by go_num,by go_num,rfl,by rw[K.o,HD.o],h,z⟩
          case measure=>simp[intOf];omega
         |n+1,h,A,J,M=>
          have V:=zkw h;have ac:n<=H:=by omega
          go_wp2;go_roundw
          case rel=>exact⟨k+1,n,g,H,q.dropLast,k+1,by omega,by go_num,by go_num,rfl,K.o,V,z⟩
          case measure=>simp[intOf];omega
        ·have ab:((s.extract I k).toList==[46,46])=false:=by simpa using p2
         clear p2;have K:Hid (zX s (k+1)=(k+1,q++[s.extract I k])):=by have:=X.o;rw[zhR O U ab] at this;exact this
         go_wp2_with (first|(at_builtin;refine zgA wr rfl _ _ 22 rfl w'.heap.size 9 i0 _ underlying22 hi ag ai ak rfl g n H q (by rfl) h (s.extract I k) (by rfl) (by omega) aj ?_));intro g' N w2 L ae;go_wp2;go_roundw
         case rel=>exact⟨k+1,n+1,g',N,q++[s.extract I k],k+1,by omega,by go_num,by go_num,rfl,K.o,L,z.trans ae⟩
         case measure=>simp[intOf];omega
     ·clear hc;by_cases p0:(s.extract I k).toList.isEmpty=true
      ·have K:Hid (zX s (k+1)=(k+1,q)):=by have:=X.o;rw[zg8 p0] at this;exact this
       go_wp2;go_roundw
       case rel=>exact⟨k+1,n,g,H,q,k+1,by omega,by go_num,by go_num,rfl,K.o,h,z⟩
       case measure=>simp[intOf];omega
      ·have O:(s.extract I k).toList.isEmpty=false:=by simpa using p0
       clear p0;by_cases p1:((s.extract I k).toList==[46])=true
       ·have K:Hid (zX s (k+1)=(k+1,q)):=by have:=X.o;rw[zhQ p1] at this;exact this
        go_wp2;go_roundw
        case rel=>exact⟨k+1,n,g,H,q,k+1,by omega,by go_num,by go_num,rfl,K.o,h,z⟩
        case measure=>simp[intOf];omega
       ·have U:((s.extract I k).toList==[46])=false:=by simpa using p1
        clear p1;by_cases p2:((s.extract I k).toList==[46,46])=true
        ·have K:Hid (zX s (k+1)=(k+1,q.dropLast)):=by have:=X.o;rw[zhS O U p2] at this;exact this
         match n,h,A,J,M with
         |0,h,A,J,M=>
          have HD:Hid (q.dropLast=q):=by
           show q.dropLast=q;have:=A.o;have e:q=[]:=List.length_eq_zero_iff.1 this.symm;rw[e];rfl
          go_wp2;go_roundw
          case rel=>exact⟨k+1,0,g,H,q,k+1,by omega,by go_num,by go_num,rfl,by rw[K.o,HD.o],h,z⟩
          case measure=>simp[intOf];omega
         |n+1,h,A,J,M=>
          have V:=zkw h;have ac:n<=H:=by omega
          go_wp2;go_roundw
          case rel=>exact⟨k+1,n,g,H,q.dropLast,k+1,by omega,by go_num,by go_num,rfl,K.o,V,z⟩
          case measure=>simp[intOf];omega
        ·have ab:((s.extract I k).toList==[46,46])=false:=by simpa using p2
         clear p2;have K:Hid (zX s (k+1)=(k+1,q++[s.extract I k])):=by have:=X.o;rw[zhR O U ab] at this;exact this
         go_wp2_with (first|(at_builtin;refine zgA wr rfl _ _ 22 rfl w'.heap.size 9 i0 _ underlying22 hi ag ai ak rfl g n H q (by rfl) h (s.extract I k) (by rfl) (by omega) aj ?_));intro g' N w2 L ae;go_wp2;go_roundw
         case rel=>exact⟨k+1,n+1,g',N,q++[s.extract I k],k+1,by omega,by go_num,by go_num,rfl,K.o,L,z.trans ae⟩
         case measure=>simp[intOf];omega
   ·obtain rfl:k=s.size+1:=by omega
    have af:Hid (parts s=q):=by show (zX s (s.size+1)).2=q;rw[HT.o]
    have ah: ∀x∈q,x.size<=s.size:=by
     have:=zkt s (s.size+1);rw[HT.o] at this;exact this
    have HX:Hid (∀x∈q,x.size<=s.size):=ah;clear ah;by_cases Y:n=0
    ·have HE:Hid (zaK s={data:=#[47]}):=zhU HP.o (by rw[af.o,<-A.o];exact Y);have hq:((n:Int)==0)=true:=by rw[Y];rfl
     clear Y;go_wp2;go_ret;exact⟨za7 HE.o.symm,z⟩
    ·have HE:Hid (zaK s=zcs q n):=by
      have:=zhV HP.o (by rw[af.o,<-A.o];exact Y);rw[af.o,<-A.o] at this;exact this
     have hq:((n:Int)==0)=false:=beq_eq_false_iff_ne.2 (by omega);go_wp2;go_loop [7,8] (fun o i=>∃j:Nat,j<=n/\i= .int .i64 j/\o= .string (zcs q j)) (fun _ i=>(n-intOf i).toNat)
     case atStart=>exact⟨0,by omega,rfl,rfl⟩
     case round=>
      obtain⟨j,hj,rfl,rfl⟩:=hrel;by_cases am:j<n
      ·have ap:=zhX h j am;have av:(zcs q j).size<=2000:=by
        have h1:=zkv s q HX.o j;have h2:j*(s.size+1)<=42*41:=Nat.mul_le_mul (by omega) (by omega);omega
       have ay:(q[j]?.getD {data:=#[]}).size<=40:=by
        have:=zku s q HX.o j;rw[List.getD_eq_getElem?_getD] at this;omega
       have ar:(zcs q j++{data:=#[47]}).size<=2001:=by rw[ByteArray.size_append,zvQ];omega
       have HJ:Hid (zcs q (j+1)=zcs q j++{data:=#[47]}++q.getD j {data:=#[]}):=rfl;go_wp2;go_round
       case rel=>exact⟨j+1,by omega,by go_num,by rw[HJ.o,List.getD_eq_getElem?_getD]⟩
       case measure=>simp[intOf];omega
      ·have al:j=n:=by omega
       have aq:Hid (zaK s=zcs q j):=by show zaK s=_;rw[HE.o,al]
       clear al;go_wp2;go_ret;exact⟨za7 aq.o.symm,z⟩
 ·have ao:zaU s=false:=by simpa using hp
  have HV:Hid (zaK s={data:=#[]}):=zhT ao;clear hp;go_enter func26,ntmps26;go_wp2_with (go_at_call 53;refine (zmI _ _ hs).mono ?_;rintro e w' ⟨rfl,rfl⟩);go_ret;exact⟨za7 HV.o.symm,Below.refl _ _⟩
end Go.Proofs.YtgcbmogmniahjaaGreat
namespace Go.Proofs.YtgcbmogmniahjaaGreat
open Go.Proofs.Tryz
set_option maxRecDepth 100000
set_option maxHeartbeats 1600000
open Go.RowKit Go.PlainAid
def okB (c:Int):Bool:=decide (okc c)
theorem zmS {c:Int} (h:okc c):okB c=true:=decide_eq_true h
theorem zmT {c:Int} (h: ¬okc c):okB c=false:=decide_eq_false h
theorem zmU (c:Int) (w:World) (Z:0<=c) (h1:c<=255):
  Calls prog 93 #[.int .u8 c] w fun e w'=>e= .returned (.bool (okB c))/\w'=w:=by
 by_cases z:okc c
 ·have q:Hid (okB c=true):=zmS z;have h:(c=46∨c=95∨c=45∨c=47)∨(97<=c/\c<=122)∨(48<=c/\c<=57):=by unfold okc at z;omega
  clear z;rcases h with a|a|a
  ·rcases a with rfl|rfl|rfl|rfl
   all_goals
    go_enter func93,ntmps93;go_wp2;go_ret;exact⟨zi q.o.symm,rfl⟩
  ·have U:(c==46)=false:=beq_eq_false_iff_ne.2 (by omega);have O:(c==95)=false:=beq_eq_false_iff_ne.2 (by omega);have V:(c==45)=false:=beq_eq_false_iff_ne.2 (by omega);have X:(c==47)=false:=beq_eq_false_iff_ne.2 (by omega);obtain⟨Y,L⟩:=a;have N:decide (c<=122)=true:=decide_eq_true L;go_enter func93,ntmps93;go_wp2;go_ret;exact⟨zi q.o.symm,rfl⟩
  ·have U:(c==46)=false:=beq_eq_false_iff_ne.2 (by omega);have O:(c==95)=false:=beq_eq_false_iff_ne.2 (by omega);have V:(c==45)=false:=beq_eq_false_iff_ne.2 (by omega);have X:(c==47)=false:=beq_eq_false_iff_ne.2 (by omega);obtain⟨Y,L⟩:=a;have N:decide (c<=57)=true:=decide_eq_true L;go_enter func93,ntmps93;go_wp2;go_ret;exact⟨zi q.o.symm,rfl⟩
 ·have q:Hid (okB c=false):=zmT z;have h:c≠46/\c≠95/\c≠45/\c≠47/\¬(97<=c/\c<=122)/\¬(48<=c/\c<=57):=by unfold okc at z;omega
  clear z;obtain⟨A,H,I,J,K,M⟩:=h;have U:(c==46)=false:=beq_eq_false_iff_ne.2 A;have O:(c==95)=false:=beq_eq_false_iff_ne.2 H;have V:(c==45)=false:=beq_eq_false_iff_ne.2 I;have X:(c==47)=false:=beq_eq_false_iff_ne.2 J;by_cases g1:97<=c
  ·have q1:decide (c<=122)=false:=decide_eq_false (by omega);have N:decide (c<=57)=false:=decide_eq_false (by omega);have g2:48<=c:=by omega
   clear A H I J K M;go_enter func93,ntmps93;go_wp2;go_ret;exact⟨zi q.o.symm,rfl⟩
  ·by_cases g3:48<=c
   ·have N:decide (c<=57)=false:=decide_eq_false (by omega);clear A H I J K M;go_enter func93,ntmps93;go_wp2;go_ret;exact⟨zi q.o.symm,rfl⟩
   ·clear A H I J K M;go_enter func93,ntmps93;go_wp2;go_ret;exact⟨zi q.o.symm,rfl⟩
theorem ziV (s:BA) (w:World) (_:s.size<=9223372036854775807):
  Calls prog 62 #[.string s] w fun e w'=>e= .returned (.bool (zaU s))/\w'=w:=by
 have hb:=get_bt s;by_cases M:1<=s.size
 ·by_cases J:s.size<=40
  ·by_cases q:(bt s 0==47)=true
   ·have A:bt s 0=47:=by simpa using q
    have V:Hid (bt s 0=47):=A;have U:(bt s 0 !=47)=false:=by simpa using A
    clear A q;go_enter func62,ntmps62;go_wp2;go_loop [19,3] (fun i _=>∃k:Nat,k<=s.size/\i= .int .i64 k/\∀j,j<k->okc (bt s j)) (fun i _=>(s.size-intOf i).toNat)
    case atStart=>exact⟨0,by omega,rfl,fun j X=>by omega⟩
    case round=>
     obtain⟨k,hk,rfl,L⟩:=hrel;have I:Hid (∀j,j<k->okc (bt s j)):=L;clear L;by_cases O:k<s.size
     ·have K:=bt_nonneg s k;have N:=bt_le s k;by_cases H:okc (bt s k)
      ·have z:Hid (∀j,j<k+1->okc (bt s j)):=fun j X=>by
        by_cases e:j=k
        ·rw[e];exact H
        ·exact I.o j (by omega)
       have Y:=zmS H;clear H;go_wp2_with (go_at_call 93;refine (zmU _ _ K N).mono ?_;rintro e w' ⟨rfl,rfl⟩);go_round
       case rel=>exact⟨k+1,by omega,by go_num,z.o⟩
       case measure=>simp[intOf];omega
      ·have z:Hid (¬zc5 s):=fun h=>H (h.2.2.2 k O);have Y:=zmT H;clear H;go_wp2_with (go_at_call 93;refine (zmU _ _ K N).mono ?_;rintro e w' ⟨rfl,rfl⟩);go_ret;exact⟨zi (zdB z.o).symm,rfl⟩
     ·have Z:Hid (zc5 s):=⟨M,J,V.o,fun j X=>I.o j (by omega)⟩;go_wp2;go_ret;exact⟨zi (zkq Z.o).symm,rfl⟩
   ·have z:Hid (¬zc5 s):=fun h=>q (by rw[h.2.2.1];rfl);have U:(bt s 0 !=47)=true:=by simpa using q
    clear q;go_enter func62,ntmps62;go_wp2;go_ret;exact⟨zi (zdB z.o).symm,rfl⟩
  ·have z:Hid (¬zc5 s):=fun h=>J h.2.1;go_enter func62,ntmps62;go_wp2;go_ret;exact⟨zi (zdB z.o).symm,rfl⟩
 ·have z:Hid (¬zc5 s):=fun h=>M h.1;go_enter func62,ntmps62;go_wp2;go_ret;exact⟨zi (zdB z.o).symm,rfl⟩
end Go.Proofs.YtgcbmogmniahjaaGreat
