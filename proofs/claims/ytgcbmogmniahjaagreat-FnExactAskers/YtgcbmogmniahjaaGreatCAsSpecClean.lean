/-
 What spec.l2Path and spec.Clean answer,at every text: the walks.
-/
import Derived.Test.YtgcbmogmniahjaaGreatCAsInByteToIn
namespace Go.Proofs.YtgcbmogmniahjaaGreat
set_option maxRecDepth 100000
set_option maxHeartbeats 3200000
open Go.RowKit Go.PlainAid
theorem zmX (s:ByteArray) (w:World) (_:s.size≤9223372036854775807):
  Calls Tryz.prog 53 #[.string s] w fun e J=>e= .returned (.bool (zaW s))∧J=w:=by
 by_cases Y:1≤s.size∧s.size≤40
 ·obtain⟨X,M⟩:=Y
  have U:=zjq (a:=s.size) (b:=1) (c:=40) (by omega) (by omega)
  have hb:=get_bt s
  by_cases A:(bt s 0==47)=true
  ·have D:bt s 0=47:=by simpa using A
   have V:Hid (bt s 0=47):=D
   have L:(bt s 0 !=47)=false:=by simpa using D
   clear D
   go_enter Tryz.func53,Tryz.ntmps53
   go_wp2_with (go_at_call 25;refine (zfs _ _ _ _).mono ?_;rintro e J ⟨rfl,rfl⟩)
   go_loop [3,4] (fun i _=>∃k:Nat,k≤s.size∧i= .int .i64 k∧∀j,j<k→okc (bt s j)) (fun i _=>(s.size-intOf i).toNat)
   case atStart=>exact⟨0,by omega,rfl,fun j hj=>by omega⟩
   case round=>
    obtain⟨k,hk,rfl,I⟩:=hrel
    have H:Hid (∀j,j<k→okc (bt s j)):=I
    clear I
    by_cases K:k<s.size
    ·have aa:=bt_nonneg s k
     have ab:=bt_le s k
     by_cases E:okc (bt s k)
     ·have z:Hid (∀j,j<k+1→okc (bt s j)):=fun j hj=>by
       by_cases e:j=k
       ·rw[e];exact E
       ·exact H.out j (by omega)
      have q:(97≤bt s k∧bt s k≤122)∨(48≤bt s k∧bt s k≤57)∨bt s k=46∨bt s k=95∨bt s k=45∨bt s k=47:=E
      clear E
      rcases q with ⟨a,b⟩|⟨a,b⟩|a|a|a|a
      all_goals
       go_wp2
       go_round
       case rel=>exact⟨k+1,by omega,by go_num,z.out⟩
       case measure=>simp[intOf];omega
     ·have z:Hid (¬zc7 s):=fun h=>E (h.2.2.2 k K)
      have q: ¬(97≤bt s k∧bt s k≤122)∧¬(48≤bt s k∧bt s k≤57)∧bt s k≠46∧bt s k≠95∧bt s k≠45∧bt s k≠47:=by
       unfold okc at E;omega
      obtain⟨N,O,Z,c4,c5,c6⟩:=q
      have d3:(bt s k==46)=false:=beq_eq_false_iff_ne.2 Z
      have d4:(bt s k==95)=false:=beq_eq_false_iff_ne.2 c4
      have d5:(bt s k==45)=false:=beq_eq_false_iff_ne.2 c5
      have d6:(bt s k==47)=false:=beq_eq_false_iff_ne.2 c6
      clear E Z c4 c5 c6
      by_cases g1:97≤bt s k
      ·have g2:122<bt s k:=by omega
       have q1:decide (bt s k≤122)=false:=decide_eq_false (by omega)
       have q2:decide (bt s k≤57)=false:=decide_eq_false (by omega)
       clear N O
       go_wp2
       go_ret
       exact⟨zi (zdI z.out).symm,rfl⟩
      ·by_cases g3:48≤bt s k
       ·have g4:57<bt s k:=by omega
        have q2:decide (bt s k≤57)=false:=decide_eq_false (by omega)
        clear N O
        go_wp2
        go_ret
        exact⟨zi (zdI z.out).symm,rfl⟩
       ·clear N O
        go_wp2
        go_ret
        exact⟨zi (zdI z.out).symm,rfl⟩
    ·have HY:Hid (zc7 s):=⟨X,M,V.out,fun j hj=>H.out j (by omega)⟩
     go_wp2
     go_ret
     exact⟨zi (zk5 HY.out).symm,rfl⟩
  ·have z:Hid (¬zc7 s):=fun h=>A (by rw[h.2.2.1];rfl)
   have L:(bt s 0 !=47)=true:=by simpa using A
   clear A
   go_enter Tryz.func53,Tryz.ntmps53
   go_wp2_with (go_at_call 25;refine (zfs _ _ _ _).mono ?_;rintro e J ⟨rfl,rfl⟩)
   go_ret
   exact⟨zi (zdI z.out).symm,rfl⟩
 ·have z:Hid (¬zc7 s):=fun h=>Y ⟨h.1,h.2.1⟩
  have U:=zhw (a:=s.size) (b:=1) (c:=40) (by omega)
  go_enter Tryz.func53,Tryz.ntmps53
  go_wp2_with (go_at_call 25;refine (zfs _ _ _ _).mono ?_;rintro e J ⟨rfl,rfl⟩)
  go_ret
  exact⟨zi (zdI z.out).symm,rfl⟩
theorem Tryz.infoStr:(Tryz.prog.info? 9).map (fun i=>(i.zero,i.size,i.bytes))=some (some (.string {data:=#[]}),1,16):=by kernel_rfl
theorem zwm (c:UInt8):({data:=#[c]}:ByteArray).size=1:=rfl
theorem zwn (s:ByteArray) (w:World) (hs:s.size≤9223372036854775807):
  Calls Tryz.prog 26 #[.string s] w fun e U=>e= .returned (.string (zaL s))∧Below w.heap.size w U:=by
 obtain⟨i0,hi,ag,ai,ak⟩:=info_parts Tryz.infoStr
 by_cases hp:zaW s=true
 ·have az:1≤s.size:=(zdX.1 hp).1
  have ax:s.size≤40:=(zdX.1 hp).2.1
  have HP:Hid (zaW s=true):=hp
  have hb:=get_bt s
  go_enter Tryz.func26,Tryz.ntmps26
  go_wp2_with (go_at_call 53;refine (zmX _ _ hs).mono ?_;rintro e U ⟨rfl,rfl⟩)
  go_loopw [3,4,5,6] (fun l f i _ wr=>∃(k n g D:Nat) (q:List ByteArray) (E:Nat),k≤s.size+1∧i= .int .i64 k∧f= .int .i64 E∧l= .slice (some ⟨g,0,none⟩) n D∧zY s k=(E,q)∧zbo wr U.heap.size 9 g n D q∧Below U.heap.size U wr) (fun _ _ i _ _=>(s.size+1-intOf i).toNat)
  case atStart=>exact⟨0,0,U.heap.size,0,[],0,by omega,rfl,rfl,rfl,rfl,⟨World.ownsRow_lit U #[] 0 (Nat.le_refl _) (by unfold maxLen;omega) rfl,rfl⟩,(Below.refl _ _).alloc (Nat.le_refl _) _⟩
  case round=>
   obtain⟨k,n,g,D,q,E,hk,rfl,rfl,rfl,aa,h,z⟩:=hrel
   have HT:Hid (zY s k=(E,q)):=aa
   have Y:=zhZ s k
   rw[aa] at Y
   simp only at Y
   have hn:=zgI h
   have K:=zig h
   have H:n≤42:=by omega
   have A:Hid (n=q.length):=hn
   clear aa hn
   have au:E≤k:=Y.1
   clear Y
   have aj:=z.size
   by_cases aw:k≤s.size
   ·by_cases hc:k<s.size∧bt s k≠47
    ·obtain⟨ac,ad⟩:=hc
     have V:Hid (zY s (k+1)=(E,q)):=(zk6 ac ad).trans HT.out
     have hq:(bt s k !=47)=true:=by simpa using ad
     clear ad
     go_wp2
     go_roundw
     case rel=>exact⟨k+1,n,g,D,q,E,by omega,by go_num,rfl,rfl,V.out,h,z⟩
     case measure=>simp[intOf];omega
    ·have V:Hid (zY s (k+1)=(k+1,upd (s.extract E k) q)):=by
      have:=zk7 hc
      rw[HT.out] at this
      exact this
     by_cases an:k<s.size
     ·have hq:(bt s k !=47)=false:=by
       have:bt s k=47:=by
        rcases Classical.em (bt s k=47) with e|e
        ·exact e
        ·exact absurd ⟨an,e⟩ hc
       simp[this]
      clear hc
      by_cases p0:(s.extract E k).toList.isEmpty=true
      ·have I:Hid (zY s (k+1)=(k+1,q)):=by have:=V.out;rw[zgH p0] at this;exact this
       go_wp2
       go_roundw
       case rel=>exact⟨k+1,n,g,D,q,k+1,by omega,by go_num,by go_num,rfl,I.out,h,z⟩
       case measure=>simp[intOf];omega
      ·have M:(s.extract E k).toList.isEmpty=false:=by simpa using p0
       clear p0
       by_cases p1:((s.extract E k).toList==[46])=true
       ·have I:Hid (zY s (k+1)=(k+1,q)):=by have:=V.out;rw[zia p1] at this;exact this
        go_wp2
        go_roundw
        case rel=>exact⟨k+1,n,g,D,q,k+1,by omega,by go_num,by go_num,rfl,I.out,h,z⟩
        case measure=>simp[intOf];omega
       ·have N:((s.extract E k).toList==[46])=false:=by simpa using p1
        clear p1
        by_cases Z:((s.extract E k).toList==[46,46])=true
        ·have I:Hid (zY s (k+1)=(k+1,q.dropLast)):=by have:=V.out;rw[zic M N Z] at this;exact this
         match n,h,A,H,K with
         |0,h,A,H,K=>
          have HD:Hid (q.dropLast=q):=by
           show q.dropLast=q
           have:=A.out
           have e:q=[]:=List.length_eq_zero_iff.1 this.symm
           rw[e];rfl
          go_wp2
          go_roundw
          case rel=>exact⟨k+1,0,g,D,q,k+1,by omega,by go_num,by go_num,rfl,by rw[I.out,HD.out],h,z⟩
          case measure=>simp[intOf];omega
         |n+1,h,A,H,K=>
          have O:=zkB h
          have ac:n≤D:=by omega
          go_wp2
          go_roundw
          case rel=>exact⟨k+1,n,g,D,q.dropLast,k+1,by omega,by go_num,by go_num,rfl,I.out,O,z⟩
          case measure=>simp[intOf];omega
        ·have ab:((s.extract E k).toList==[46,46])=false:=by simpa using Z
         clear Z
         have I:Hid (zY s (k+1)=(k+1,q++[s.extract E k])):=by have:=V.out;rw[zib M N ab] at this;exact this
         go_wp2_with (first|(at_builtin;refine zgJ wr rfl _ _ 22 rfl U.heap.size 9 i0 _ Tryz.underlying22 hi ag ai ak rfl g n D q (by rfl) h (s.extract E k) (by rfl) (by omega) aj ?_))
         intro g' L w2 J ae
         go_wp2
         go_roundw
         case rel=>exact⟨k+1,n+1,g',L,q++[s.extract E k],k+1,by omega,by go_num,by go_num,rfl,I.out,J,z.trans ae⟩
         case measure=>simp[intOf];omega
     ·clear hc
      by_cases p0:(s.extract E k).toList.isEmpty=true
      ·have I:Hid (zY s (k+1)=(k+1,q)):=by have:=V.out;rw[zgH p0] at this;exact this
       go_wp2
       go_roundw
       case rel=>exact⟨k+1,n,g,D,q,k+1,by omega,by go_num,by go_num,rfl,I.out,h,z⟩
       case measure=>simp[intOf];omega
      ·have M:(s.extract E k).toList.isEmpty=false:=by simpa using p0
       clear p0
       by_cases p1:((s.extract E k).toList==[46])=true
       ·have I:Hid (zY s (k+1)=(k+1,q)):=by have:=V.out;rw[zia p1] at this;exact this
        go_wp2
        go_roundw
        case rel=>exact⟨k+1,n,g,D,q,k+1,by omega,by go_num,by go_num,rfl,I.out,h,z⟩
        case measure=>simp[intOf];omega
       ·have N:((s.extract E k).toList==[46])=false:=by simpa using p1
        clear p1
        by_cases Z:((s.extract E k).toList==[46,46])=true
        ·have I:Hid (zY s (k+1)=(k+1,q.dropLast)):=by have:=V.out;rw[zic M N Z] at this;exact this
         match n,h,A,H,K with
         |0,h,A,H,K=>
          have HD:Hid (q.dropLast=q):=by
           show q.dropLast=q
           have:=A.out
           have e:q=[]:=List.length_eq_zero_iff.1 this.symm
           rw[e];rfl
          go_wp2
          go_roundw
          case rel=>exact⟨k+1,0,g,D,q,k+1,by omega,by go_num,by go_num,rfl,by rw[I.out,HD.out],h,z⟩
          case measure=>simp[intOf];omega
         |n+1,h,A,H,K=>
          have O:=zkB h
          have ac:n≤D:=by omega
          go_wp2
          go_roundw
          case rel=>exact⟨k+1,n,g,D,q.dropLast,k+1,by omega,by go_num,by go_num,rfl,I.out,O,z⟩
          case measure=>simp[intOf];omega
        ·have ab:((s.extract E k).toList==[46,46])=false:=by simpa using Z
         clear Z
         have I:Hid (zY s (k+1)=(k+1,q++[s.extract E k])):=by have:=V.out;rw[zib M N ab] at this;exact this
         go_wp2_with (first|(at_builtin;refine zgJ wr rfl _ _ 22 rfl U.heap.size 9 i0 _ Tryz.underlying22 hi ag ai ak rfl g n D q (by rfl) h (s.extract E k) (by rfl) (by omega) aj ?_))
         intro g' L w2 J ae
         go_wp2
         go_roundw
         case rel=>exact⟨k+1,n+1,g',L,q++[s.extract E k],k+1,by omega,by go_num,by go_num,rfl,I.out,J,z.trans ae⟩
         case measure=>simp[intOf];omega
   ·obtain rfl:k=s.size+1:=by omega
    have af:Hid (parts s=q):=by show (zY s (s.size+1)).2=q;rw[HT.out]
    have ah: ∀x∈q,x.size≤s.size:=by
     have:=zk8 s (s.size+1)
     rw[HT.out] at this
     exact this
    have HX:Hid (∀x∈q,x.size≤s.size):=ah
    clear ah
    by_cases X:n=0
    ·have HE:Hid (zaL s={data:=#[47]}):=zie HP.out (by rw[af.out,←A.out];exact X)
     have hq:((n:Int)==0)=true:=by rw[X];rfl
     clear X
     go_wp2
     go_ret
     exact⟨za4 HE.out.symm,z⟩
    ·have HE:Hid (zaL s=zcv q n):=by
      have:=zif HP.out (by rw[af.out,←A.out];exact X)
      rw[af.out,←A.out] at this
      exact this
     have hq:((n:Int)==0)=false:=beq_eq_false_iff_ne.2 (by omega)
     go_wp2
     go_loop [7,8] (fun o i=>∃j:Nat,j≤n∧i= .int .i64 j∧o= .string (zcv q j)) (fun _ i=>(n-intOf i).toNat)
     case atStart=>exact⟨0,by omega,rfl,rfl⟩
     case round=>
      obtain⟨j,hj,rfl,rfl⟩:=hrel
      by_cases am:j<n
      ·have ap:=zih h j am
       have av:(zcv q j).size≤2000:=by
        have h1:=zkA s q HX.out j
        have h2:j*(s.size+1)≤42*41:=Nat.mul_le_mul (by omega) (by omega)
        omega
       have ay:(q[j]?.getD {data:=#[]}).size≤40:=by
        have:=zk9 s q HX.out j
        rw[List.getD_eq_getElem?_getD] at this
        omega
       have ar:(zcv q j++{data:=#[47]}).size≤2001:=by rw[ByteArray.size_append,zwm];omega
       have HJ:Hid (zcv q (j+1)=zcv q j++{data:=#[47]}++q.getD j {data:=#[]}):=rfl
       go_wp2
       go_round
       case rel=>exact⟨j+1,by omega,by go_num,by rw[HJ.out,List.getD_eq_getElem?_getD]⟩
       case measure=>simp[intOf];omega
      ·have al:j=n:=by omega
       have aq:Hid (zaL s=zcv q j):=by show zaL s=_;rw[HE.out,al]
       clear al
       go_wp2
       go_ret
       exact⟨za4 aq.out.symm,z⟩
 ·have ao:zaW s=false:=by simpa using hp
  have HV:Hid (zaL s={data:=#[]}):=zid ao
  clear hp
  go_enter Tryz.func26,Tryz.ntmps26
  go_wp2_with (go_at_call 53;refine (zmX _ _ hs).mono ?_;rintro e U ⟨rfl,rfl⟩)
  go_ret
  exact⟨za4 HV.out.symm,Below.refl _ _⟩
end Go.Proofs.YtgcbmogmniahjaaGreat