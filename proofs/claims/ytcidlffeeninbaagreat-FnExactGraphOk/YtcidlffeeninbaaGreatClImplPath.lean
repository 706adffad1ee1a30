/-
 What impl.isPathByte and impl.isPath answer: the walks.
-/
import Derived.Test.YtcidlffeeninbaaGreatClSpecReachToSpecGraph
namespace Go.Proofs.YtcidlffeeninbaaGreat
set_option maxRecDepth 100000
set_option maxHeartbeats 1600000
open Go.RowKit Go.PlainAid
def okB (c:Int):Bool:=decide (okc c)
theorem zmn {c:Int} (h:okc c):okB c=true:=decide_eq_true h
theorem zmo {c:Int} (h: ¬okc c):okB c=false:=decide_eq_false h
theorem zmp (c:Int) (w:World) (Z:0≤c) (h1:c≤255):
  Calls Tryz.prog 64 #[.int .u8 c] w fun e V=>e= .returned (.bool (okB c))∧V=w:=by
 by_cases z:okc c
 ·have q:Hid (okB c=true):=zmn z
  have h:(c=46∨c=95∨c=45∨c=47)∨(97≤c∧c≤122)∨(48≤c∧c≤57):=by unfold okc at z;omega
  clear z
  rcases h with a|a|a
  ·rcases a with rfl|rfl|rfl|rfl
   all_goals
    go_enter Tryz.func64,Tryz.ntmps64
    go_wp2
    go_ret
    exact⟨zh q.out.symm,rfl⟩
  ·have U:(c==46)=false:=beq_eq_false_iff_ne.2 (by omega)
   have N:(c==95)=false:=beq_eq_false_iff_ne.2 (by omega)
   have O:(c==45)=false:=beq_eq_false_iff_ne.2 (by omega)
   have M:(c==47)=false:=beq_eq_false_iff_ne.2 (by omega)
   obtain⟨X,L⟩:=a
   have K:decide (c≤122)=true:=decide_eq_true L
   go_enter Tryz.func64,Tryz.ntmps64
   go_wp2
   go_ret
   exact⟨zh q.out.symm,rfl⟩
  ·have U:(c==46)=false:=beq_eq_false_iff_ne.2 (by omega)
   have N:(c==95)=false:=beq_eq_false_iff_ne.2 (by omega)
   have O:(c==45)=false:=beq_eq_false_iff_ne.2 (by omega)
   have M:(c==47)=false:=beq_eq_false_iff_ne.2 (by omega)
   obtain⟨X,L⟩:=a
   have K:decide (c≤57)=true:=decide_eq_true L
   go_enter Tryz.func64,Tryz.ntmps64
   go_wp2
   go_ret
   exact⟨zh q.out.symm,rfl⟩
 ·have q:Hid (okB c=false):=zmo z
  have h:c≠46∧c≠95∧c≠45∧c≠47∧¬(97≤c∧c≤122)∧¬(48≤c∧c≤57):=by unfold okc at z;omega
  clear z
  obtain⟨H,A,E,D,I,J⟩:=h
  have U:(c==46)=false:=beq_eq_false_iff_ne.2 H
  have N:(c==95)=false:=beq_eq_false_iff_ne.2 A
  have O:(c==45)=false:=beq_eq_false_iff_ne.2 E
  have M:(c==47)=false:=beq_eq_false_iff_ne.2 D
  by_cases g1:97≤c
  ·have q1:decide (c≤122)=false:=decide_eq_false (by omega)
   have K:decide (c≤57)=false:=decide_eq_false (by omega)
   have Y:48≤c:=by omega
   clear H A E D I J
   go_enter Tryz.func64,Tryz.ntmps64
   go_wp2
   go_ret
   exact⟨zh q.out.symm,rfl⟩
  ·by_cases g3:48≤c
   ·have K:decide (c≤57)=false:=decide_eq_false (by omega)
    clear H A E D I J
    go_enter Tryz.func64,Tryz.ntmps64
    go_wp2
    go_ret
    exact⟨zh q.out.symm,rfl⟩
   ·clear H A E D I J
    go_enter Tryz.func64,Tryz.ntmps64
    go_wp2
    go_ret
    exact⟨zh q.out.symm,rfl⟩
theorem ziz (s:ByteArray) (w:World) (_:s.size≤9223372036854775807):
  Calls Tryz.prog 39 #[.string s] w fun e M=>e= .returned (.bool (zaS s))∧M=w:=by
 have Z:=get_bt s
 by_cases E:1≤s.size
 ·by_cases I:s.size≤40
  ·by_cases q:(bt s 0==47)=true
   ·have A:bt s 0=47:=by simpa using q
    have U:Hid (bt s 0=47):=A
    have O:(bt s 0 !=47)=false:=by simpa using A
    clear A q
    go_enter Tryz.func39,Tryz.ntmps39
    go_wp2
    go_loop [19,3] (fun i _=>∃k:Nat,k≤s.size∧i= .int .i64 k∧∀j,j<k→okc (bt s j)) (fun i _=>(s.size-intOf i).toNat)
    case atStart=>exact⟨0,by omega,rfl,fun j V=>by omega⟩
    case round=>
     obtain⟨k,hk,rfl,K⟩:=hrel
     have H:Hid (∀j,j<k→okc (bt s j)):=K
     clear K
     by_cases N:k<s.size
     ·have J:=bt_nonneg s k
      have L:=bt_le s k
      by_cases D:okc (bt s k)
      ·have z:Hid (∀j,j<k+1→okc (bt s j)):=fun j V=>by
        by_cases e:j=k
        ·rw[e];exact D
        ·exact H.out j (by omega)
       have X:=zmn D
       clear D
       go_wp2_with (go_at_call 64;refine (zmp _ _ J L).mono ?_;rintro e M ⟨rfl,rfl⟩)
       go_round
       case rel=>exact⟨k+1,by omega,by go_num,z.out⟩
       case measure=>simp[intOf];omega
      ·have z:Hid (¬zc1 s):=fun h=>D (h.2.2.2 k N)
       have X:=zmo D
       clear D
       go_wp2_with (go_at_call 64;refine (zmp _ _ J L).mono ?_;rintro e M ⟨rfl,rfl⟩)
       go_ret
       exact⟨zh (zd3 z.out).symm,rfl⟩
     ·have Y:Hid (zc1 s):=⟨E,I,U.out,fun j V=>H.out j (by omega)⟩
      go_wp2
      go_ret
      exact⟨zh (zjL Y.out).symm,rfl⟩
   ·have z:Hid (¬zc1 s):=fun h=>q (by rw[h.2.2.1];rfl)
    have O:(bt s 0 !=47)=true:=by simpa using q
    clear q
    go_enter Tryz.func39,Tryz.ntmps39
    go_wp2
    go_ret
    exact⟨zh (zd3 z.out).symm,rfl⟩
  ·have z:Hid (¬zc1 s):=fun h=>I h.2.1
   go_enter Tryz.func39,Tryz.ntmps39
   go_wp2
   go_ret
   exact⟨zh (zd3 z.out).symm,rfl⟩
 ·have z:Hid (¬zc1 s):=fun h=>E h.1
  go_enter Tryz.func39,Tryz.ntmps39
  go_wp2
  go_ret
  exact⟨zh (zd3 z.out).symm,rfl⟩
end Go.Proofs.YtcidlffeeninbaaGreat