/-
 What impl.isPathByte and impl.isPath answer: the walks.
-/
import Derived.Test.YtgcbmogmniahjaaGreatCAcInByteToIn
namespace Go.Proofs.YtgcbmogmniahjaaGreat
set_option maxRecDepth 100000
set_option maxHeartbeats 1600000
open Go.RowKit Go.PlainAid
def okB (c:Int):Bool:=decide (okc c)
theorem zmS {c:Int} (h:okc c):okB c=true:=decide_eq_true h
theorem zmT {c:Int} (h: ¬okc c):okB c=false:=decide_eq_false h
theorem zmU (c:Int) (w:World) (Z:0≤c) (h1:c≤255):
  Calls Tryz.prog 93 #[.int .u8 c] w fun e w'=>e= .returned (.bool (okB c))∧w'=w:=by
 by_cases z:okc c
 ·have q:Hid (okB c=true):=zmS z
  have h:(c=46∨c=95∨c=45∨c=47)∨(97≤c∧c≤122)∨(48≤c∧c≤57):=by unfold okc at z;omega
  clear z
  rcases h with a|a|a
  ·rcases a with rfl|rfl|rfl|rfl
   all_goals
    go_enter Tryz.func93,Tryz.ntmps93
    go_wp2
    go_ret
    exact⟨zi q.out.symm,rfl⟩
  ·have U:(c==46)=false:=beq_eq_false_iff_ne.2 (by omega)
   have O:(c==95)=false:=beq_eq_false_iff_ne.2 (by omega)
   have V:(c==45)=false:=beq_eq_false_iff_ne.2 (by omega)
   have X:(c==47)=false:=beq_eq_false_iff_ne.2 (by omega)
   obtain⟨Y,L⟩:=a
   have N:decide (c≤122)=true:=decide_eq_true L
   go_enter Tryz.func93,Tryz.ntmps93
   go_wp2
   go_ret
   exact⟨zi q.out.symm,rfl⟩
  ·have U:(c==46)=false:=beq_eq_false_iff_ne.2 (by omega)
   have O:(c==95)=false:=beq_eq_false_iff_ne.2 (by omega)
   have V:(c==45)=false:=beq_eq_false_iff_ne.2 (by omega)
   have X:(c==47)=false:=beq_eq_false_iff_ne.2 (by omega)
   obtain⟨Y,L⟩:=a
   have N:decide (c≤57)=true:=decide_eq_true L
   go_enter Tryz.func93,Tryz.ntmps93
   go_wp2
   go_ret
   exact⟨zi q.out.symm,rfl⟩
 ·have q:Hid (okB c=false):=zmT z
  have h:c≠46∧c≠95∧c≠45∧c≠47∧¬(97≤c∧c≤122)∧¬(48≤c∧c≤57):=by unfold okc at z;omega
  clear z
  obtain⟨A,H,I,J,K,M⟩:=h
  have U:(c==46)=false:=beq_eq_false_iff_ne.2 A
  have O:(c==95)=false:=beq_eq_false_iff_ne.2 H
  have V:(c==45)=false:=beq_eq_false_iff_ne.2 I
  have X:(c==47)=false:=beq_eq_false_iff_ne.2 J
  by_cases g1:97≤c
  ·have q1:decide (c≤122)=false:=decide_eq_false (by omega)
   have N:decide (c≤57)=false:=decide_eq_false (by omega)
   have g2:48≤c:=by omega
   clear A H I J K M
   go_enter Tryz.func93,Tryz.ntmps93
   go_wp2
   go_ret
   exact⟨zi q.out.symm,rfl⟩
  ·by_cases g3:48≤c
   ·have N:decide (c≤57)=false:=decide_eq_false (by omega)
    clear A H I J K M
    go_enter Tryz.func93,Tryz.ntmps93
    go_wp2
    go_ret
    exact⟨zi q.out.symm,rfl⟩
   ·clear A H I J K M
    go_enter Tryz.func93,Tryz.ntmps93
    go_wp2
    go_ret
    exact⟨zi q.out.symm,rfl⟩
theorem ziV (s:ByteArray) (w:World) (_:s.size≤9223372036854775807):
  Calls Tryz.prog 62 #[.string s] w fun e w'=>e= .returned (.bool (zaU s))∧w'=w:=by
 have hb:=get_bt s
 by_cases M:1≤s.size
 ·by_cases J:s.size≤40
  ·by_cases q:(bt s 0==47)=true
   ·have A:bt s 0=47:=by simpa using q
    have V:Hid (bt s 0=47):=A
    have U:(bt s 0 !=47)=false:=by simpa using A
    clear A q
    go_enter Tryz.func62,Tryz.ntmps62
    go_wp2
    go_loop [19,3] (fun i _=>∃k:Nat,k≤s.size∧i= .int .i64 k∧∀j,j<k→okc (bt s j)) (fun i _=>(s.size-intOf i).toNat)
    case atStart=>exact⟨0,by omega,rfl,fun j X=>by omega⟩
    case round=>
     obtain⟨k,hk,rfl,L⟩:=hrel
     have I:Hid (∀j,j<k→okc (bt s j)):=L
     clear L
     by_cases O:k<s.size
     ·have K:=bt_nonneg s k
      have N:=bt_le s k
      by_cases H:okc (bt s k)
      ·have z:Hid (∀j,j<k+1→okc (bt s j)):=fun j X=>by
        by_cases e:j=k
        ·rw[e];exact H
        ·exact I.out j (by omega)
       have Y:=zmS H
       clear H
       go_wp2_with (go_at_call 93;refine (zmU _ _ K N).mono ?_;rintro e w' ⟨rfl,rfl⟩)
       go_round
       case rel=>exact⟨k+1,by omega,by go_num,z.out⟩
       case measure=>simp[intOf];omega
      ·have z:Hid (¬zc5 s):=fun h=>H (h.2.2.2 k O)
       have Y:=zmT H
       clear H
       go_wp2_with (go_at_call 93;refine (zmU _ _ K N).mono ?_;rintro e w' ⟨rfl,rfl⟩)
       go_ret
       exact⟨zi (zdB z.out).symm,rfl⟩
     ·have Z:Hid (zc5 s):=⟨M,J,V.out,fun j X=>I.out j (by omega)⟩
      go_wp2
      go_ret
      exact⟨zi (zkq Z.out).symm,rfl⟩
   ·have z:Hid (¬zc5 s):=fun h=>q (by rw[h.2.2.1];rfl)
    have U:(bt s 0 !=47)=true:=by simpa using q
    clear q
    go_enter Tryz.func62,Tryz.ntmps62
    go_wp2
    go_ret
    exact⟨zi (zdB z.out).symm,rfl⟩
  ·have z:Hid (¬zc5 s):=fun h=>J h.2.1
   go_enter Tryz.func62,Tryz.ntmps62
   go_wp2
   go_ret
   exact⟨zi (zdB z.out).symm,rfl⟩
 ·have z:Hid (¬zc5 s):=fun h=>M h.1
  go_enter Tryz.func62,Tryz.ntmps62
  go_wp2
  go_ret
  exact⟨zi (zdB z.out).symm,rfl⟩
end Go.Proofs.YtgcbmogmniahjaaGreat