/-
 What impl.isPathByte and impl.isPath answer: the walks.
-/
import Derived.Test.YtgcbmogmniahjaaGreatCAsInByteToIn
namespace Go.Proofs.YtgcbmogmniahjaaGreat
set_option maxRecDepth 100000
set_option maxHeartbeats 1600000
open Go.RowKit Go.PlainAid
def okB (c:Int):Bool:=decide (okc c)
theorem zng {c:Int} (h:okc c):okB c=true:=decide_eq_true h
theorem znh {c:Int} (h: ¬okc c):okB c=false:=decide_eq_false h
theorem zni (c:Int) (w:World) (Y:0≤c) (h1:c≤255):
  Calls Tryz.prog 93 #[.int .u8 c] w fun e V=>e= .returned (.bool (okB c))∧V=w:=by
 by_cases z:okc c
 ·have q:Hid (okB c=true):=zng z
  have h:(c=46∨c=95∨c=45∨c=47)∨(97≤c∧c≤122)∨(48≤c∧c≤57):=by unfold okc at z;omega
  clear z
  rcases h with a|a|a
  ·rcases a with rfl|rfl|rfl|rfl
   all_goals
    go_enter Tryz.func93,Tryz.ntmps93
    go_wp2
    go_ret
    exact⟨zi q.out.symm,rfl⟩
  ·have N:(c==46)=false:=beq_eq_false_iff_ne.2 (by omega)
   have M:(c==95)=false:=beq_eq_false_iff_ne.2 (by omega)
   have O:(c==45)=false:=beq_eq_false_iff_ne.2 (by omega)
   have U:(c==47)=false:=beq_eq_false_iff_ne.2 (by omega)
   obtain⟨X,J⟩:=a
   have L:decide (c≤122)=true:=decide_eq_true J
   go_enter Tryz.func93,Tryz.ntmps93
   go_wp2
   go_ret
   exact⟨zi q.out.symm,rfl⟩
  ·have N:(c==46)=false:=beq_eq_false_iff_ne.2 (by omega)
   have M:(c==95)=false:=beq_eq_false_iff_ne.2 (by omega)
   have O:(c==45)=false:=beq_eq_false_iff_ne.2 (by omega)
   have U:(c==47)=false:=beq_eq_false_iff_ne.2 (by omega)
   obtain⟨X,J⟩:=a
   have L:decide (c≤57)=true:=decide_eq_true J
   go_enter Tryz.func93,Tryz.ntmps93
   go_wp2
   go_ret
   exact⟨zi q.out.symm,rfl⟩
 ·have q:Hid (okB c=false):=znh z
  have h:c≠46∧c≠95∧c≠45∧c≠47∧¬(97≤c∧c≤122)∧¬(48≤c∧c≤57):=by unfold okc at z;omega
  clear z
  obtain⟨A,D,E,H,I,K⟩:=h
  have N:(c==46)=false:=beq_eq_false_iff_ne.2 A
  have M:(c==95)=false:=beq_eq_false_iff_ne.2 D
  have O:(c==45)=false:=beq_eq_false_iff_ne.2 E
  have U:(c==47)=false:=beq_eq_false_iff_ne.2 H
  by_cases g1:97≤c
  ·have q1:decide (c≤122)=false:=decide_eq_false (by omega)
   have L:decide (c≤57)=false:=decide_eq_false (by omega)
   have Z:48≤c:=by omega
   clear A D E H I K
   go_enter Tryz.func93,Tryz.ntmps93
   go_wp2
   go_ret
   exact⟨zi q.out.symm,rfl⟩
  ·by_cases g3:48≤c
   ·have L:decide (c≤57)=false:=decide_eq_false (by omega)
    clear A D E H I K
    go_enter Tryz.func93,Tryz.ntmps93
    go_wp2
    go_ret
    exact⟨zi q.out.symm,rfl⟩
   ·clear A D E H I K
    go_enter Tryz.func93,Tryz.ntmps93
    go_wp2
    go_ret
    exact⟨zi q.out.symm,rfl⟩
theorem zje (s:ByteArray) (w:World) (_:s.size≤9223372036854775807):
  Calls Tryz.prog 62 #[.string s] w fun e O=>e= .returned (.bool (zaW s))∧O=w:=by
 have Z:=get_bt s
 by_cases K:1≤s.size
 ·by_cases H:s.size≤40
  ·by_cases q:(bt s 0==47)=true
   ·have A:bt s 0=47:=by simpa using q
    have U:Hid (bt s 0=47):=A
    have N:(bt s 0 !=47)=false:=by simpa using A
    clear A q
    go_enter Tryz.func62,Tryz.ntmps62
    go_wp2
    go_loop [19,3] (fun i _=>∃k:Nat,k≤s.size∧i= .int .i64 k∧∀j,j<k→okc (bt s j)) (fun i _=>(s.size-intOf i).toNat)
    case atStart=>exact⟨0,by omega,rfl,fun j V=>by omega⟩
    case round=>
     obtain⟨k,hk,rfl,J⟩:=hrel
     have E:Hid (∀j,j<k→okc (bt s j)):=J
     clear J
     by_cases M:k<s.size
     ·have I:=bt_nonneg s k
      have L:=bt_le s k
      by_cases D:okc (bt s k)
      ·have z:Hid (∀j,j<k+1→okc (bt s j)):=fun j V=>by
        by_cases e:j=k
        ·rw[e];exact D
        ·exact E.out j (by omega)
       have X:=zng D
       clear D
       go_wp2_with (go_at_call 93;refine (zni _ _ I L).mono ?_;rintro e O ⟨rfl,rfl⟩)
       go_round
       case rel=>exact⟨k+1,by omega,by go_num,z.out⟩
       case measure=>simp[intOf];omega
      ·have z:Hid (¬zc7 s):=fun h=>D (h.2.2.2 k M)
       have X:=znh D
       clear D
       go_wp2_with (go_at_call 93;refine (zni _ _ I L).mono ?_;rintro e O ⟨rfl,rfl⟩)
       go_ret
       exact⟨zi (zdI z.out).symm,rfl⟩
     ·have Y:Hid (zc7 s):=⟨K,H,U.out,fun j V=>E.out j (by omega)⟩
      go_wp2
      go_ret
      exact⟨zi (zk5 Y.out).symm,rfl⟩
   ·have z:Hid (¬zc7 s):=fun h=>q (by rw[h.2.2.1];rfl)
    have N:(bt s 0 !=47)=true:=by simpa using q
    clear q
    go_enter Tryz.func62,Tryz.ntmps62
    go_wp2
    go_ret
    exact⟨zi (zdI z.out).symm,rfl⟩
  ·have z:Hid (¬zc7 s):=fun h=>H h.2.1
   go_enter Tryz.func62,Tryz.ntmps62
   go_wp2
   go_ret
   exact⟨zi (zdI z.out).symm,rfl⟩
 ·have z:Hid (¬zc7 s):=fun h=>K h.1
  go_enter Tryz.func62,Tryz.ntmps62
  go_wp2
  go_ret
  exact⟨zi (zdI z.out).symm,rfl⟩
end Go.Proofs.YtgcbmogmniahjaaGreat