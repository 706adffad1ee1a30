/-
 What the laws' eqMod answers of a program made twice: the walk.
-/
import Derived.Test.YtgchhhmfloemlaaGreatClLawBaseToLawModEq
import Derived.Test.YtgchhhmfloemlaaGreatClTwoModToSameSpec
namespace Go.Proofs.YtgchhhmfloemlaaGreat
open Go.RowKit Go.PlainAid Go.Sort

set_option maxRecDepth 100000 in
set_option maxHeartbeats 6400000 in
theorem zbin (b1 b2 : Nat) (S1 S2 : Sv) (m : Md) (w : World) (h1 : OwnMd w b1 S1 m) (h2 : OwnMd w b2 S2 m) (hf : zos m) :
  Calls Tryz.prog 10 #[modD S1 m,modD S2 m] w fun e w' => e = .returned (.bool true) ∧ Below w.heap.size w w':=by
 have H1:=hidI h1
 have H2:=hidI h2
 have HF:=hidI hf
 clear h1 h2 hf
 unfold modD
 go_enter Tryz.func10,Tryz.ntmps10
 go_upto_region 1 with fail
 refine zv (R:=TwoM w b1 b2 S1 S2 m m) (znu w b1 b2 S1 S2 m m H1.out H2.out) ?_
 clear H1 H2
 intro w0 h
 have T0:=hidI h
 clear h
 obtain ⟨c0,c1,c2,c3,c4,cf⟩:=zi T0.out.1
 obtain ⟨d0,d1,d2,d3,d4,df⟩:=zi T0.out.2.1
 go_wp2_with fail
 refine (zum b1 b2 S1.rq S2.rq m.rq w0 (by rw [← zjb]; exact T0.out.2.2.1.rq) (by rw [← zjb]; exact T0.out.2.2.2.1.rq) HF.out.1).mono ?_
 rintro e w1 ⟨rfl,hb⟩
 have T1:=hidI (T0.out.later hb)
 clear hb c0 c1 c2 c3 c4 cf d0 d1 d2 d3 d4 df
 obtain ⟨c0,c1,c2,c3,c4,cf⟩:=zi T1.out.1
 obtain ⟨d0,d1,d2,d3,d4,df⟩:=zi T1.out.2.1
 go_wp2_with fail
 refine (zbcl b1 b2 S1.im S2.im m.im w1 T1.out.2.2.1.im T1.out.2.2.2.1.im HF.out.2.1).mono ?_
 rintro e w2 ⟨rfl,hb⟩
 have T2:=hidI (T1.out.later hb)
 clear hb c0 c1 c2 c3 c4 cf d0 d1 d2 d3 d4 df
 obtain ⟨c0,c1,c2,c3,c4,cf⟩:=zi T2.out.1
 obtain ⟨d0,d1,d2,d3,d4,df⟩:=zi T2.out.2.1
 go_wp2_with fail
 refine (zbcn b1 b2 S1.ep S2.ep m.ep w2 T2.out.2.2.1.ep T2.out.2.2.2.1.ep HF.out.2.2.1).mono ?_
 rintro e w3 ⟨rfl,hb⟩
 have T3:=hidI (T2.out.later hb)
 clear hb c0 c1 c2 c3 c4 cf d0 d1 d2 d3 d4 df
 obtain ⟨c0,c1,c2,c3,c4,cf⟩:=zi T3.out.1
 obtain ⟨d0,d1,d2,d3,d4,df⟩:=zi T3.out.2.1
 go_wp2_with fail
 refine (zyx b1 b2 S1.st S2.st m.st w3 T3.out.2.2.1.st T3.out.2.2.2.1.st HF.out.2.2.2.1).mono ?_
 rintro e w4 ⟨rfl,hb⟩
 have T4:=hidI (T3.out.later hb)
 clear hb c0 c1 c2 c3 c4 cf d0 d1 d2 d3 d4 df
 obtain ⟨c0,c1,c2,c3,c4,cf⟩:=zi T4.out.1
 obtain ⟨d0,d1,d2,d3,d4,df⟩:=zi T4.out.2.1
 go_wp2_with fail
 refine (zyz b1 b2 S1.ex S2.ex m.ex w4 T4.out.2.2.1.ex T4.out.2.2.2.1.ex HF.out.2.2.2.2).mono ?_
 rintro e w5 ⟨rfl,hb⟩
 have T5:=hidI (T4.out.later hb)
 clear hb c0 c1 c2 c3 c4 cf d0 d1 d2 d3 d4 df
 obtain ⟨c0,c1,c2,c3,c4,cf⟩:=zi T5.out.1
 obtain ⟨d0,d1,d2,d3,d4,df⟩:=zi T5.out.2.1
 go_wp2
 go_ret
 exact ⟨rfl,T5.out.2.2.2.2⟩
end Go.Proofs.YtgchhhmfloemlaaGreat
