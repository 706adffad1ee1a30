/- Facts. -/
import Derived.Test.YtegdaafmaookjaaGreatP27
import Derived.Test.YtegdaafmaookjaaGreatP19
namespace Go.Proofs.YtegdaafmaookjaaGreat
open Go.Proofs.Tryz
set_option maxRecDepth 100000
set_option maxHeartbeats 6400000
open Go.RowKit Go.PlainAid Go.Sort
theorem zy1 (b1 b2:Nat) (Z Y:Sv) (m:Md) (w:World) (h1:OwnMd w b1 Z m) (h2:OwnMd w b2 Y m) (hf:zeq m):
  Calls prog 82 #[zo Z m,zo Y m] w fun e w'=>e= .returned (.bool true)/\Bw w w':=by
 have H1:=zc h1;have H2:=zc h2;have HF:=zc hf;clear h1 h2 hf;unfold zo;go_enter func82,ntmps82;go_upto_region 1 with fail;refine zp (R:=TwoM w b1 b2 Z Y m m) (ziH w b1 b2 Z Y m m H1.o H2.o) ?_;clear H1 H2;intro w0 h;have T0:=zc h;clear h;obtain⟨X,K,M,U,L,O⟩:=zl T0.o.1;obtain⟨N,J,A,I,V,H⟩:=zl T0.o.2.1;go_wp2_with fail;refine (zlC b1 b2 Z.rq Y.rq m.rq w0 (by rw[<-zfy];exact T0.o.2.2.1.rq) (by rw[<-zfy];exact T0.o.2.2.2.1.rq) HF.o.1).mono ?_;rintro e w1 ⟨rfl,q⟩;have T1:=zc (T0.o.later q);clear q X K M U L O N J A I V H;obtain⟨X,K,M,U,L,O⟩:=zl T1.o.1;obtain⟨N,J,A,I,V,H⟩:=zl T1.o.2.1;go_wp2_with fail;refine (zsn b1 b2 Z.im Y.im m.im w1 T1.o.2.2.1.im T1.o.2.2.2.1.im HF.o.2.1).mono ?_;rintro e w2 ⟨rfl,q⟩;have T2:=zc (T1.o.later q);clear q X K M U L O N J A I V H;obtain⟨X,K,M,U,L,O⟩:=zl T2.o.1;obtain⟨N,J,A,I,V,H⟩:=zl T2.o.2.1;go_wp2_with fail;refine (zsr b1 b2 Z.ep Y.ep m.ep w2 T2.o.2.2.1.ep T2.o.2.2.2.1.ep HF.o.2.2.1).mono ?_;rintro e w3 ⟨rfl,q⟩;have T3:=zc (T2.o.later q);clear q X K M U L O N J A I V H;obtain⟨X,K,M,U,L,O⟩:=zl T3.o.1;obtain⟨N,J,A,I,V,H⟩:=zl T3.o.2.1;go_wp2_with fail;refine (zsv b1 b2 Z.st Y.st m.st w3 T3.o.2.2.1.st T3.o.2.2.2.1.st HF.o.2.2.2.1).mono ?_;rintro e w4 ⟨rfl,q⟩;have T4:=zc (T3.o.later q);clear q X K M U L O N J A I V H;obtain⟨X,K,M,U,L,O⟩:=zl T4.o.1;obtain⟨N,J,A,I,V,H⟩:=zl T4.o.2.1;go_wp2_with fail;refine (zsz b1 b2 Z.ex Y.ex m.ex w4 T4.o.2.2.1.ex T4.o.2.2.2.1.ex HF.o.2.2.2.2).mono ?_;rintro e w5 ⟨rfl,q⟩;have T5:=zc (T4.o.later q);clear q X K M U L O N J A I V H;obtain⟨X,K,M,U,L,O⟩:=zl T5.o.1;obtain⟨N,J,A,I,V,H⟩:=zl T5.o.2.1;go_wp2;go_ret;exact⟨rfl,T5.o.2.2.2.2⟩
