/-
  ModOk and Early of both sides,as graphs ask them.
-/
import Derived.Test.YtcidlffeeninbaaGreatClLawLinkToSameSpec
import Derived.Test.YtcidlffeeninbaaGreatClModOkSpecToUpMath
import Derived.Test.YtcidlffeeninbaaGreatClModOkImpl
import Derived.Test.YtcidlffeeninbaaGreatClSpecEarlyBToSpecEarlyC
import Derived.Test.YtcidlffeeninbaaGreatClImplEarlyCToImplEarlyF
namespace Go.Proofs.YtcidlffeeninbaaGreat
set_option maxRecDepth 100000
set_option maxHeartbeats 12800000
open Go.RowKit Go.PlainAid Go.Sort
theorem zuR:zf5 15:=fun q S m w h z=>(zrW q S m false w h (zkh z.1 z.2) (fun t=>by have:=(zkg t z.2).1;have:=z.1;omega)).mono fun _ _ k=>⟨zqe k.1,k.2⟩
theorem zuS:zf5 42:=fun q S m w h z=>(zur q S m false w h (zkh z.1 z.2) (fun t=>by have:=(zkg t z.2).2;have:=z.1;omega)).mono fun _ _ k=>⟨zqf k.1,k.2⟩
theorem zuT:zf6 16:=fun _ S m w h _ q=>zuz S m false w (RowAt.of (f:=imL) (m:=3) (fun _=>rfl) h.im) (RowAt.of (f:=epL) (m:=4) (fun _=>rfl) h.ep) (RowAt.of (f:=smL) (m:=3) (fun _=>rfl) h.st) (RowAt.of (f:=exL) (m:=6) (fun _=>rfl) h.ex) q.parts.im q.parts.ep q.parts.st q.parts.ex
theorem zuU {m:Md} (h:zb4 m≤1048576):zgM m:=by
 unfold zb4 at h
 refine⟨fun x q=>?_,fun x q=>?_,fun x q=>?_,fun x q=>?_⟩
 ·have:=zdo (c:=zbV) q
  have e:zbV x=x.spec.size+x.first.size+x.loc.size:=rfl
  unfold maxLen
  omega
 ·have:=zdo (c:=zco) q
  have e:zco x=x.name.size:=rfl
  unfold maxLen
  omega
 ·have:=zdo (c:=zbW) q
  have e:zbW x=x.name.size+x.loc.size+x.spec.size:=rfl
  unfold maxLen
  omega
 ·have:=zdo (c:=zcF) q
  have e:zcF x=x.name.size+x.field.size:=rfl
  unfold maxLen
  omega
theorem zuV:zf6 43:=fun _ S m w h z q=>zuQ S m false w (RowAt.of (f:=imL) (m:=3) (fun _=>rfl) h.im) (RowAt.of (f:=epL) (m:=4) (fun _=>rfl) h.ep) (RowAt.of (f:=smL) (m:=3) (fun _=>rfl) h.st) (RowAt.of (f:=exL) (m:=6) (fun _=>rfl) h.ex) q.parts.im q.parts.ep q.parts.st q.parts.ex (zuU z.1) q.parts.fair
end Go.Proofs.YtcidlffeeninbaaGreat
