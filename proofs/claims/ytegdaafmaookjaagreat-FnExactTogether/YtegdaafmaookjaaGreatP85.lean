/- Facts. -/
import Derived.Test.YtegdaafmaookjaaGreatP29
import Derived.Test.YtegdaafmaookjaaGreatP84
namespace Go.Proofs.YtegdaafmaookjaaGreat
open Go.RowKit Go.PlainAid Go.Sort Go.Proofs.Tryz
def GrC (f:FuncId):Prop:=∀(base:Nat) (G:GS) (g:Gr) (w:World),GrOwn w base G g->GdG g->Calls prog f #[grD G g] w fun e w'=>SameOut (GrS g) e/\Bw w w'
def zx (g:Gr) (a b:Nat):Bool:=(zai g.ls g.ms.length (zas g.ms.length a)).getD b false
variable {w:Gr}
theorem GrS.links (h:GrS w): ∀l∈w.ls,0<=l.frm/\l.frm<(w.ms.length:Int)/\0<=l.to/\l.to<(w.ms.length:Int):=by
 intro l A;obtain⟨i,J⟩:=List.mem_iff_getElem?.1 A;obtain⟨H,q,I,W,_⟩:=h.2.2.2.2.1.2 i l J;rw[zcf] at q W;exact⟨H,q,I,W⟩
theorem GrS.inn (h:GrS w):zdu w.ls w.ms.length:=fun l q=>by
 have:=h.links l q;exact⟨by omega,by omega⟩
theorem zdO {g:Gr} {a b:Nat} (q:b<g.ms.length):(zai g.ls g.ms.length (zas g.ms.length a))[b]? =some (zx g a b):=by
 have h:b<(zai g.ls g.ms.length (zas g.ms.length a)).length:=by rw[zgs,zib];exact q
 rw[zx,List.getD,gE h];rfl
def zie (g:Gr):Prop:=GrS g/\∀l∈g.ls,zx g l.to.toNat l.frm.toNat=false