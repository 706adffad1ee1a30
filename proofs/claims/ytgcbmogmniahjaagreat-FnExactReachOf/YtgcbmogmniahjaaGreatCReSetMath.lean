/-
 Texts that rise,each once,told by what is among them. No program is spoken of.
-/
import Derived.Test.YtgcbmogmniahjaaGreatCReRowStrToLessMath
import Derived.Sort.KeysCollected
import Derived.Sort.Walk0
namespace Go.Proofs.YtgcbmogmniahjaaGreat
open Go.RowKit Go.PlainAid
def zyc (l:List ByteArray):Prop:=l.Pairwise fun a b=>zhq a b=true
def zbb (l:List Sm):List ByteArray:=(l.filter fun x=>x.kind==3).map fun x=>x.name
def zaO (l:List Ex):List ByteArray:=(l.filter fun x=>x.kind==2||x.kind==3).map fun x=>x.name
def zyd (l:List Ex):List ByteArray:=(l.filter fun x=>x.kind==4||x.kind==5).map fun x=>x.name
def zye (l:List Ep):List ByteArray:=(l.filter fun x=>x.kind==1).map fun x=>x.loc
end Go.Proofs.YtgcbmogmniahjaaGreat