/-
 Texts that rise,each once,told by what is among them. No program is spoken of.
-/
import Derived.Test.YtgcbmogmniahjaaGreatCGrRowStrToLessMath
import Derived.Sort.KeysCollected
import Derived.Sort.Walk0
namespace Go.Proofs.YtgcbmogmniahjaaGreat
open Go.RowKit Go.PlainAid
def zw2 (l:List ByteArray):Prop:=l.Pairwise fun a b=>zgW a b=true
def zaY (l:List Sm):List ByteArray:=(l.filter fun x=>x.kind==3).map fun x=>x.name
def zaK (l:List Ex):List ByteArray:=(l.filter fun x=>x.kind==2||x.kind==3).map fun x=>x.name
def zw3 (l:List Ex):List ByteArray:=(l.filter fun x=>x.kind==4||x.kind==5).map fun x=>x.name
def zw4 (l:List Ep):List ByteArray:=(l.filter fun x=>x.kind==1).map fun x=>x.loc
end Go.Proofs.YtgcbmogmniahjaaGreat