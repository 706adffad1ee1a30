/-
 Plain facts of numbers and bytes,and small facts on what a call hands back: no program is spoken of.
-/
import Derived.WalkKit
import Derived.PlainAid
namespace Go.Proofs.YticdggnnpjachaaGreat
open Go.RowKit Go.PlainAid
def inB (a b c:Int):Bool:=decide (b≤a)&&decide (a≤c)
theorem zm {a b:Bool} (h:a=b):Ending.returned (.bool a)= .returned (.bool b):=by rw[h]
theorem zdM {k:IntKind} {a b:Int} (h:a=b):Ending.returned (.int k a)= .returned (.int k b):=by rw[h]
theorem za2 {a b:ByteArray} (h:a=b):Ending.returned (.string a)= .returned (.string b):=by rw[h]
theorem zdj {a b:Int} {c d:Bool} (h:a=b) (k:c=d):Ending.returned (.tuple #[.int .i64 a,.bool c])= .returned (.tuple #[.int .i64 b,.bool d]):=by rw[h,k]
def zhv (s:ByteArray):Nat→Int
 |0=>0
 |k+1=>zhv s k*256+bt s k
def zkp (s:ByteArray) (n:Int):Bool:=inB n 1 7&&decide (n≤s.size)
def rfV (s:ByteArray) (n:Int):Int:=if zkp s n then zhv s n.toNat else 0
end Go.Proofs.YticdggnnpjachaaGreat