/-
 Plain facts of numbers and bytes,and small facts on what a call hands back: no program is spoken of.
-/
import Derived.WalkKit
import Derived.PlainAid
namespace Go.Proofs.YthfeoomfiafldaaGreat
open Go.RowKit Go.PlainAid
def inB (a b c:Int):Bool:=decide (b≤a)&&decide (a≤c)
theorem zq {a b:Bool} (h:a=b):Ending.returned (.bool a)= .returned (.bool b):=by rw[h]
theorem zeE {k:IntKind} {a b:Int} (h:a=b):Ending.returned (.int k a)= .returned (.int k b):=by rw[h]
theorem zdF {a b:ByteArray} (h:a=b):Ending.returned (.string a)= .returned (.string b):=by rw[h]
theorem zdG {a b:Int} {c d:Bool} (h:a=b) (k:c=d):Ending.returned (.tuple #[.int .i64 a,.bool c])= .returned (.tuple #[.int .i64 b,.bool d]):=by rw[h,k]
def zjn (s:ByteArray):Nat→Int
 |0=>0
 |k+1=>zjn s k*256+bt s k
def zmO (s:ByteArray) (n:Int):Bool:=inB n 1 7&&decide (n≤s.size)
def rfV (s:ByteArray) (n:Int):Int:=if zmO s n then zjn s n.toNat else 0
end Go.Proofs.YthfeoomfiafldaaGreat