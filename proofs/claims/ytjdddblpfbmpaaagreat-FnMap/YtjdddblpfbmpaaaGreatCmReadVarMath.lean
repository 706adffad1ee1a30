/-
 Plain facts on what bytes of seven bits say,and on which of them are just the bytes of a number. No program is spoken of.
-/
import Derived.Test.YtjdddblpfbmpaaaGreatCmTwoModToVarMath
import Derived.Lib.EndianBits
namespace Go.Proofs.YtjdddblpfbmpaaaGreat
open Go.RowKit Go.PlainAid
def hvm (s:ByteArray):Nat→Nat→Int
 |_,0=>0
 |i,m+1=>bt s i%128+128*hvm s (i+1) m
def rv (s:ByteArray) (k:Nat):Int:=hvm s 0 k
def Can (s:ByteArray):Nat→Nat→Prop
 |_,0=>False
 |i,1=>bt s i<128
 |i,m+2=>128≤bt s i∧Can s (i+1) (m+1)∧(m=0→bt s (i+1)≠0)
def zjV (s:ByteArray):Nat→Nat→Int×Int
 |0,_=>(0,0)
 |f+1,i=>if i<s.size then (if 128≤bt s i then zjV s f (i+1) else if bt s i=0∧0<i then (0,0) else (rv s (i+1),(i:Int)+1)) else (0,0)
def zuO (s:ByteArray):Int×Int:=zjV s 7 0
end Go.Proofs.YtjdddblpfbmpaaaGreat