/- The plain functions that the pairs package computes, on integers. No program is imported here. -/
import Derived.Test.YtnddgkcgedkabaaDoorPure
namespace Go.Proofs.YtnddgkcgedkabaaDoor

def kn2 (a b : Int) : Bool := knw a && knw b
def dif (a b : Int) : Bool := kn2 a b && !(a == b)
def blw2 (a b c d : Int) : Bool := blw a c && blw b d
def jn (a b : Int) : Int := if blw a b = true then cln b else if blw b a = true then cln a else 0
def jnb (a b : Int) : Bool := blw a b || blw b a
def jnb2 (a b c d : Int) : Bool := jnb a c && jnb b d
def jn1 (a b c d : Int) : Int := if jnb2 a b c d = true then jn a c else 0
def jn2 (a b c d : Int) : Int := if jnb2 a b c d = true then jn b d else 0
/-- the pairs of the D calculus, of clean values -/
def isFive (a b : Int) : Bool := (a == 1 && b == 0) || (a == 0 && b == 1) || (a == b && !(a == 3))
def five1 (a b : Int) : Int := if isFive (cln a) (cln b) = true then cln a else 2
def five2 (a b : Int) : Int := if isFive (cln a) (cln b) = true then cln b else 2
/-- the character of a clean value, as a byte -/
def tcb (a : Int) : UInt8 := if a = 0 then 48 else if a = 1 then 49 else if a = 2 then 88 else 90
def letL (a b : Int) : List UInt8 := if a = 1 ∧ b = 0 then [68] else if a = 0 ∧ b = 1 then [66] else if a = b ∧ a ≠ 3 then [tcb a] else []
def txtC (a b : Int) : List UInt8 := if a = 1 ∧ b = 0 then [68] else if a = 0 ∧ b = 1 then [66] else if a = b then [tcb a] else [tcb a, 47, tcb b]
def txtL (a b : Int) : List UInt8 := txtC (cln a) (cln b)
def evG (l : List (Int × Int)) : List Int := l.map Prod.fst
def evB (l : List (Int × Int)) : List Int := l.map Prod.snd

end Go.Proofs.YtnddgkcgedkabaaDoor
