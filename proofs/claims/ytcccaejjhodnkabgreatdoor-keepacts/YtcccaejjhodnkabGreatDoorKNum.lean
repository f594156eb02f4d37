/-
  Plain facts on whole numbers, read as words of 32 bits: no Go in sight.
-/
import Derived.RowKit
import Derived.Test.YtcccaejjhodnkabGreatDoorProg
import Derived.WalkKit
import Derived.Below
import Derived.Deep.QuietTactic
import Derived.BigQuiet
namespace Go.Proofs.YtcccaejjhodnkabGreatDoor.Num
open Go.RowKit (wrap32 wrap64)
/-- the signed number of a word -/
def sg (a : Int) : Int := if a < 2147483648 then a else a - 4294967296
/-- the lowest 32 bits -/
def lo (n : Int) : Int := n % 4294967296
/-- the next 32 bits -/
def hi (n : Int) : Int := n / 4294967296 % 4294967296
/-- no signed word -/
def ov (n : Int) : Bool := decide (n < -2147483648 ∨ 2147483647 < n)
/-- a word as a number, signed or not -/
def nm (a : Int) (s : Bool) : Int := if s then sg a else a
/-- the order of words -/
def lessB (a b : Int) (s : Bool) : Bool := decide (nm a s < nm b s)
/-- quotient and rest -/
def quo (a b : Int) (s : Bool) : Int := lo ((nm a s).tdiv (nm b s))
def rst (a b : Int) (s : Bool) : Int := lo ((nm a s).tmod (nm b s))
/-- 2 to a number modulo 32 -/
def pw (n : Int) : Int := 2 ^ (n % 32).toNat
/-- shifts -/
def shf (k a n : Int) : Int := if k = 60 then lo (a * pw n) else if k = 62 then a / pw n else if k = 126 then lo (sg a / pw n) else a
/-- the lowest bits -/
def wd (v bits : Int) (s : Bool) : Int :=
  if bits < 1 ∨ 32 < bits then v
  else if s = true ∧ 2 ^ bits.toNat ≤ 2 * (v % 2 ^ bits.toNat) then lo (v % 2 ^ bits.toNat - 2 ^ bits.toNat) else v % 2 ^ bits.toNat
end Go.Proofs.YtcccaejjhodnkabGreatDoor.Num
/-
  What package word's Shift and Wide, and the document's answer to Wide, answer, in whole numbers; memory stays as it is.
-/
namespace Go.Proofs.YtcccaejjhodnkabGreatDoor
open Go.RowKit
open Num
set_option linter.unusedVariables false
theorem ret_int {k : IntKind} {a b : Int} (h : a = b) : Ending.returned (.int k a) = .returned (.int k b) := by rw [h]
theorem ret_bool {a b : Bool} (h : a = b) : Ending.returned (.bool a) = .returned (.bool b) := by rw [h]
end Go.Proofs.YtcccaejjhodnkabGreatDoor
/-
  Sums, products and quotients of words.
-/
namespace Go.Proofs.YtcccaejjhodnkabGreatDoor
open Go.RowKit
open Num
set_option linter.unusedVariables false
end Go.Proofs.YtcccaejjhodnkabGreatDoor
