/-
  Memory by bytes and by words: a byte that is put is a store of one byte; bytes make a word. No Go in sight.
-/
import Derived.BigQuiet
import Derived.Test.YtkehhlibkebomaaDoorKNum
import Derived.Test.YtkehhlibkebomaaDoorKPure
import Derived.Test.YtkehhlibkebomaaDoorQIrChk
namespace Go.Proofs.YtkehhlibkebomaaDoor
open Num
set_option linter.unusedVariables false
theorem p32 : (2 : Int) ^ 32 = 4294967296 := by decide
theorem e1 : (2 : Int) ^ (8 * (1 : Int)).toNat = 256 := by decide
theorem e2 : (2 : Int) ^ (8 * (2 : Int)).toNat = 65536 := by decide
theorem e4 : (2 : Int) ^ (8 * (4 : Int)).toNat = 4294967296 := by decide
end Go.Proofs.YtkehhlibkebomaaDoor
/-
  The document's word functions: Signed, LessOf, Word, IsSigned, DivOf, ShiftOf, WideOf, MulOf.
-/
namespace Go.Proofs.YtkehhlibkebomaaDoor
open Go.RowKit
open Num
set_option linter.unusedVariables false
end Go.Proofs.YtkehhlibkebomaaDoor
/-
  Functions of the document's answer: parts of a word, the errors of an access.
-/
namespace Go.Proofs.YtkehhlibkebomaaDoor
open Go.RowKit
open Num
set_option linter.unusedVariables false
/-- an access's error, by its number -/
def rc (a s : Int) : Int := if chk a s = 1 then 3 else if chk a s = 2 then 9 else if chk a s = 3 then 10 else 0
end Go.Proofs.YtkehhlibkebomaaDoor
/-
  The document's memory: words in a slice; bytes are read and put.
-/
namespace Go.Proofs.YtkehhlibkebomaaDoor
open Go.RowKit Go.Maps
open Num
set_option linter.unusedVariables false
def wl (m : Nat → Int) (k : Nat) : List Value := (List.range k).map fun i => .int .u32 (m i)
theorem wl_get (m : Nat → Int) (k i : Nat) (h : i < k) : (wl m k)[i]? = some (.int .u32 (m i)) := by simp [wl, List.getElem?_map, List.getElem?_range h]
end Go.Proofs.YtkehhlibkebomaaDoor
