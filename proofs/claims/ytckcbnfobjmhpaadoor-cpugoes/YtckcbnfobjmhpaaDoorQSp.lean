/-
  What instructions make of a processor's state, in whole numbers: sums and branches.
-/
import Derived.Test.YtckcbnfobjmhpaaDoorQSt0
import Derived.Test.YtckcbnfobjmhpaaDoorQLowPure
namespace Go.Proofs.YtckcbnfobjmhpaaDoor
open Num
set_option linter.unusedVariables false
export Low (immI szI sgI)
def St.set (S : St) (n : Nat) (v : Int) : St := if n = 0 then S else { S with r := fun i => if i = n then v else S.r i }
def St.on (S : St) : St := { S with pc := S.nx, nx := Num.lo (S.nx + 4), sl := false }
def St.jump (S : St) (a : Int) : St := { S with pc := a, nx := Num.lo (a + 4), sl := false }
def bitI (b : Bool) : Int := if b = true then 1 else 0
def bitsI (k : Nat) (a b : Int) : Int :=
  if k = 23 ∨ k = 39 then bits .and .u32 a b else if k = 24 ∨ k = 40 then bits .or .u32 a b else if k = 25 ∨ k = 41 then bits .xor .u32 a b else if k = 26 then bits .xor .u32 4294967295 (bits .or .u32 a b)
  else if k = 27 ∨ k = 37 then bitI (lessB a b true) else if k = 28 ∨ k = 38 then bitI (lessB a b false) else if k = 1 ∨ k = 4 then shf 60 a b else if k = 2 ∨ k = 5 then shf 62 a b else if k = 3 ∨ k = 6 then shf 126 a b else shf 60 b 16
def resI (S : St) (k : Nat) (a b : Int) : Int :=
  if k = 19 ∨ k = 35 then lo (a + b) else if k = 21 then lo (a - b) else if k = 20 ∨ k = 36 then lo (a + b) else if k = 22 then lo (a - b) else if k = 11 then S.hi else if k = 13 then S.lo else bitsI k a b
def overI (k : Nat) (a b : Int) : Bool := if k = 19 ∨ k = 35 then ov (sg a + sg b) else if k = 21 then ov (sg a - sg b) else false
def opA (S : St) (k s t : Nat) : Int := if k = 1 ∨ k = 2 ∨ k = 3 ∨ k = 4 ∨ k = 5 ∨ k = 6 then S.r t else S.r s
def opB (S : St) (k s t : Nat) (m : Int) : Int := if k = 1 ∨ k = 2 ∨ k = 3 then immI k m else if k = 4 ∨ k = 5 ∨ k = 6 then S.r s else if 35 ≤ k ∧ k ≤ 42 then immI k m else S.r t
def opT (k t d : Nat) : Nat := if 35 ≤ k ∧ k ≤ 42 then t else d
def sumP (S : St) (k s t d : Nat) (m : Int) : Int × St :=
  if k = 15 ∨ k = 16 then (-1, St.on { S with hi := hi (nm (opA S k s t) (decide (k = 15)) * nm (opB S k s t m) (decide (k = 15))), lo := lo (nm (opA S k s t) (decide (k = 15)) * nm (opB S k s t m) (decide (k = 15))) })
  else if k = 17 ∨ k = 18 then (-1, if opB S k s t m = 0 then S.on else St.on { S with lo := quo (opA S k s t) (opB S k s t m) (decide (k = 17)), hi := rst (opA S k s t) (opB S k s t m) (decide (k = 17)) })
  else if k = 12 then (-1, St.on { S with hi := opA S k s t }) else if k = 14 then (-1, St.on { S with lo := opA S k s t })
  else if overI k (opA S k s t) (opB S k s t m) = true then (12, S) else (-1, (S.set (opT k t d) (resI S k (opA S k s t) (opB S k s t m))).on)
def adI (S : St) (k s : Nat) (m : Int) : Int := lo (S.r s + immI k m)
def takenI (S : St) (k s t : Nat) : Bool := if k = 31 then decide (S.r s = S.r t) else if k = 32 then !decide (S.r s = S.r t) else if k = 33 then !lessB 0 (S.r s) true else if k = 34 then lessB 0 (S.r s) true else true
def targI (S : St) (k s : Nat) (m : Int) : Int := if k = 29 ∨ k = 30 then bits .or .u32 (bits .and .u32 (lo (S.pc + 4)) 4026531840) (lo (4 * m)) else if k = 7 ∨ k = 8 then S.r s else lo (lo (S.pc + 4) + lo (4 * immI k m))
def branchP (S : St) (k s t d : Nat) (m : Int) : Int × St :=
  if S.sl = true then (10, S) else
    (-1, { (if k = 30 then S.set 31 (lo (S.pc + 8)) else if k = 8 then S.set d (lo (S.pc + 8)) else S) with pc := S.nx, nx := if takenI S k s t = true then targI S k s m else lo (S.nx + 4), sl := true })
end Go.Proofs.YtckcbnfobjmhpaaDoor
