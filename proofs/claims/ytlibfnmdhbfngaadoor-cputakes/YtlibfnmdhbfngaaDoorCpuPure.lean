/-
  What a processor's step makes of a state and a bus, in whole numbers.
-/
import Derived.Test.YtlibfnmdhbfngaaDoorCpu1
import Derived.Test.YtlibfnmdhbfngaaDoorAll
import Derived.Test.YtlibfnmdhbfngaaDoorTab
namespace Go.Proofs.YtlibfnmdhbfngaaDoor
open Num
set_option linter.unusedVariables false
def bitI (b : Bool) : Int := if b = true then 1 else 0
def bitsI (k : Nat) (a b : Int) : Int :=
  if k = 23 ∨ k = 39 then bits .and .u32 a b else if k = 24 ∨ k = 40 then bits .or .u32 a b else if k = 25 ∨ k = 41 then bits .xor .u32 a b else if k = 26 then bits .xor .u32 4294967295 (bits .or .u32 a b)
  else if k = 27 ∨ k = 37 then bitI (lessB a b true) else if k = 28 ∨ k = 38 then bitI (lessB a b false) else if k = 1 ∨ k = 4 then shf 60 a b else if k = 2 ∨ k = 5 then shf 62 a b else if k = 3 ∨ k = 6 then shf 126 a b else shf 60 b 16
def resI (S : St) (k : Nat) (a b : Int) : Int :=
  if k = 19 ∨ k = 35 then lo (a + b) else if k = 21 then lo (a - b) else if k = 20 ∨ k = 36 then lo (a + b) else if k = 22 then lo (a - b) else if k = 11 then S.hi else if k = 13 then S.lo else bitsI k a b
def overI (k : Nat) (a b : Int) : Bool := if k = 19 ∨ k = 35 then ov (sg a + sg b) else if k = 21 then ov (sg a - sg b) else false
def opA (S : St) (k s t : Nat) : Int := if k = 1 ∨ k = 2 ∨ k = 3 ∨ k = 4 ∨ k = 5 ∨ k = 6 then S.r t else S.r s
def opB (S : St) (k s t : Nat) (m : Int) : Int := if k = 1 ∨ k = 2 ∨ k = 3 then immI k m else if k = 4 ∨ k = 5 ∨ k = 6 then S.r s else if 35 ≤ k ∧ k ≤ 42 then immI k m else S.r t
def opT (k t d : Nat) : Nat := if 35 ≤ k ∧ k ≤ 42 then t else d
def sumP (S : St) (k s t d : Nat) (m : Int) : Int × St :=
  if k = 15 ∨ k = 16 then (-1, St.on { S with hi := hi (nm (opA S k s t) (decide (k = 15)) * nm (opB S k s t m) (decide (k = 15))), lo := lo (nm (opA S k s t) (decide (k = 15)) * nm (opB S k s t m) (decide (k = 15))) })
  else if k = 17 ∨ k = 18 then (-1, if opB S k s t m = 0 then S.on else St.on { S with lo := quo (opA S k s t) (opB S k s t m) (decide (k = 17)), hi := rst (opA S k s t) (opB S k s t m) (decide (k = 17)) })
  else if k = 12 then (-1, St.on { S with hi := opA S k s t }) else if k = 14 then (-1, St.on { S with lo := opA S k s t })
  else if overI k (opA S k s t) (opB S k s t m) = true then (12, S) else (-1, (S.set (opT k t d) (resI S k (opA S k s t) (opB S k s t m))).on)
/-- how many bytes, and whether signed -/
def szI (k : Nat) : Int := if k = 46 ∨ k = 49 ∨ k = 51 then 1 else if k = 47 ∨ k = 50 ∨ k = 52 then 2 else 4
def sgI (k : Nat) : Bool := decide (k = 46 ∨ k = 47)
def adI (S : St) (k s : Nat) (m : Int) : Int := lo (S.r s + immI k m)
def takenI (S : St) (k s t : Nat) : Bool := if k = 31 then decide (S.r s = S.r t) else if k = 32 then !decide (S.r s = S.r t) else if k = 33 then !lessB 0 (S.r s) true else if k = 34 then lessB 0 (S.r s) true else true
def targI (S : St) (k s : Nat) (m : Int) : Int := if k = 29 ∨ k = 30 then bits .or .u32 (bits .and .u32 (lo (S.pc + 4)) 4026531840) (lo (4 * m)) else if k = 7 ∨ k = 8 then S.r s else lo (lo (S.pc + 4) + lo (4 * immI k m))
def branchP (S : St) (k s t d : Nat) (m : Int) : Int × St :=
  if S.sl = true then (10, S) else
    (-1, { (if k = 30 then S.set 31 (lo (S.pc + 8)) else if k = 8 then S.set d (lo (S.pc + 8)) else S) with pc := S.nx, nx := if takenI S k s t = true then targI S k s m else lo (S.nx + 4), sl := true })
def fromP (S : St) (t d : Nat) : Int × St :=
  if d = 8 then (-1, (S.set t S.bd).on) else if d = 9 then (-1, (S.set t (lo S.ct)).on) else if d = 11 then (-1, (S.set t S.cm).on) else if d = 12 then (-1, (S.set t S.st).on) else if d = 13 then (-1, (S.set t S.ca).on) else if d = 14 then (-1, (S.set t S.ep).on) else (10, S)
def toP (S : St) (t d : Nat) : Int × St :=
  if d = 11 then (-1, St.on { S with cm := S.r t }) else if d = 12 then (-1, St.on { S with st := bits .and .u32 (S.r t) 3 }) else if d = 14 then (-1, St.on { S with ep := S.r t }) else (10, S)
def backP (S : St) : Int × St := if bits .and .u32 S.st 2 = 0 ∨ S.sl = true then (10, S) else (-1, { S.jump S.ep with st := bits .andNot .u32 S.st 2 })
def trapP (S : St) (k t d : Nat) : Int × St := if k = 9 then (8, S) else if k = 10 then (9, S) else if k = 43 then fromP S t d else if k = 44 then toP S t d else if k = 45 then backP S else (10, S)
def intB (S : St) : Bool := decide (S.cm ≠ 0) && decide (S.cm ≤ S.ct) && decide (bits .and .u32 S.st 3 = 1)
def exc1 (S : St) : St := if bits .and .u32 S.st 2 = 0 then (if S.sl = true then { S with ep := lo (S.pc - 4), ca := 2147483648 } else { S with ep := S.pc, ca := 0 }) else S
def sh4 (e : Int) : Int := IntKind.u32.wrap (IntKind.u32.wrap e * 4)
def excP (S : St) (e : Int) : St := St.jump { exc1 S with ca := bits .or .u32 (bits .andNot .u32 (exc1 S).ca 124) (sh4 e), st := bits .or .u32 S.st 2 } 384
/-- the operation of a word -/
def decK (v : Int) : Nat := ((List.range 54).find? fun k => decide (1 ≤ k ∧ Tab.xw k v = v)).getD 0
/-- an instruction done: what it answers, and what is behind it -/
def insP (S : St) (b : Bs) (k s t d : Nat) (m : Int) : Int × St × Bs :=
  if Tab.kind k = [98, 114, 97, 110, 99, 104] then ((branchP S k s t d m).1, (branchP S k s t d m).2, b)
  else if Tab.kind k = [108, 111, 97, 100] then
    if bad (adI S k s m) (szI k) = true then (4, { S with bd := adI S k s m }, b) else (-1, (S.set t (b.val (adI S k s m) (szI k) (sgI k) S.ct)).on, b.got (adI S k s m) (szI k) S.ct)
  else if Tab.kind k = [115, 116, 111, 114, 101] then
    if bad (adI S k s m) (szI k) = true then (5, { S with bd := adI S k s m }, b) else (-1, S.on, b.put (adI S k s m) (szI k) (S.r t) S.ct)
  else if Tab.kind k = [116, 114, 97, 112] then ((trapP S k t d).1, (trapP S k t d).2, b)
  else ((sumP S k s t d m).1, (sumP S k s t d m).2, b)
def doP (S : St) (b : Bs) : Int × St × Bs :=
  if intB S = true then (0, S, b) else if chk S.pc 4 ≠ 0 then (4, { S with bd := S.pc }, b)
  else let v := ld b.m S.pc 4 false
    let k := decK v
    insP S b k (Tab.xs (Tab.sh k) v).toNat (Tab.xt (Tab.sh k) v).toNat (Tab.xd (Tab.sh k) v).toNat (Tab.xm (Tab.sh k) v)
def stepP (S : St) (b : Bs) : Int × St × Bs :=
  ((doP S b).1, { (if (doP S b).1 = -1 then (doP S b).2.1 else excP (doP S b).2.1 (doP S b).1) with ct := (doP S b).2.1.ct + 1 }, (doP S b).2.2)
/-! bounds -/
theorem and_bd {a b : Int} (ha : u32 a) (hb : u32 b) : u32 (bits .and .u32 a b) := by
  rw [u32_and a b ha.1 ha.2 hb.1 hb.2]
  have h := Nat.and_lt_two_pow (n := 32) a.toNat (show b.toNat < 2 ^ 32 by have := hb.1; have := hb.2; omega)
  exact ⟨by omega, by omega⟩
theorem or_bd {a b : Int} (ha : u32 a) (hb : u32 b) : u32 (bits .or .u32 a b) := by
  rw [u32_or a b ha.1 ha.2 hb.1 hb.2]
  have h := Nat.or_lt_two_pow (n := 32) (show a.toNat < 2 ^ 32 by have := ha.1; have := ha.2; omega) (show b.toNat < 2 ^ 32 by have := hb.1; have := hb.2; omega)
  exact ⟨by omega, by omega⟩
theorem xor_bd {a b : Int} (ha : u32 a) (hb : u32 b) : u32 (bits .xor .u32 a b) := by
  rw [u32_xor a b ha.1 ha.2 hb.1 hb.2]
  have h := Nat.xor_lt_two_pow (n := 32) (show a.toNat < 2 ^ 32 by have := ha.1; have := ha.2; omega) (show b.toNat < 2 ^ 32 by have := hb.1; have := hb.2; omega)
  exact ⟨by omega, by omega⟩
theorem andNot_bd {a b : Int} (ha : u32 a) (hb : u32 b) : u32 (bits .andNot .u32 a b) := by
  rw [u32_andNot a b ha.1 ha.2 hb.1 hb.2]
  have h := Nat.and_lt_two_pow (n := 32) a.toNat (show 4294967295 - b.toNat < 2 ^ 32 by omega)
  exact ⟨by omega, by omega⟩
theorem bitI_bd (b : Bool) : u32 (bitI b) := by unfold bitI; split <;> exact ⟨by omega, by omega⟩
theorem bitsI_bd (k : Nat) {a b : Int} (ha : u32 a) (hb : u32 b) : u32 (bitsI k a b) := by
  unfold bitsI
  split
  · exact and_bd ha hb
  split
  · exact or_bd ha hb
  split
  · exact xor_bd ha hb
  split
  · exact xor_bd ⟨by omega, by omega⟩ (or_bd ha hb)
  split
  · exact bitI_bd _
  split
  · exact bitI_bd _
  split
  · exact shf_bd ha.1 ha.2
  split
  · exact shf_bd ha.1 ha.2
  split
  · exact shf_bd ha.1 ha.2
  · exact shf_bd hb.1 hb.2
theorem resI_bd {S : St} (o : S.ok) (k : Nat) {a b : Int} (ha : u32 a) (hb : u32 b) : u32 (resI S k a b) := by
  unfold resI
  split
  · exact lo_bd _
  split
  · exact lo_bd _
  split
  · exact lo_bd _
  split
  · exact lo_bd _
  split
  · exact o.hi
  split
  · exact o.lo
  · exact bitsI_bd k ha hb
theorem opA_bd {S : St} (o : S.ok) (k s t : Nat) : u32 (opA S k s t) := by unfold opA; split <;> exact o.r _
theorem opB_bd {S : St} (o : S.ok) (k s t : Nat) {m : Int} (m0 : 0 ≤ m) (m1 : m < 4294967296) : u32 (opB S k s t m) := by
  unfold opB
  split
  · exact immI_bd m0 m1
  split
  · exact o.r _
  split
  · exact immI_bd m0 m1
  · exact o.r _
theorem opT_lt {k t d : Nat} (ht : t < 32) (hd : d < 32) : opT k t d < 32 := by unfold opT; split <;> assumption
theorem targI_bd {S : St} (o : S.ok) (k s : Nat) (m : Int) : u32 (targI S k s m) := by
  unfold targI
  split
  · exact or_bd (and_bd (lo_bd _) ⟨by omega, by omega⟩) (lo_bd _)
  split
  · exact o.r _
  · exact lo_bd _
end Go.Proofs.YtlibfnmdhbfngaaDoor
