/-
  What a processor's step makes of a state and a bus, in whole numbers.
-/
import Derived.Test.YtckcbnfobjmhpaaDoorKTab
import Derived.Test.YtckcbnfobjmhpaaDoorQSp
import Derived.Test.YtckcbnfobjmhpaaDoorQCpu1
import Derived.Test.YtckcbnfobjmhpaaDoorKTold
namespace Go.Proofs.YtckcbnfobjmhpaaDoor
open Num
set_option linter.unusedVariables false
def fromP (S : St) (t d : Nat) : Int × St :=
  if d = 8 then (-1, (S.set t S.bd).on) else if d = 9 then (-1, (S.set t (lo S.ct)).on) else if d = 11 then (-1, (S.set t S.cm).on) else if d = 12 then (-1, (S.set t S.st).on) else if d = 13 then (-1, (S.set t S.ca).on) else if d = 14 then (-1, (S.set t S.ep).on) else (10, S)
def toP (S : St) (t d : Nat) : Int × St :=
  if d = 11 then (-1, St.on { S with cm := S.r t }) else if d = 12 then (-1, St.on { S with st := bits .and .u32 (S.r t) 3 }) else if d = 14 then (-1, St.on { S with ep := S.r t }) else (10, S)
def backP (S : St) : Int × St := if bits .and .u32 S.st 2 = 0 ∨ S.sl = true then (10, S) else (-1, { S.jump S.ep with st := bits .andNot .u32 S.st 2 })
def trapP (S : St) (k t d : Nat) : Int × St := if k = 9 then (8, S) else if k = 10 then (9, S) else if k = 43 then fromP S t d else if k = 44 then toP S t d else if k = 45 then backP S else (10, S)
def intB (S : St) : Bool := decide (S.cm ≠ 0) && decide (S.cm ≤ S.ct) && decide (bits .and .u32 S.st 3 = 1)
def exc1 (S : St) : St := if bits .and .u32 S.st 2 = 0 then (if S.sl = true then { S with ep := lo (S.pc - 4), ca := 2147483648 } else { S with ep := S.pc, ca := 0 }) else S
def sh4 (e : Int) : Int := IntKind.u32.wrap (IntKind.u32.wrap e * 4)
def excP (S : St) (e : Int) : St := St.jump { exc1 S with ca := bits .or .u32 (bits .andNot .u32 (exc1 S).ca 124) (sh4 e), st := bits .or .u32 S.st 2 } 384
/-- the operation of a word -/
def decK (v : Int) : Nat := ((List.range 54).find? fun k => decide (1 ≤ k ∧ Tab.xw k v = v)).getD 0
/-- an instruction done: what it answers, and what is behind it -/
def insP (S : St) (b : Bs) (k s t d : Nat) (m : Int) : Int × St × Bs :=
  if Tab.kind k = [98, 114, 97, 110, 99, 104] then ((branchP S k s t d m).1, (branchP S k s t d m).2, b)
  else if Tab.kind k = [108, 111, 97, 100] then
    if bad (adI S k s m) (szI k) = true then (4, { S with bd := adI S k s m }, b) else (-1, (S.set t (b.val (adI S k s m) (szI k) (sgI k) S.ct)).on, b.got (adI S k s m) (szI k) S.ct)
  else if Tab.kind k = [115, 116, 111, 114, 101] then
    if bad (adI S k s m) (szI k) = true then (5, { S with bd := adI S k s m }, b) else (-1, S.on, b.put (adI S k s m) (szI k) (S.r t) S.ct)
  else if Tab.kind k = [116, 114, 97, 112] then ((trapP S k t d).1, (trapP S k t d).2, b)
  else ((sumP S k s t d m).1, (sumP S k s t d m).2, b)
def doC (S : St) (b : Bs) : Int × St × Bs :=
  if intB S = true then (0, S, b) else if chk S.pc 4 ≠ 0 then (4, { S with bd := S.pc }, b)
  else let v := ld b.m S.pc 4 false
    let k := decK v
    insP S b k (Tab.xs (Tab.sh k) v).toNat (Tab.xt (Tab.sh k) v).toNat (Tab.xd (Tab.sh k) v).toNat (Tab.xm (Tab.sh k) v)
def stepP (S : St) (b : Bs) : Int × St × Bs :=
  ((doC S b).1, { (if (doC S b).1 = -1 then (doC S b).2.1 else excP (doC S b).2.1 (doC S b).1) with ct := (doC S b).2.1.ct + 1 }, (doC S b).2.2)
/-! bounds -/
theorem and_bd {a b : Int} (ha : u32 a) (hb : u32 b) : u32 (bits .and .u32 a b) := by
  rw [u32_and a b ha.1 ha.2 hb.1 hb.2]
  have h := Nat.and_lt_two_pow (n := 32) a.toNat (show b.toNat < 2 ^ 32 by have := hb.1; have := hb.2; omega)
  exact ⟨by omega, by omega⟩
theorem or_bd {a b : Int} (ha : u32 a) (hb : u32 b) : u32 (bits .or .u32 a b) := by
  rw [u32_or a b ha.1 ha.2 hb.1 hb.2]
  have h := Nat.or_lt_two_pow (n := 32) (show a.toNat < 2 ^ 32 by have := ha.1; have := ha.2; omega) (show b.toNat < 2 ^ 32 by have := hb.1; have := hb.2; omega)
  exact ⟨by omega, by omega⟩
theorem xor_bd {a b : Int} (ha : u32 a) (hb : u32 b) : u32 (bits .xor .u32 a b) := by
  rw [u32_xor a b ha.1 ha.2 hb.1 hb.2]
  have h := Nat.xor_lt_two_pow (n := 32) (show a.toNat < 2 ^ 32 by have := ha.1; have := ha.2; omega) (show b.toNat < 2 ^ 32 by have := hb.1; have := hb.2; omega)
  exact ⟨by omega, by omega⟩
theorem andNot_bd {a b : Int} (ha : u32 a) (hb : u32 b) : u32 (bits .andNot .u32 a b) := by
  rw [u32_andNot a b ha.1 ha.2 hb.1 hb.2]
  have h := Nat.and_lt_two_pow (n := 32) a.toNat (show 4294967295 - b.toNat < 2 ^ 32 by omega)
  exact ⟨by omega, by omega⟩
theorem bitI_bd (b : Bool) : u32 (bitI b) := by unfold bitI; split <;> exact ⟨by omega, by omega⟩
theorem bitsI_bd (k : Nat) {a b : Int} (ha : u32 a) (hb : u32 b) : u32 (bitsI k a b) := by
  unfold bitsI
  split
  · exact and_bd ha hb
  split
  · exact or_bd ha hb
  split
  · exact xor_bd ha hb
  split
  · exact xor_bd ⟨by omega, by omega⟩ (or_bd ha hb)
  split
  · exact bitI_bd _
  split
  · exact bitI_bd _
  split
  · exact shf_bd ha.1 ha.2
  split
  · exact shf_bd ha.1 ha.2
  split
  · exact shf_bd ha.1 ha.2
  · exact shf_bd hb.1 hb.2
theorem resI_bd {S : St} (o : S.ok) (k : Nat) {a b : Int} (ha : u32 a) (hb : u32 b) : u32 (resI S k a b) := by
  unfold resI
  split
  · exact lo_bd _
  split
  · exact lo_bd _
  split
  · exact lo_bd _
  split
  · exact lo_bd _
  split
  · exact o.hi
  split
  · exact o.lo
  · exact bitsI_bd k ha hb
theorem opA_bd {S : St} (o : S.ok) (k s t : Nat) : u32 (opA S k s t) := by unfold opA; split <;> exact o.r _
theorem opB_bd {S : St} (o : S.ok) (k s t : Nat) {m : Int} (m0 : 0 ≤ m) (m1 : m < 4294967296) : u32 (opB S k s t m) := by
  unfold opB
  split
  · exact immI_bd m0 m1
  split
  · exact o.r _
  split
  · exact immI_bd m0 m1
  · exact o.r _
theorem opT_lt {k t d : Nat} (ht : t < 32) (hd : d < 32) : opT k t d < 32 := by unfold opT; split <;> assumption
theorem targI_bd {S : St} (o : S.ok) (k s : Nat) (m : Int) : u32 (targI S k s m) := by
  unfold targI
  split
  · exact or_bd (and_bd (lo_bd _) ⟨by omega, by omega⟩) (lo_bd _)
  split
  · exact o.r _
  · exact lo_bd _
end Go.Proofs.YtckcbnfobjmhpaaDoor
