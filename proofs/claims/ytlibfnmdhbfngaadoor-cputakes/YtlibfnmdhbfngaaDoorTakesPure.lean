/-
  What CpuTakes asks of a step, in whole numbers.
-/
import Derived.Test.YtlibfnmdhbfngaaDoorWaits
namespace Go.Proofs.YtlibfnmdhbfngaaDoor
open Num
set_option linter.unusedVariables false
theorem set_pc (S : St) (n : Nat) (v : Int) : (S.set n v).nx = S.nx := by unfold St.set; split <;> rfl
/-- an instruction that is done goes on; one that is not leaves all but Bad as it was -/
structure Fine (S : St) (b : Bs) (x : Int × St × Bs) : Prop where
  on : x.1 = -1 → x.2.1.pc = S.nx
  ex : x.1 ≠ -1 → (∃ y, u32 y ∧ x.2.1 = { S with bd := y }) ∧ x.2.2 = b
theorem fine_same {S : St} (o : S.ok) (b : Bs) {e : Int} (he : e ≠ -1) : Fine S b (e, S, b) := ⟨fun h => absurd h he, fun _ => ⟨⟨S.bd, o.bd, rfl⟩, rfl⟩⟩
theorem insP_fine {S : St} (o : S.ok) (hst : bits .and .u32 S.st 2 = 0) (b : Bs) (k s t d : Nat) (m : Int) : Fine S b (insP S b k s t d m) := by
  unfold insP
  split
  · unfold branchP
    split
    · exact fine_same o b (by omega)
    · exact ⟨fun _ => rfl, fun h => absurd rfl h⟩
  split
  · split
    · exact ⟨fun h => absurd h (by show ¬ (4 : Int) = -1; omega), fun _ => ⟨⟨_, lo_bd _, rfl⟩, rfl⟩⟩
    · exact ⟨fun _ => set_pc _ _ _, fun h => absurd rfl h⟩
  split
  · split
    · exact ⟨fun h => absurd h (by show ¬ (5 : Int) = -1; omega), fun _ => ⟨⟨_, lo_bd _, rfl⟩, rfl⟩⟩
    · exact ⟨fun _ => rfl, fun h => absurd rfl h⟩
  split
  · unfold trapP
    split
    · exact fine_same o b (by omega)
    split
    · exact fine_same o b (by omega)
    split
    · unfold fromP
      (repeat' split) <;> first | exact ⟨fun _ => set_pc _ _ _, fun h => absurd rfl h⟩ | exact fine_same o b (by omega)
    split
    · unfold toP
      (repeat' split) <;> first | exact ⟨fun _ => rfl, fun h => absurd rfl h⟩ | exact fine_same o b (by omega)
    split
    · unfold backP
      rw [if_pos (Or.inl hst)]
      exact fine_same o b (by omega)
    · exact fine_same o b (by omega)
  · unfold sumP
    split
    · exact ⟨fun _ => rfl, fun h => absurd rfl h⟩
    split
    · refine ⟨fun _ => ?_, fun h => absurd rfl h⟩
      dsimp only
      split <;> rfl
    split
    · exact ⟨fun _ => rfl, fun h => absurd rfl h⟩
    split
    · exact ⟨fun _ => rfl, fun h => absurd rfl h⟩
    split
    · exact fine_same o b (by omega)
    · exact ⟨fun _ => set_pc _ _ _, fun h => absurd rfl h⟩
theorem doP_fine {S : St} (o : S.ok) (hst : bits .and .u32 S.st 2 = 0) (b : Bs) : Fine S b (doP S b) := by
  unfold doP
  split
  · exact fine_same o b (by omega)
  split
  · exact ⟨fun h => absurd h (by show ¬ (4 : Int) = -1; omega), fun _ => ⟨⟨_, o.pc, rfl⟩, rfl⟩⟩
  · exact insP_fine o hst b _ _ _ _ _
theorem cause_nat : ∀ n : Nat, n < 32 → bits .or .u32 (bits .andNot .u32 0 124) (sh4 n) = 4 * (n : Int) ∧ bits .or .u32 (bits .andNot .u32 2147483648 124) (sh4 n) = 2147483648 + 4 * (n : Int) := by decide +kernel
theorem cause_eq {e : Int} (h0 : 0 ≤ e) (h1 : e < 32) : bits .or .u32 (bits .andNot .u32 0 124) (sh4 e) = 4 * e ∧ bits .or .u32 (bits .andNot .u32 2147483648 124) (sh4 e) = 2147483648 + 4 * e := by
  have := cause_nat e.toNat (by omega)
  rwa [Int.toNat_of_nonneg h0] at this
/-- a state that CpuTakes begins with -/
def Tk (S : St) (slot : Bool) : St := { S with r := fun i => if i = 0 then 0 else S.r i, pc := 64, nx := 68, sl := slot, st := 0 }
theorem Tk_ok {S : St} (o : S.ok) (slot : Bool) : (Tk S slot).ok :=
  ⟨fun i => by show u32 (if i = 0 then 0 else S.r i); split; exact ⟨by omega, by omega⟩; exact o.r i, o.hi, o.lo, ⟨by show (0:Int) ≤ 64; omega, by show (64:Int) < _; omega⟩, ⟨by show (0:Int) ≤ 68; omega, by show (68:Int) < _; omega⟩, ⟨by show (0:Int) ≤ 0; omega, by show (0:Int) < _; omega⟩, o.ca, o.ep, o.bd, o.cm, o.c0, o.c1⟩
def atI (slot : Bool) : Int := if slot = true then 60 else 64
def caI (slot : Bool) (e : Int) : Int := if slot = true then 2147483648 + 4 * e else 4 * e
/-- behind the first step -/
structure Took (S : St) (slot : Bool) (b : Bs) (x : Int × St × Bs) : Prop where
  on : x.1 = -1 → x.2.1.pc = 68
  ex : x.1 ≠ -1 → 0 ≤ x.1 ∧ x.1 < 32 ∧ x.2.1.ep = atI slot ∧ x.2.1.ca = caI slot x.1 ∧ x.2.1.st = 2 ∧ x.2.1.pc = 384 ∧ x.2.1.sl = false ∧ x.2.1.r = (Tk S slot).r ∧ x.2.1.hi = S.hi ∧ x.2.1.lo = S.lo ∧ x.2.2 = b
  ct : x.2.1.ct = S.ct + 1
theorem took {S : St} (o : S.ok) (slot : Bool) (b : Bs) : Took S slot b (stepP (Tk S slot) b) := by
  have ok := Tk_ok o slot
  have hst : bits .and .u32 (Tk S slot).st 2 = 0 := by show bits .and .u32 0 2 = 0; decide
  have hF := doP_fine ok hst b
  have hP := doP_plain ok b
  refine ⟨fun h => ?_, fun h => ?_, stepP_ct ok b⟩
  · have h' : (doP (Tk S slot) b).1 = -1 := h
    show (if (doP (Tk S slot) b).1 = -1 then (doP (Tk S slot) b).2.1 else _).pc = 68
    rw [if_pos h']
    exact hF.on h'
  · have h' : (doP (Tk S slot) b).1 ≠ -1 := h
    obtain ⟨⟨y, hy, e1⟩, e2⟩ := hF.ex h'
    have hc := hP.code.resolve_left h'
    have hce := cause_eq hc.1 hc.2
    unfold stepP
    rw [e1, e2, if_neg h']
    generalize (doP (Tk S slot) b).1 = e at *
    refine ⟨hc.1, hc.2, ?_⟩
    cases slot with
    | true =>
      have hx : exc1 { Tk S true with bd := y } = { { Tk S true with bd := y } with ep := Num.lo (64 - 4), ca := 2147483648 } := by
        unfold exc1
        rw [if_pos (by show bits .and .u32 0 2 = 0; decide), if_pos (by rfl)]
        rfl
      unfold excP
      rw [hx]
      exact ⟨by show Num.lo (64 - 4) = 60; decide, hce.2, by show bits .or .u32 0 2 = 2; decide, rfl, rfl, rfl, rfl, rfl, rfl⟩
    | false =>
      have hx : exc1 { Tk S false with bd := y } = { { Tk S false with bd := y } with ep := 64, ca := 0 } := by
        unfold exc1
        rw [if_pos (by show bits .and .u32 0 2 = 0; decide), if_neg (by show ¬ false = true; decide)]
        rfl
      unfold excP
      rw [hx]
      exact ⟨rfl, hce.1, by show bits .or .u32 0 2 = 2; decide, rfl, rfl, rfl, rfl, rfl, rfl⟩
/-- eret, at Vector -/
theorem eret_do {S : St} {b : Bs} (h1 : S.pc = 384) (h2 : S.st = 2) (h3 : S.sl = false) (hm : ld b.m 384 4 false = 1107296280) : doP S b = (-1, { S.jump S.ep with st := 0 }, b) := by
  have hi : intB S = false := by
    unfold intB
    rw [h2]
    have : decide (bits .and .u32 2 3 = 1) = false := by decide
    rw [this, Bool.and_false]
  unfold doP
  rw [if_neg (by simp [hi]), h1, if_neg (by decide), hm]
  dsimp only
  rw [show decK 1107296280 = 45 by decide +kernel]
  unfold insP
  rw [if_neg (by decide), if_neg (by decide), if_neg (by decide), if_pos (by decide)]
  have hb : backP S = (-1, { S.jump S.ep with st := 0 }) := by
    unfold backP
    rw [h2, h3, if_neg (by decide)]
    rfl
  have ht : trapP S 45 (Tab.xt (Tab.sh 45) 1107296280).toNat (Tab.xd (Tab.sh 45) 1107296280).toNat = backP S := by
    unfold trapP
    rw [if_neg (by decide), if_neg (by decide), if_neg (by decide), if_neg (by decide), if_pos (by rfl)]
  rw [ht, hb]
theorem eret_step {S : St} {b : Bs} (h1 : S.pc = 384) (h2 : S.st = 2) (h3 : S.sl = false) (hm : ld b.m 384 4 false = 1107296280) : stepP S b = (-1, { { S.jump S.ep with st := 0 } with ct := S.ct + 1 }, b) := by
  unfold stepP
  rw [eret_do h1 h2 h3 hm]
  rfl
/-- memory, with a word at 64 and eret at Vector -/
def mT (v : Int) : Nat → Int := upd (upd (mw []) 64 4 v) 384 4 1107296280
theorem mT_ld (v : Int) : ld (mT v) 384 4 false = 1107296280 := by
  unfold mT
  rw [ld_upd _ _ _ _ (by decide)]
  decide
end Go.Proofs.YtlibfnmdhbfngaaDoor
