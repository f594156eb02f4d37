/-
  A line that is no word, a line that is no instruction: the errors.
-/
import Derived.Test.YtccnliihdhnckaaGreatDoorInstr
namespace Go.Proofs.YtccnliihdhnckaaGreatDoor
open Go.RowKit Go.Shelf Go.Joins
open Num Tab Fm Txt
set_option linter.unusedVariables false
/-- which error Parse tells -/
def prE : PR → Nat
  | .name => 4
  | .text => 0
  | .bound => 1
  | .ok _ _ => 10
section
variable {w : World}
set_option maxRecDepth 100000 in
set_option maxHeartbeats 1000000 in
theorem instr_no (E : Nat → Addr) (EE : Er9 E w) (p : Value) (b : Lb w) (at_ : Int) (l : List UInt8) (hl : l.length ≤ 1000) (j : Nat) (hj : prE (parseS (cutT l)) = j) (hn : j < 10) :
    Calls Tryz.prog 75 #[p, .int .i64 at_, .string ⟨l.toArray⟩] w fun e w' => e = .returned (.iface 210 (.pointer (some (E j)))) ∧ Below w.heap.size w w' := by
  have hcu := cutName_any l hl w b
  have hct := cutT_len l
  have HB : Hid (Lb w) := b
  have HE : Hid (Er9 E w) := EE
  have hv : prV E (cutT l) = .tuple #[ins 0 0 0 0 0, .iface 210 (.pointer (some (E j)))] := by
    unfold prV
    cases h : parseS (cutT l) with
    | name => rw [h] at hj; rw [← hj]; rfl
    | text => rw [h] at hj; rw [← hj]; rfl
    | bound => rw [h] at hj; rw [← hj]; rfl
    | ok k f => rw [h] at hj; simp [prE] at hj; omega
  have hpa := fun (W : World) (h : Below w.heap.size w W) => parse_any E (cutT l) (by omega) W (HE.out.stays h) (HB.out.stays h (Nat.le_refl _))
  rw [hv] at hpa
  clear b EE hv hj
  generalize cutT l = tx at *
  generalize cutN l = nm at *
  go_enter Tryz.func75, Tryz.ntmps75
  go_wp2_with fail
  refine hcu.mono ?_
  rintro e w1 ⟨rfl, hb1⟩
  clear hcu
  go_wp2_with fail
  refine (hpa _ hb1).mono ?_
  rintro e w2 ⟨rfl, hb2⟩
  clear hpa
  have hb : Below w.heap.size w w2 := hb1.trans (hb2.mono hb1.size)
  delta ins
  go_wp2
  go_ret
  exact ⟨rfl, hb.alloc hb.size _⟩
set_option maxRecDepth 100000 in
set_option maxHeartbeats 1000000 in
theorem plain_no (E : Nat → Addr) (EE : Er9 E w) (p : Value) (b : Lb w) (at_ : Int) (l : List UInt8) (hl : l.length ≤ 1000) (hw : wordS l = none) :
    Calls Tryz.prog 72 #[p, .int .i64 at_, .string ⟨l.toArray⟩] w fun e w' => e = .returned (.iface 210 (.pointer (some (E 0)))) ∧ Below w.heap.size w w' := by
  have htp : ∀ W : World, Calls Tryz.prog 98 #[.string ⟨l.toArray⟩, .string ⟨#[46, 119, 111, 114, 100, 32]⟩] W fun e w' => e = .returned (.string ⟨(Lib.trimPrefix l [46, 119, 111, 114, 100, 32]).toArray⟩) ∧ w' = W := fun W => Any.strings_TrimPrefix Tryz.l101 ⟨l.toArray⟩ ⟨#[46, 119, 111, 114, 100, 32]⟩ W
  have htl := trim_len l [46, 119, 111, 114, 100, 32]
  have HE : Hid (Er9 E w) := EE
  unfold wordS at hw
  generalize Lib.trimPrefix l [46, 119, 111, 114, 100, 32] = t at *
  have hnu := number_any t (by omega) w b
  clear EE b htl
  cases hn : pnum t with
  | none =>
    have hv : numR t = .tuple #[.int .i64 0, .bool false] := by unfold numR; rw [hn]
    rw [hv] at hnu
    clear hv hn hw
    go_enter Tryz.func72, Tryz.ntmps72
    go_wp2_with fail
    refine (htp _).mono ?_
    rintro e w' ⟨rfl, rfl⟩
    clear htp
    go_wp2_with fail
    refine hnu.mono ?_
    rintro e w1 ⟨rfl, hb1⟩
    clear hnu
    have c0 := (HE.out.stays hb1).c0
    go_wp2
    go_ret
    exact ⟨rfl, hb1⟩
  | some n =>
    rw [hn] at hw
    simp only at hw
    have hb : ¬ (0 ≤ n ∧ n ≤ 4294967295) := by intro h; rw [if_pos h] at hw; cases hw
    have hv : numR t = .tuple #[.int .i64 n, .bool true] := by unfold numR; rw [hn]
    rw [hv] at hnu
    clear hv hn hw
    by_cases h0 : n < 0
    · go_enter Tryz.func72, Tryz.ntmps72
      go_wp2_with fail
      refine (htp _).mono ?_
      rintro e w' ⟨rfl, rfl⟩
      clear htp
      go_wp2_with fail
      refine hnu.mono ?_
      rintro e w1 ⟨rfl, hb1⟩
      clear hnu
      have c0 := (HE.out.stays hb1).c0
      go_wp2
      go_ret
      exact ⟨rfl, hb1⟩
    · have h1 : 4294967295 < n := by omega
      clear hb
      go_enter Tryz.func72, Tryz.ntmps72
      go_wp2_with fail
      refine (htp _).mono ?_
      rintro e w' ⟨rfl, rfl⟩
      clear htp
      go_wp2_with fail
      refine hnu.mono ?_
      rintro e w1 ⟨rfl, hb1⟩
      clear hnu
      have c0 := (HE.out.stays hb1).c0
      go_wp2
      go_ret
      exact ⟨rfl, hb1⟩
end
end Go.Proofs.YtccnliihdhnckaaGreatDoor
