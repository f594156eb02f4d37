/-
  The walk of AsmTexts.
-/
import Derived.Test.YtccnliihdhnckaaGreatDoorPOs
import Derived.Test.YtccnliihdhnckaaGreatDoorParse
import Derived.Test.YtccnliihdhnckaaGreatDoorText
import Derived.Test.YtccnliihdhnckaaGreatDoorTextOfLo
import Derived.Test.YtccnliihdhnckaaGreatDoorTextOfHi
import Derived.Test.YtccnliihdhnckaaGreatDoorEncodeOf
import Derived.Test.YtccnliihdhnckaaGreatDoorBack
namespace Go.Proofs.YtccnliihdhnckaaGreatDoor
open Go.RowKit Go.Shelf Go.Joins
open Num Tab Fm Txt
set_option linter.unusedVariables false
theorem text_lw : ptext 48 ⟨4, 2, 0, 65532⟩ = [108, 119, 32, 36, 50, 44, 32, 45, 52, 40, 36, 52, 41] := by
  have e4 : Lib.itoa (-4) = [45, 52] := by rw [show (-4 : Int) = -((4 : Nat) : Int) by decide, itoa_min 4 (by omega), Lib.decDigits_one (by omega)]; rfl
  have e2 : Lib.itoa 2 = [50] := by rw [show (2 : Int) = ((2 : Nat) : Int) by decide, itoa_pos 2, Lib.decDigits_one (by omega)]; rfl
  have e5 : Lib.itoa 4 = [52] := by rw [show (4 : Int) = ((4 : Nat) : Int) by decide, itoa_pos 4, Lib.decDigits_one (by omega)]; rfl
  have hf : form 48 = [32, 36, 84, 44, 32, 105, 40, 36, 83, 41] := by decide
  have hn : nme 48 = [108, 119] := by decide
  have hs : s16 65532 = -4 := by decide
  unfold ptext
  rw [hf, hn]
  simp [rend, numB, regB, vl, hs, e4, e2, e5]
set_option maxHeartbeats 1000000 in
theorem texted_any (pk pb : Addr) (w : World) (T : Tb pk pb w) (b : Lb w) : Calls Tryz.prog 7 #[] w fun e w' => e = .returned (.bool true) ∧ Below w.heap.size w w' := by
  have hc := text_ok pk pb 48 (by omega) (by omega) 4 2 0 65532 (by omega) (by omega) (by omega) (by omega) (by omega) (by omega) (by omega) (by omega) (by decide) w T b
  rw [text_lw] at hc
  clear T b
  go_enter Tryz.func7, Tryz.ntmps7
  go_wp2_with (go_at_call 8; refine hc.mono ?_; rintro e w1 ⟨rfl, hb1⟩)
  go_ret
  exact ⟨rfl, hb1⟩
theorem coded_at (S : Nat → Addr) (k : Nat) (hk : k < 10) (c : Int) (hc : (k : Int) + 1 = c) (w : World) (EE : Errs S w) : Calls Tryz.prog 10 #[.iface 210 (.pointer (some (S k))), .int .i64 c] w fun e w' => e = .returned (.bool true) ∧ Below w.heap.size w w' :=
  coded_bare S (S k) k c w EE (Or.inl ⟨hk, rfl⟩) (EE.row k hk) (by unfold num; rw [if_pos hk]; exact hc)
structure IAt (B : Nat) (w : World) (o s t d m : Int) : Prop where
  i0 : w.cell? ⟨B, 0, none⟩ = some (.int .i64 o)
  i1 : w.cell? ⟨B, 1, none⟩ = some (.int .i64 s)
  i2 : w.cell? ⟨B, 2, none⟩ = some (.int .i64 t)
  i3 : w.cell? ⟨B, 3, none⟩ = some (.int .i64 d)
  i4 : w.cell? ⟨B, 4, none⟩ = some (.int .u32 m)
theorem IAt.stays {B C : Nat} {w w' : World} {o s t d m : Int} (z : IAt B w o s t d m) (h : Below C w w') (hC : w.heap.size ≤ C) : IAt B w' o s t d m :=
  ⟨cell_stays h hC z.i0, cell_stays h hC z.i1, cell_stays h hC z.i2, cell_stays h hC z.i3, cell_stays h hC z.i4⟩
theorem IAt.alloc (w : World) (o s t d m : Int) : IAt w.heap.size (w.alloc (.cells #[.int .i64 o, .int .i64 s, .int .i64 t, .int .i64 d, .int .u32 m] 24)) o s t d m :=
  ⟨by simp, by simp, by simp, by simp, by simp⟩
/-- what stands in the memory while the walk goes -/
structure TI (S : Nat → Addr) (w wr : World) : Prop where
  er : Errs S wr
  tb : Tb (S 3) (S 1) wr
  lb : Lb wr
  bel : Below w.heap.size w wr
theorem TI.grow {S : Nat → Addr} {w wr w1 : World} (E : TI S w wr) (h : Below wr.heap.size wr w1) : TI S w w1 :=
  ⟨E.er.stays h, E.tb.stays h (Nat.le_refl _), E.lb.stays h (Nat.le_refl _), E.bel.trans (h.mono E.bel.size)⟩
theorem TI.alloc {S : Nat → Addr} {w wr : World} (E : TI S w wr) (o : Obj) : TI S w (wr.alloc o) := E.grow ((Below.refl _ _).alloc (Nat.le_refl _) _)
/-- the text of an instruction, the document's number, and that they agree -/
theorem text_all (S : Nat → Addr) (o s t d m : Int) (m0 : 0 ≤ m) (m1 : m < 4294967296) (s0 : -9223372036854775808 ≤ s) (s1 : s ≤ 9223372036854775807) (t0 : -9223372036854775808 ≤ t) (t1 : t ≤ 9223372036854775807) (d0 : -9223372036854775808 ≤ d) (d1 : d ≤ 9223372036854775807) :
    ∃ (x : List UInt8) (ev : Value) (c z : Int), (∀ w, Tb (S 3) (S 1) w → Lb w → Calls Tryz.prog 8 #[ins o s t d m] w fun e w' => e = .returned (.tuple #[.string ⟨x.toArray⟩, ev]) ∧ Below w.heap.size w w') ∧
      (∀ w, Calls Tryz.prog 9 #[ins o s t d m] w fun e w' => e = .returned (.tuple #[.int .u32 z, .int .i64 c]) ∧ Below w.heap.size w w') ∧
      (∀ w, Errs S w → Calls Tryz.prog 10 #[ev, .int .i64 c] w fun e w' => e = .returned (.bool true) ∧ Below w.heap.size w w') ∧
      ((c = 0 ∧ ∃ k : Nat, o = k ∧ 1 ≤ k ∧ k < 54 ∧ okB (sh k) s t d m = true ∧ x = ptext k ⟨s, t, d, m⟩) ∨ (0 < c ∧ x = [])) := by
  by_cases ho : 0 < o ∧ o < 54
  · obtain ⟨k, rfl⟩ : ∃ k : Nat, o = k := ⟨o.toNat, by omega⟩
    cases hok : okB (sh k) s t d m with
    | true =>
      refine ⟨ptext k ⟨s, t, d, m⟩, .nilIface, 0, enc k s t d m, fun w T b => text_ok (S 3) (S 1) k (by omega) (by omega) s t d m m0 m1 s0 s1 t0 t1 d0 d1 hok w T b, fun w => ?_, fun w _ => (coded_nil w).mono fun e w' ⟨h1, h2⟩ => ⟨h1, by rw [h2]; exact Below.refl _ _⟩, Or.inl ⟨rfl, k, rfl, by omega, by omega, hok, rfl⟩⟩
      have := encodeOf_in k (by omega) (by omega) s t d m m0 m1 w
      rwa [encO_ok hok] at this
    | false =>
      refine ⟨[], .iface 210 (.pointer (some (S 1))), 2, 0, fun w T b => text_bound (S 3) (S 1) k (by omega) (by omega) s t d m m0 m1 s0 s1 t0 t1 d0 d1 hok w T, fun w => ?_, fun w E => coded_bound S w E, Or.inr ⟨by omega, rfl⟩⟩
      have := encodeOf_in k (by omega) (by omega) s t d m m0 m1 w
      rwa [encO_bad hok] at this
  · exact ⟨[], .iface 210 (.pointer (some (S 3))), 4, 0, fun w T b => text_kind (S 3) (S 1) o s t d m ho w T, fun w => encodeOf_out o s t d m ho w, fun w E => coded_kind S w E, Or.inr ⟨by omega, rfl⟩⟩
theorem textOf_all (k : Nat) (h1 : 1 ≤ k) (hk : k < 54) (s t d m : Int) (ok : okB (sh k) s t d m = true) (m0 : 0 ≤ m) (w : World) :
    Calls Tryz.prog 12 #[ins k s t d m] w fun e w' => e = .returned (.string ⟨(ptext k ⟨s, t, d, m⟩).toArray⟩) ∧ Below w.heap.size w w' := by
  rcases Int.lt_or_le m 32768 with h | h
  · exact textOf_lo k h1 hk s t d m ok m0 h w
  · exact textOf_hi k h1 hk s t d m ok m0 h w
end Go.Proofs.YtccnliihdhnckaaGreatDoor
