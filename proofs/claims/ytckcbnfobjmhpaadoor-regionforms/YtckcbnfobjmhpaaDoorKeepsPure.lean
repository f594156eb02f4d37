/-
  What was stored is loaded; what other memory keeps.
-/
import Derived.Test.YtckcbnfobjmhpaaDoorPartsWalk
namespace Go.Proofs.YtckcbnfobjmhpaaDoor
open Go.RowKit Go.Maps
open Num
set_option linter.unusedVariables false
theorem stw_take (x v P S : Int) (hP : 1 ≤ P) (hS : 1 ≤ S) : stw x v P S / P % S = v % S := by
  have e : stw x v P S = x % P + P * (x / (P * S) * S + v % S) := by
    unfold stw
    rw [Int.mul_add, ← Int.mul_assoc P, Int.mul_comm P (x / (P * S)), Int.mul_assoc, Int.mul_comm P (v % S)]
    omega
  rw [e, Int.add_mul_ediv_left _ _ (show P ≠ 0 by omega), Int.ediv_eq_zero_of_lt (Int.emod_nonneg _ (by omega)) (Int.emod_lt_of_pos _ (by omega)), Int.zero_add, Int.add_comm, Int.add_mul_emod_self_right]
  exact Int.emod_emod_of_dvd _ (Int.dvd_refl _)
theorem ld_upd (m : Nat → Int) (a s v : Int) (hc : chk a s = 0) : ld (upd m a s v) a s false = v % 2 ^ (8 * s).toNat := by
  obtain ⟨hs, hm, hf⟩ := chk_ok hc
  unfold ld
  rw [wd_u (by omega) (by omega)]
  unfold upd
  rw [if_pos rfl]
  exact stw_take _ _ _ _ (Int.pow_pos (by omega)) (Int.pow_pos (by omega))
theorem upd_other (m : Nat → Int) (a s v : Int) (i : Nat) (h : i ≠ (a / 4).toNat) : upd m a s v i = m i := by
  unfold upd; rw [if_neg h]
theorem Turned.cell {w w' : World} {b c : Nat} (t : Turned w w' b c) {A : Addr} {v : Value} (h : w.cell? A = some v) (n1 : A.block ≠ b) (n2 : A.block ≠ c) : w'.cell? A = some v :=
  (World.cell?_of_block (t.block _ (World.block_lt_of_cell? _ _ h) n1 n2)).trans h
theorem RamIs.turned {w w' : World} {sb bp bw bh N b c : Nat} {m : Nat → Int} {wt ht : Int → Bool} (R : RamIs w sb bp bw bh N m wt ht) (t : Turned w w' b c) (s1 : sb ≠ b) (s2 : sb ≠ c) (p1 : bp ≠ b) (p2 : bp ≠ c) (w1 : bw ≠ b) (w2 : bw ≠ c) (h1 : bh ≠ b) (h2 : bh ≠ c) : RamIs w' sb bp bw bh N m wt ht := by
  refine ⟨t.cell R.c0 s1 s2, t.cell R.c1 s1 s2, t.cell R.c2 s1 s2, R.pw, R.ph, R.wh, R.sp, R.sh, ?_, ?_, ?_, R.mb⟩
  · obtain ⟨D, ⟨es, clock, hb, r⟩, h⟩ := R.ps
    exact ⟨D, ⟨es, clock, (t.block _ (Array.getElem?_eq_some_iff.1 hb).1 p1 p2).trans hb, r⟩, h⟩
  · obtain ⟨D, ⟨es, clock, hb, r⟩, h⟩ := R.ws
    exact ⟨D, ⟨es, clock, (t.block _ (Array.getElem?_eq_some_iff.1 hb).1 w1 w2).trans hb, r⟩, h⟩
  · obtain ⟨D, ⟨es, clock, hb, r⟩, h⟩ := R.hs
    exact ⟨D, ⟨es, clock, (t.block _ (Array.getElem?_eq_some_iff.1 hb).1 h1 h2).trans hb, r⟩, h⟩
/-- a list of words in memory -/
def WordsAt (w : World) (g : Nat) (m : Nat → Int) : Prop := ∀ i, i < 4096 → w.cell? ⟨g, 0 + i, none⟩ = some (.int .u32 (m i))
theorem WordsAt.stays {w w' : World} {g : Nat} {m : Nat → Int} (X : WordsAt w g m) (h : Below w.heap.size w w') : WordsAt w' g m :=
  fun i hi => by rw [h.cell (World.block_lt_of_cell? _ _ (X i hi))]; exact X i hi
theorem WordsAt.turned {w w' : World} {g b c : Nat} {m : Nat → Int} (X : WordsAt w g m) (t : Turned w w' b c) (h1 : g ≠ b) (h2 : g ≠ c) : WordsAt w' g m :=
  fun i hi => t.cell (X i hi) h1 h2
theorem WordsAt.drewN {w : World} {g : Nat} {m : Nat → Int} (X : WordsAt w g m) (n : Nat) : WordsAt (w.drewN n) g m := X
theorem WordsAt.lt {w : World} {g : Nat} {m : Nat → Int} (X : WordsAt w g m) : g < w.heap.size := World.block_lt_of_cell? _ _ (X 0 (by omega))
theorem words_at {w : World} {sb bp bw bh N : Nat} {m : Nat → Int} {wt ht : Int → Bool} (R : RamIs w sb bp bw bh N m wt ht) :
    Calls Tryd.prog 18 #[.pointer (some ⟨sb, 0, none⟩)] w fun e w' => ∃ g : Nat, e = .returned (.slice (some ⟨g, 0, none⟩) 4096 4096) ∧ WordsAt w' g m ∧ Below w.heap.size w w' ∧ w.heap.size ≤ g :=
  (words_any R).mono fun e w' ⟨h1, h2, h3⟩ => ⟨_, h1, fun i hi => by rw [Nat.zero_add]; exact h2 i hi, h3, Nat.le_refl _⟩
theorem alike_at {w : World} {g g' : Nat} {m : Nat → Int} (X : WordsAt w g m) (Y : WordsAt w g' m) :
    Calls Tryd.prog 16 #[.slice (some ⟨g, 0, none⟩) 4096 4096, .slice (some ⟨g', 0, none⟩) 4096 4096] w fun e w' => e = .returned (.int .i64 1) ∧ ∃ k, w' = w.drewN k :=
  alike_eq w g 0 g' 0 4096 4096 4096 m (by decide) X Y
end Go.Proofs.YtckcbnfobjmhpaaDoor
