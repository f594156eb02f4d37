/-
  Instructions that are the same.
-/
import Derived.Test.YtckcbnfobjmhpaaDoorForm
namespace Go.Proofs.YtckcbnfobjmhpaaDoor
open Go.RowKit Go.Maps
open Num
set_option linter.unusedVariables false
/-- instructions from a place of memory on lie in a block -/
def InsAt (w : World) (g o : Nat) (f : Nat → Int) (n : Nat) : Prop := ∀ i q, i < n → q < 5 → w.cell? ⟨g, o + i * 5 + q, none⟩ = (insC (f i))[q]?
theorem InsAt.stays {w w' : World} {g o n : Nat} {f : Nat → Int} (h : InsAt w g o f n) (hn : 0 < n) (hb : Below w.heap.size w w') : InsAt w' g o f n := fun i q hi hq => by
  have h0 := h i q hi hq
  have : ∃ u, (insC (f i))[q]? = some u := ⟨_, List.getElem?_eq_getElem (by simpa [insC] using hq)⟩
  obtain ⟨u, hu⟩ := this
  rw [hu] at h0 ⊢
  exact K.cell_stays hb (Nat.le_refl _) h0
theorem InsAt.drewN {w : World} {g o n : Nat} {f : Nat → Int} (h : InsAt w g o f n) (k : Nat) : InsAt (w.drewN k) g o f n := h
theorem InsAt.of_row {w : World} {base g : Nat} {pc : Int} {m : Nat → Int} {n c : Nat} (h : w.ownsRow base 65 5 (.slice (some ⟨g, 0, none⟩) n c) n (insL m pc n)) : InsAt w g 0 (wAt m pc) n := fun i q hi hq => by
  have : ∃ u, (insC (wAt m pc i))[q]? = some u := ⟨_, List.getElem?_eq_getElem (by simpa [insC] using hq)⟩
  obtain ⟨u, hu⟩ := this
  have h1 := h.cells (g := g) rfl (i * 5 + q) u (by rw [insL_get m pc n i q hi hq]; exact hu)
  rw [add_lit] at h1
  rw [hu, Nat.zero_add]; exact h1
theorem InsAt.part {w : World} {g o n : Nat} {f : Nat → Int} (h : InsAt w g o f n) (a k : Nat) (hk : a + k ≤ n) : InsAt w g (o + a * 5) (fun i => f (a + i)) k := fun i q hi hq => by
  have := h (a + i) q (by omega) hq
  rw [← this]; congr 2; rw [Nat.add_mul]; omega
set_option maxRecDepth 100000 in
set_option maxHeartbeats 4000000 in
theorem sameIns_eq (w : World) (ga oa gb ob n ca cb : Nat) (f : Nat → Int) (hn : n ≤ 10000) (ha : InsAt w ga oa f n) (hb : InsAt w gb ob f n) :
    Calls Tryd.prog 27 #[.slice (some ⟨ga, oa, none⟩) n ca, .slice (some ⟨gb, ob, none⟩) n cb] w fun e w' => e = .returned (.bool true) ∧ ∃ k, w' = w.drewN k := by
  have hn' : (n : Int) ≤ 10000 := by omega
  go_enter Tryd.func27, Tryd.ntmps27
  go_wp2
  go_loopw [5] (fun i wr => ∃ j q : Nat, j ≤ n ∧ i = .int .i64 j ∧ wr = w.drewN q) (fun i _ => n - (intOf i).toNat)
  case atStart => exact ⟨0, 0, Nat.zero_le _, rfl, rfl⟩
  case round =>
    obtain ⟨j, q, hj, rfl, rfl⟩ := hrel
    by_cases hlt : j < n
    · have a0 := ha j 0 hlt (by omega)
      have a1 := ha j 1 hlt (by omega)
      have a2 := ha j 2 hlt (by omega)
      have a3 := ha j 3 hlt (by omega)
      have a4 := ha j 4 hlt (by omega)
      have b0 := hb j 0 hlt (by omega)
      have b1 := hb j 1 hlt (by omega)
      have b2 := hb j 2 hlt (by omega)
      have b3 := hb j 3 hlt (by omega)
      have b4 := hb j 4 hlt (by omega)
      have hlt' : (j : Int) < n := by omega
      clear ha hb
      simp only [insC, List.getElem?_cons_zero, List.getElem?_cons_succ, Nat.add_zero] at a0 a1 a2 a3 a4 b0 b1 b2 b3 b4
      generalize Tab.xs (Tab.sh (decK (f j))) (f j) = i1 at *
      generalize Tab.xt (Tab.sh (decK (f j))) (f j) = i2 at *
      generalize Tab.xd (Tab.sh (decK (f j))) (f j) = i3 at *
      generalize Tab.xm (Tab.sh (decK (f j))) (f j) = i4 at *
      generalize decK (f j) = i0 at *
      go_wp2_with fail
      go_quiet (fail)
      go_wp2
      go_roundw
      case rel => exact ⟨j + 1, q + nq, by omega, by go_num, by simp⟩
      case measure => simp [intOf]; omega
    · clear ha hb
      go_wp2
      go_ret
      exact ⟨rfl, q, rfl⟩
theorem sameIns_nil (w : World) (pa pb : Option Addr) (ca cb : Nat) :
    Calls Tryd.prog 27 #[.slice pa 0 ca, .slice pb 0 cb] w fun e w' => e = .returned (.bool true) ∧ w' = w := by
  go_enter Tryd.func27, Tryd.ntmps27
  go_wp2
  go_loopw [5] (fun i wr => i = .int .i64 0 ∧ wr = w) (fun _ _ => 0)
  case atStart => exact ⟨rfl, rfl⟩
  case round =>
    obtain ⟨rfl, rfl⟩ := hrel
    go_wp2
    go_ret
    exact ⟨rfl, rfl⟩
end Go.Proofs.YtckcbnfobjmhpaaDoor
