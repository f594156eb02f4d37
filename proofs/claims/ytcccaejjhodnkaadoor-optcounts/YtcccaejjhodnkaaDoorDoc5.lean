/-
  The document's OpError.
-/
import Derived.Test.YtcccaejjhodnkaaDoorDoc2
namespace Go.Proofs.YtcccaejjhodnkaaDoor
open Go.RowKit
open Num
set_option linter.unusedVariables false
set_option maxHeartbeats 1000000 in
theorem isSize_any (n : Int) (ld : Bool) (w : World) : Calls Tryd.prog 89 #[.int .i64 n, .bool ld] w fun e w' => e = .returned (.bool (alw (if ld = true then 3 else 4) n)) ∧ w' = w := by
  cases ld with
  | false =>
    have e0 : Hid (alw 4 n = ((n == 1) || (n == 2) || (n == 4))) := by show _ = _; unfold alw; rw [Bool.eq_iff_iff]; simp; omega
    show Calls _ _ _ _ fun e w' => e = .returned (.bool (alw 4 n)) ∧ w' = w
    by_cases h1 : n = 1
    · subst h1
      go_enter Tryd.func89, Tryd.ntmps89
      go_wp2
      go_ret
      exact ⟨by rw [e0.out]; rfl, rfl⟩
    by_cases h2 : n = 2
    · subst h2
      go_enter Tryd.func89, Tryd.ntmps89
      go_wp2
      go_ret
      exact ⟨by rw [e0.out]; rfl, rfl⟩
    by_cases h4 : n = 4
    · subst h4
      go_enter Tryd.func89, Tryd.ntmps89
      go_wp2
      go_ret
      exact ⟨by rw [e0.out]; rfl, rfl⟩
    have g1 : (n == 1) = false := by simpa using h1
    have g2 : (n == 2) = false := by simpa using h2
    have g4 : (n == 4) = false := by simpa using h4
    have e1 : Hid (alw 4 n = false) := by show _ = _; rw [e0.out, g1, g2, g4]; rfl
    clear h1 h2 h4
    go_enter Tryd.func89, Tryd.ntmps89
    go_wp2
    go_ret
    exact ⟨by rw [e1.out]; simp, rfl⟩
  | true =>
    have e0 : Hid (alw 3 n = ((n == 1) || (n == 2) || (n == 4) || (n == -1) || (n == -2))) := by show _ = _; unfold alw; rw [Bool.eq_iff_iff]; simp; omega
    show Calls _ _ _ _ fun e w' => e = .returned (.bool (alw 3 n)) ∧ w' = w
    by_cases h1 : n = 1
    · subst h1
      go_enter Tryd.func89, Tryd.ntmps89
      go_wp2
      go_ret
      exact ⟨by rw [e0.out]; rfl, rfl⟩
    by_cases h2 : n = 2
    · subst h2
      go_enter Tryd.func89, Tryd.ntmps89
      go_wp2
      go_ret
      exact ⟨by rw [e0.out]; rfl, rfl⟩
    by_cases h4 : n = 4
    · subst h4
      go_enter Tryd.func89, Tryd.ntmps89
      go_wp2
      go_ret
      exact ⟨by rw [e0.out]; rfl, rfl⟩
    by_cases hm1 : n = -1
    · subst hm1
      go_enter Tryd.func89, Tryd.ntmps89
      go_wp2
      go_ret
      exact ⟨by rw [e0.out]; rfl, rfl⟩
    by_cases hm2 : n = -2
    · subst hm2
      go_enter Tryd.func89, Tryd.ntmps89
      go_wp2
      go_ret
      exact ⟨by rw [e0.out]; rfl, rfl⟩
    have g1 : (n == 1) = false := by simpa using h1
    have g2 : (n == 2) = false := by simpa using h2
    have g4 : (n == 4) = false := by simpa using h4
    have gm1 : (n == -1) = false := by simpa using hm1
    have gm2 : (n == -2) = false := by simpa using hm2
    have e1 : Hid (alw 3 n = false) := by show _ = _; rw [e0.out, g1, g2, g4, gm1, gm2]; rfl
    clear h1 h2 h4 hm1 hm2
    go_enter Tryd.func89, Tryd.ntmps89
    go_wp2
    go_ret
    exact ⟨by rw [e1.out]; simp, rfl⟩
/-- six cells of an op in a box -/
structure BoxOd (W : World) (x : Nat) (o : Opx) : Prop where
  c0 : W.cell? ⟨x, 0, none⟩ = some (.string o.s)
  c1 : W.cell? ⟨x, 1, none⟩ = some (.int .i64 o.d)
  c2 : W.cell? ⟨x, 2, none⟩ = some (.int .i64 o.a)
  c3 : W.cell? ⟨x, 3, none⟩ = some (.int .i64 o.b)
  c4 : W.cell? ⟨x, 4, none⟩ = some (.int .u32 o.i)
  c5 : W.cell? ⟨x, 5, none⟩ = some (.int .i64 o.t)
theorem BoxOd.new (w : World) (o : Opx) : BoxOd (w.alloc (.cells #[.string o.s, .int .i64 o.d, .int .i64 o.a, .int .i64 o.b, .int .u32 o.i, .int .i64 o.t] 60)) w.heap.size o := ⟨bcD, bcD, bcD, bcD, bcD, bcD⟩
theorem opE_2 {o : Opx} {many : Int} (h0 : o.k ≠ 0) (h : bndB o many = false) : opE o many = 2 := by unfold opE; rw [if_neg h0, if_pos h]
theorem opE_3 {o : Opx} {many : Int} (h0 : o.k ≠ 0) (h : bndB o many = true) (h2 : shpB o = false) : opE o many = 3 := by unfold opE; rw [if_neg h0, if_neg (by rw [h]; simp), if_pos h2]
theorem opE_0 {o : Opx} {many : Int} (h0 : o.k ≠ 0) (h : bndB o many = true) (h2 : shpB o = true) : opE o many = 0 := by unfold opE; rw [if_neg h0, if_neg (by rw [h]; simp), if_neg (by rw [h2]; simp)]
end Go.Proofs.YtcccaejjhodnkaaDoor
