/-
  What a step reckons.
-/
import Derived.Test.YtlibfnmdhbfngaaDoorCpuPure
import Derived.Test.YtlibfnmdhbfngaaDoorWord2
namespace Go.Proofs.YtlibfnmdhbfngaaDoor
open Go.RowKit Go.Maps
open Num
set_option linter.unusedVariables false
theorem bit_any (x : Bool) (w : World) : Calls Tryd.prog 75 #[.bool x] w fun e w' => e = .returned (.int .u32 (bitI x)) ∧ w' = w := by
  cases x <;> (go_enter Tryd.func75, Tryd.ntmps75; go_wp2; go_ret; exact ⟨rfl, rfl⟩)
section
variable {w : World} {pb sb bb : Nat} {S : St} {k s t d : Nat} {m : Int}
set_option maxHeartbeats 4000000 in
theorem bitsOf_any (c : Cp w pb sb bb S k s t d m) (a b : Int) (ha : u32 a) (hb : u32 b) (hk : k = 23 ∨ k = 39 ∨ k = 24 ∨ k = 40 ∨ k = 25 ∨ k = 41 ∨ k = 26 ∨ k = 27 ∨ k = 37 ∨ k = 28 ∨ k = 38 ∨ k = 1 ∨ k = 4 ∨ k = 2 ∨ k = 5 ∨ k = 3 ∨ k = 6 ∨ k = 42) :
    Calls Tryd.prog 73 #[.pointer (some ⟨pb, 0, none⟩), .int .u32 a, .int .u32 b] w fun e w' => e = .returned (.int .u32 (bitsI k a b)) ∧ w' = w := by
  have p1 := c.p.p1
  clear c
  obtain ⟨a0, a1⟩ := ha
  obtain ⟨b0, b1⟩ := hb
  rcases hk with rfl | rfl | rfl | rfl | rfl | rfl | rfl | rfl | rfl | rfl | rfl | rfl | rfl | rfl | rfl | rfl | rfl | rfl <;>
    (go_enter Tryd.func73, Tryd.ntmps73
     go_wp2_with (first | (go_at_call 65; refine (less_any _ _ _ a0 a1 b0 b1 _).mono ?_; rintro e w' ⟨rfl, rfl⟩) | (go_at_call 75; refine (bit_any _ _).mono ?_; rintro e w' ⟨rfl, rfl⟩) | (go_at_call 29; refine (shift_any _ _ _ (by assumption) (by assumption) (by omega) _).mono ?_; rintro e w' ⟨rfl, rfl⟩))
     go_ret
     exact ⟨rfl, rfl⟩)
set_option maxHeartbeats 4000000 in
theorem bytes_any (c : Cp w pb sb bb S k s t d m) (hk : 46 ≤ k ∧ k ≤ 53) : Calls Tryd.prog 51 #[.pointer (some ⟨pb, 0, none⟩)] w fun e w' => e = .returned (.tuple #[.int .i64 (szI k), .bool (sgI k)]) ∧ ∃ n, w' = w.drewN n := by
  have p1 := c.p.p1
  clear c
  have h : k = 46 ∨ k = 47 ∨ k = 48 ∨ k = 49 ∨ k = 50 ∨ k = 51 ∨ k = 52 ∨ k = 53 := by omega
  clear hk
  rcases h with rfl | rfl | rfl | rfl | rfl | rfl | rfl | rfl <;>
    (go_enter Tryd.func51, Tryd.ntmps51
     go_wp2
     first
       | (go_ret2; exact ⟨rfl, 0, rfl⟩)
       | (go_quiet (fail); go_wp2; go_ret2; exact ⟨rfl, _, rfl⟩))
set_option maxHeartbeats 4000000 in
theorem address_any (c : Cp w pb sb bb S k s t d m) : Calls Tryd.prog 50 #[.pointer (some ⟨pb, 0, none⟩)] w fun e w' => e = .returned (.int .u32 (adI S k s m)) ∧ ∃ n, w' = w.drewN n := by
  have hi := fun n => imm_any (c.drewN n)
  have p0 := c.p.p0
  have p2 := c.p.p2
  have qs := c.a.reg c.hs
  have hs : (s : Int) < 32 := by have := c.hs; omega
  obtain ⟨r0, r1⟩ := c.ok.r s
  obtain ⟨i0, i1⟩ := immI_bd (k := k) c.m0 c.m1
  unfold adI Num.lo
  clear c
  go_enter Tryd.func50, Tryd.ntmps50
  go_wp2
  go_quiet ((go_at_call 66; exact Calls.quiet_of_same (hi _)))
  go_wp2
  go_ret
  exact ⟨rfl, nq, rfl⟩
set_option maxHeartbeats 4000000 in
theorem taken_any (c : Cp w pb sb bb S k s t d m) (hk : k = 31 ∨ k = 32 ∨ k = 33 ∨ k = 34 ∨ k = 29 ∨ k = 30 ∨ k = 7 ∨ k = 8) : Calls Tryd.prog 47 #[.pointer (some ⟨pb, 0, none⟩)] w fun e w' => e = .returned (.bool (takenI S k s t)) ∧ ∃ n, w' = w.drewN n := by
  have p0 := c.p.p0
  have p1 := c.p.p1
  have p2 := c.p.p2
  have p3 := c.p.p3
  have qs := c.a.reg c.hs
  have qt := c.a.reg c.ht
  have hs : (s : Int) < 32 := by have := c.hs; omega
  have ht : (t : Int) < 32 := by have := c.ht; omega
  obtain ⟨r0, r1⟩ := c.ok.r s
  clear c
  rcases hk with rfl | rfl | rfl | rfl | rfl | rfl | rfl | rfl
  case inl | inr.inl =>
    all_goals
      go_enter Tryd.func47, Tryd.ntmps47
      go_wp2
      go_quiet (fail)
      go_wp2
      have x0 : (w.drewN nq).cell? ⟨pb, 0, none⟩ = _ := p0
      have x3 : (w.drewN nq).cell? ⟨pb, 3, none⟩ = _ := p3
      have xt : (w.drewN nq).cell? ⟨sb, t, none⟩ = _ := qt
      have hn : ∃ n, w.drewN nq = w.drewN n := ⟨nq, rfl⟩
      generalize w.drewN nq = w1 at *
      clear p0 p1 p2 p3 qs qt
      go_quiet (fail)
      go_wp2
      go_ret
      obtain ⟨n, rfl⟩ := hn
      exact ⟨rfl, _, World.drewN_drewN _ _ _⟩
  all_goals
    (go_enter Tryd.func47, Tryd.ntmps47
     go_wp2
     go_quiet (fail)
     go_wp2_with (go_at_call 65; refine (less_any _ _ _ (by omega) (by omega) r0 r1 _).mono ?_; rintro e w' ⟨rfl, rfl⟩)
     go_ret
     exact ⟨rfl, _, rfl⟩)
set_option maxHeartbeats 4000000 in
theorem target_any (c : Cp w pb sb bb S k s t d m) (hk : k = 31 ∨ k = 32 ∨ k = 33 ∨ k = 34 ∨ k = 29 ∨ k = 30 ∨ k = 7 ∨ k = 8) : Calls Tryd.prog 48 #[.pointer (some ⟨pb, 0, none⟩)] w fun e w' => e = .returned (.int .u32 (targI S k s m)) ∧ ∃ n, w' = w.drewN n := by
  have hi := imm_any c
  have p0 := c.p.p0
  have p1 := c.p.p1
  have p2 := c.p.p2
  have p5 := c.p.p5
  have q34 := c.a.told.2.2.1
  have qs := c.a.reg c.hs
  have hs : (s : Int) < 32 := by have := c.hs; omega
  obtain ⟨r0, r1⟩ := c.ok.r s
  obtain ⟨pc0, pc1⟩ := c.ok.pc
  obtain ⟨i0, i1⟩ := immI_bd (k := k) c.m0 c.m1
  have m0 := c.m0
  have m1 := c.m1
  clear c
  unfold targI Num.lo
  rcases hk with rfl | rfl | rfl | rfl | rfl | rfl | rfl | rfl <;>
    (go_enter Tryd.func48, Tryd.ntmps48
     go_wp2_with (go_at_call 66; refine hi.mono ?_; rintro e w' ⟨rfl, rfl⟩)
     first
       | (go_ret; exact ⟨rfl, 0, rfl⟩)
       | (go_quiet (fail); go_wp2; go_ret; exact ⟨rfl, _, rfl⟩))
set_option maxHeartbeats 4000000 in
theorem result_any (c : Cp w pb sb bb S k s t d m) (a b : Int) (ha : u32 a) (hb : u32 b) (hk : k = 19 ∨ k = 35 ∨ k = 21 ∨ k = 20 ∨ k = 36 ∨ k = 22 ∨ k = 11 ∨ k = 13 ∨ k = 23 ∨ k = 39 ∨ k = 24 ∨ k = 40 ∨ k = 25 ∨ k = 41 ∨ k = 26 ∨ k = 27 ∨ k = 37 ∨ k = 28 ∨ k = 38 ∨ k = 1 ∨ k = 4 ∨ k = 2 ∨ k = 5 ∨ k = 3 ∨ k = 6 ∨ k = 42) :
    Calls Tryd.prog 61 #[.pointer (some ⟨pb, 0, none⟩), .int .u32 a, .int .u32 b] w fun e w' => e = .returned (.tuple #[.int .u32 (resI S k a b), .bool (overI k a b)]) ∧ w' = w := by
  have hbi := fun h => bitsOf_any c a b ha hb h
  have p0 := c.p.p0
  have p1 := c.p.p1
  obtain ⟨q32, q33, _⟩ := c.a.told
  clear c
  obtain ⟨a0, a1⟩ := ha
  obtain ⟨b0, b1⟩ := hb
  unfold resI Num.lo
  rcases hk with rfl | rfl | rfl | rfl | rfl | rfl | rfl | rfl | rfl | rfl | rfl | rfl | rfl | rfl | rfl | rfl | rfl | rfl | rfl | rfl | rfl | rfl | rfl | rfl | rfl | rfl <;>
    (go_enter Tryd.func61, Tryd.ntmps61
     go_wp2_with (first | (go_at_call 71; refine (add_any _ _ a0 a1 b0 b1 _).mono ?_; rintro e w' ⟨rfl, rfl⟩) | (go_at_call 72; refine (sub_any _ _ a0 a1 b0 b1 _).mono ?_; rintro e w' ⟨rfl, rfl⟩) | (go_at_call 73; refine (hbi (by decide)).mono ?_; rintro e w' ⟨rfl, rfl⟩))
     go_ret2
     exact ⟨rfl, rfl⟩)
set_option maxHeartbeats 4000000 in
theorem int_any (c : Cp w pb sb bb S k s t d m) : Calls Tryd.prog 30 #[.pointer (some ⟨pb, 0, none⟩)] w fun e w' => e = .returned (.bool (intB S)) ∧ ∃ n, w' = w.drewN n := by
  have p0 := c.p.p0
  obtain ⟨_, _, _, _, _, q37, _, _, _, q41, q42⟩ := c.a.told
  obtain ⟨cm0, cm1⟩ := c.ok.cm
  have c0 := c.ok.c0
  have c1 := c.ok.c1
  clear c
  unfold intB
  by_cases h1 : S.cm = 0
  · have b1 : (S.cm != 0) = false := by simp [h1]
    have e : (decide (S.cm ≠ 0) && decide (S.cm ≤ S.ct) && decide (bits .and .u32 S.st 3 = 1)) = false := by simp [h1]
    rw [e]
    clear e
    go_enter Tryd.func30, Tryd.ntmps30
    go_wp2
    go_quiet (fail)
    go_wp2
    go_ret
    exact ⟨rfl, _, rfl⟩
  · have b1 : (S.cm != 0) = true := by simpa using h1
    by_cases h2 : S.cm ≤ S.ct
    · have b2 : decide (S.cm ≤ S.ct) = true := by simpa using h2
      have e : (decide (S.cm ≠ 0) && decide (S.cm ≤ S.ct) && decide (bits .and .u32 S.st 3 = 1)) = (bits .and .u32 S.st 3 == 1) := by rw [show decide (S.cm ≠ 0) = true by simpa using h1, b2]; rfl
      rw [e]
      clear e h1
      go_enter Tryd.func30, Tryd.ntmps30
      go_wp2
      go_quiet (fail)
      go_wp2
      go_ret
      exact ⟨rfl, _, rfl⟩
    · have b2 : decide (S.cm ≤ S.ct) = false := by simpa using h2
      have e : (decide (S.cm ≠ 0) && decide (S.cm ≤ S.ct) && decide (bits .and .u32 S.st 3 = 1)) = false := by rw [b2]; simp
      rw [e]
      clear e h1
      go_enter Tryd.func30, Tryd.ntmps30
      go_wp2
      go_quiet (fail)
      go_wp2
      go_ret
      exact ⟨rfl, _, rfl⟩
end
end Go.Proofs.YtlibfnmdhbfngaaDoor
