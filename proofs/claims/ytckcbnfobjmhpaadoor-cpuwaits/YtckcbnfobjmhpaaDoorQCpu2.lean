/-
  What a step reckons.
-/
import Derived.Test.YtckcbnfobjmhpaaDoorQWord2
import Derived.Test.YtckcbnfobjmhpaaDoorQCpuPure
namespace Go.Proofs.YtckcbnfobjmhpaaDoor
open Go.RowKit Go.Maps
open Num
set_option linter.unusedVariables false
theorem bitC_any (x : Bool) (w : World) : Calls Tryd.prog 115 #[.bool x] w fun e w' => e = .returned (.int .u32 (bitI x)) ∧ w' = w := by
  cases x <;> (go_enter Tryd.func115, Tryd.ntmps115; go_wp2; go_ret; exact ⟨rfl, rfl⟩)
section
variable {w : World} {pb sb bb : Nat} {S : St} {k s t d : Nat} {m : Int}
set_option maxHeartbeats 4000000 in
theorem bitsOf_any (c : Cp w pb sb bb S k s t d m) (a b : Int) (ha : u32 a) (hb : u32 b) (hk : k = 23 ∨ k = 39 ∨ k = 24 ∨ k = 40 ∨ k = 25 ∨ k = 41 ∨ k = 26 ∨ k = 27 ∨ k = 37 ∨ k = 28 ∨ k = 38 ∨ k = 1 ∨ k = 4 ∨ k = 2 ∨ k = 5 ∨ k = 3 ∨ k = 6 ∨ k = 42) :
    Calls Tryd.prog 109 #[.pointer (some ⟨pb, 0, none⟩), .int .u32 a, .int .u32 b] w fun e w' => e = .returned (.int .u32 (bitsI k a b)) ∧ w' = w := by
  have p1 := c.p.p1
  clear c
  obtain ⟨a0, a1⟩ := ha
  obtain ⟨b0, b1⟩ := hb
  rcases hk with rfl | rfl | rfl | rfl | rfl | rfl | rfl | rfl | rfl | rfl | rfl | rfl | rfl | rfl | rfl | rfl | rfl | rfl <;>
    (go_enter Tryd.func109, Tryd.ntmps109
     go_wp2_with (first | (go_at_call 100; refine (less_any _ _ _ a0 a1 b0 b1 _).mono ?_; rintro e w' ⟨rfl, rfl⟩) | (go_at_call 115; refine (bitC_any _ _).mono ?_; rintro e w' ⟨rfl, rfl⟩) | (go_at_call 56; refine (shift_any _ _ _ (by assumption) (by assumption) (by omega) _).mono ?_; rintro e w' ⟨rfl, rfl⟩))
     go_ret
     exact ⟨rfl, rfl⟩)
set_option maxHeartbeats 4000000 in
theorem taken_any (c : Cp w pb sb bb S k s t d m) (hk : k = 31 ∨ k = 32 ∨ k = 33 ∨ k = 34 ∨ k = 29 ∨ k = 30 ∨ k = 7 ∨ k = 8) : Calls Tryd.prog 76 #[.pointer (some ⟨pb, 0, none⟩)] w fun e w' => e = .returned (.bool (takenI S k s t)) ∧ ∃ n, w' = w.drewN n := by
  have p0 := c.p.p0
  have p1 := c.p.p1
  have p2 := c.p.p2
  have p3 := c.p.p3
  have qs := c.a.reg c.hs
  have qt := c.a.reg c.ht
  have hs : (s : Int) < 32 := by have := c.hs; omega
  have ht : (t : Int) < 32 := by have := c.ht; omega
  obtain ⟨r0, r1⟩ := c.ok.r s
  clear c
  rcases hk with rfl | rfl | rfl | rfl | rfl | rfl | rfl | rfl
  case inl | inr.inl =>
    all_goals
      go_enter Tryd.func76, Tryd.ntmps76
      go_wp2
      go_quiet (fail)
      go_wp2
      have x0 : (w.drewN nq).cell? ⟨pb, 0, none⟩ = _ := p0
      have x3 : (w.drewN nq).cell? ⟨pb, 3, none⟩ = _ := p3
      have xt : (w.drewN nq).cell? ⟨sb, t, none⟩ = _ := qt
      have hn : ∃ n, w.drewN nq = w.drewN n := ⟨nq, rfl⟩
      generalize w.drewN nq = w1 at *
      clear p0 p1 p2 p3 qs qt
      go_quiet (fail)
      go_wp2
      go_ret
      obtain ⟨n, rfl⟩ := hn
      exact ⟨rfl, _, World.drewN_drewN _ _ _⟩
  all_goals
    (go_enter Tryd.func76, Tryd.ntmps76
     go_wp2
     go_quiet (fail)
     go_wp2_with (go_at_call 100; refine (less_any _ _ _ (by omega) (by omega) r0 r1 _).mono ?_; rintro e w' ⟨rfl, rfl⟩)
     go_ret
     exact ⟨rfl, _, rfl⟩)
set_option maxHeartbeats 4000000 in
theorem resC_any (c : Cp w pb sb bb S k s t d m) (a b : Int) (ha : u32 a) (hb : u32 b) (hk : k = 19 ∨ k = 35 ∨ k = 21 ∨ k = 20 ∨ k = 36 ∨ k = 22 ∨ k = 11 ∨ k = 13 ∨ k = 23 ∨ k = 39 ∨ k = 24 ∨ k = 40 ∨ k = 25 ∨ k = 41 ∨ k = 26 ∨ k = 27 ∨ k = 37 ∨ k = 28 ∨ k = 38 ∨ k = 1 ∨ k = 4 ∨ k = 2 ∨ k = 5 ∨ k = 3 ∨ k = 6 ∨ k = 42) :
    Calls Tryd.prog 90 #[.pointer (some ⟨pb, 0, none⟩), .int .u32 a, .int .u32 b] w fun e w' => e = .returned (.tuple #[.int .u32 (resI S k a b), .bool (overI k a b)]) ∧ w' = w := by
  have hbi := fun h => bitsOf_any c a b ha hb h
  have p0 := c.p.p0
  have p1 := c.p.p1
  obtain ⟨q32, q33, _⟩ := c.a.told
  clear c
  obtain ⟨a0, a1⟩ := ha
  obtain ⟨b0, b1⟩ := hb
  unfold resI Num.lo
  rcases hk with rfl | rfl | rfl | rfl | rfl | rfl | rfl | rfl | rfl | rfl | rfl | rfl | rfl | rfl | rfl | rfl | rfl | rfl | rfl | rfl | rfl | rfl | rfl | rfl | rfl | rfl <;>
    (go_enter Tryd.func90, Tryd.ntmps90
     go_wp2_with (first | (go_at_call 107; refine (add_any _ _ a0 a1 b0 b1 _).mono ?_; rintro e w' ⟨rfl, rfl⟩) | (go_at_call 108; refine (sub_any _ _ a0 a1 b0 b1 _).mono ?_; rintro e w' ⟨rfl, rfl⟩) | (go_at_call 109; refine (hbi (by decide)).mono ?_; rintro e w' ⟨rfl, rfl⟩))
     go_ret2
     exact ⟨rfl, rfl⟩)
end
end Go.Proofs.YtckcbnfobjmhpaaDoor
