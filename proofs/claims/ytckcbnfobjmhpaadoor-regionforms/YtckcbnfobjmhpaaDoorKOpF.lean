/-
  What package code's search for an operation answers: the one whose first word is what tells a word, or none.
-/
import Derived.Test.YtckcbnfobjmhpaaDoorKOper
import Derived.Test.YtckcbnfobjmhpaaDoorKFns2
import Derived.Test.YtckcbnfobjmhpaaDoorKCode
import Derived.Test.YtckcbnfobjmhpaaDoorKBits
import Derived.Handy
namespace Go.Proofs.YtckcbnfobjmhpaaDoor.K
open Go.RowKit Go.Extern.Stop Go.Stop Go.Extern
open Num Tab
set_option linter.unusedVariables false
set_option maxHeartbeats 1000000 in
theorem clos_any (b : Nat) (key : Int) (j : Nat) (hj : j < 53) (w : World) (t : FT w) (hc : w.cell? ⟨b, 0, none⟩ = some (.int .u32 key)) :
    Calls Tryd.prog 99 #[.int .i64 j, .pointer (some ⟨b, 0, none⟩)] w fun e w' => e = .returned (.bool (decide (key ≤ fst (1 + j)))) ∧ ∃ n, w' = w.drewN n := by
  have g := t (1 + j) (by omega)
  have HT : Hid (FT w) := t
  clear t
  have j0 : (0 : Int) ≤ j := by omega
  have j1 : (j : Int) < 53 := by omega
  go_enter Tryd.func99, Tryd.ntmps99
  go_wp2_with fail
  go_region
  go_wp2
  go_ret
  exact ⟨rfl, 1, rfl⟩
set_option maxHeartbeats 2000000 in
theorem search_any (b : Nat) (key : Int) (w : World) (t : FT w) (hc : w.cell? ⟨b, 0, none⟩ = some (.int .u32 key)) :
    Calls Tryd.prog 98 #[.int .i64 53, .func (.func 99) #[] #[.pointer (some ⟨b, 0, none⟩)]] w fun e w' => ∃ r : Nat, e = .returned (.int .i64 r) ∧ r ≤ 53 ∧ (∀ x, x < r → fst (1 + x) < key) ∧ (∀ x, r ≤ x → x < 53 → key ≤ fst (1 + x)) ∧ ∃ n, w' = w.drewN n := by
  have HT : Hid (FT w) := t
  clear t
  go_enter Tryd.func98, Tryd.ntmps98
  go_wp2
  go_loopw [5, 6] (fun i j wr => ∃ p q : Nat, i = .int .i64 p ∧ j = .int .i64 q ∧ p ≤ q ∧ q ≤ 53 ∧ Hid ((∀ x, x < p → fst (1 + x) < key) ∧ (∀ x, q ≤ x → x < 53 → key ≤ fst (1 + x))) ∧ ∃ n, wr = w.drewN n) (fun i j _ => (intOf j).toNat - (intOf i).toNat)
  case atStart => exact ⟨0, 53, rfl, rfl, by omega, by omega, ⟨fun x hx => by omega, fun x h1 h2 => by omega⟩, 0, rfl⟩
  case round =>
    obtain ⟨p, q, rfl, rfl, hpq, hq, HI, n, rfl⟩ := hrel
    by_cases hlt : (p : Int) < q
    · go_wp2_with fail
      obtain ⟨m, hm, hm1, hm2⟩ : ∃ m : Nat, ((p : Int) + q) / 2 = m ∧ p ≤ m ∧ m < q := ⟨(p + q) / 2, by omega, by omega, by omega⟩
      rw [hm]
      clear hm
      refine (clos_any b key m (by omega) _ (FT.drewN HT.out n) (by simpa using hc)).mono ?_
      rintro e w1 ⟨rfl, n1, rfl⟩
      by_cases hk : key ≤ fst (1 + m)
      · go_wp2
        go_roundw
        case rel => exact ⟨p, m, rfl, rfl, hm1, by omega, ⟨HI.out.1, fun x h1 h2 => Int.le_trans hk (fst_mono x h2 m h1)⟩, n + n1, by simp⟩
        case measure => simp [intOf]; omega
      · have hk' : decide (key ≤ fst (1 + m)) = false := by simpa using hk
        go_wp2
        go_roundw
        case rel => exact ⟨m + 1, q, by go_num, rfl, by omega, hq, ⟨fun x h1 => by have := fst_mono m (by omega) x (by omega); omega, HI.out.2⟩, n + n1, by simp⟩
        case measure => simp [intOf]; omega
    · have e : p = q := by omega
      subst e
      go_wp2
      go_ret
      exact ⟨p, rfl, hq, HI.out.1, HI.out.2, n, rfl⟩
set_option maxHeartbeats 4000000 in
/-- from the search on -/
theorem oper_any (v : Int) (h0 : 0 ≤ v) (h1 : v < 4294967296) (w : World) (t : FT w) :
    Calls Tryd.prog 75 #[.int .u32 v] w fun e w' => ∃ k : Nat, e = .returned (.int .i64 k) ∧ IsOp (key v) k ∧ Below w.heap.size w w' := by
  have g1 : w.cell? ⟨2, 1, none⟩ = some (.int .u32 0) := t 1 (by omega)
  have g43 : w.cell? ⟨2, 43, none⟩ = some (.int .u32 1073741824) := t 43 (by omega)
  have hz : 2 < w.heap.size := cell_lt g1
  have HT : Hid (FT w) := t
  clear t
  have e1 := and_major v h0 h1
  have e2 := and_mm v h0 h1
  have e3 := and_msm v h0 h1
  have hmf : ∀ (fn : Fn) (first cap : Array Value) (w : World), (Instr.makeFunc fn first cap).run Tryd.prog w = .ok (.func fn first cap) w := fun _ _ _ _ => rfl
  by_cases c0 : v / 67108864 = 0
  · have hk : Hid (key v = v % 64) := by show key v = _; unfold key; rw [if_pos c0]
    rw [c0] at e1 e2 e3
    simp only [Int.zero_mul, Int.zero_add] at e1 e2 e3
    generalize hK : v % 64 = K at *
    clear e3 c0 hK
    go_enter Tryd.func75, Tryd.ntmps75
    go_wp2_with fail
    have hbA : Below w.heap.size w (w.alloc (.cells #[.int .u32 K] 23)) := (Below.refl _ _).alloc (Nat.le_refl _) _
    have HA := FT.stays HT.out hbA (Nat.le_refl _)
    refine (search_any w.heap.size K _ HA (by simp)).mono ?_
    rintro e w1 ⟨r, rfl, hr, i1, i2, n, rfl⟩
    have I : Hid ((∀ x, x < r → fst (1 + x) < K) ∧ (∀ x, r ≤ x → x < 53 → K ≤ fst (1 + x))) := ⟨i1, i2⟩
    clear i1 i2
    have hr0 : (0 : Int) ≤ r := by omega
    have hr1 : (r : Int) ≤ 53 := by omega
    by_cases hq : r = 53
    · have hg : ((1 : Int) + r == 54) = true := by simp; omega
      go_wp2_with fail
      go_quiet (fail)
      go_wp2
      go_ret
      refine ⟨0, rfl, ?_, by first | exact below_drewN (below_drewN hbA _) _ | exact (below_drewN hbA _).drew | exact below_drewN hbA _⟩
      rw [hk.out]; exact isOp_of K r hr I.out.1 I.out.2 (Or.inl hq)
    · have hg : ((1 : Int) + r == 54) = false := by simp; omega
      have hr2 : (r : Int) < 53 := by omega
      have hc : w.cell? ⟨2, 1 + r, none⟩ = some (.int .u32 (fst (1 + r))) := HT.out (1 + r) (by omega)
      by_cases he : fst (1 + r) = K
      · have hn : (fst (1 + r) != K) = false := by simpa using he
        go_wp2_with fail
        go_region
        go_wp2
        go_ret
        refine ⟨1 + r, by go_num, ?_, by first | exact below_drewN (below_drewN hbA _) _ | exact (below_drewN hbA _).drew | exact below_drewN hbA _⟩
        rw [hk.out]; exact Or.inl ⟨by omega, by omega, he⟩
      · have hn : (fst (1 + r) != K) = true := by simpa using he
        go_wp2_with fail
        go_region
        go_wp2
        go_ret
        refine ⟨0, rfl, ?_, by first | exact below_drewN (below_drewN hbA _) _ | exact (below_drewN hbA _).drew | exact below_drewN hbA _⟩
        rw [hk.out]; exact isOp_of K r hr I.out.1 I.out.2 (Or.inr he)
  by_cases c1 : v / 67108864 = 16
  · have hk : Hid (key v = 1073741824 + v / 2097152 % 32 * 2097152 + v % 64) := by show key v = _; unfold key; rw [if_neg c0, if_pos c1]
    rw [c1] at e1 e2 e3
    replace e1 : bits .and .u32 v 4227858432 = 1073741824 := by omega
    replace e3 : bits .and .u32 v 4292870207 = 1073741824 + v / 2097152 % 32 * 2097152 + v % 64 := by omega
    generalize hK : 1073741824 + v / 2097152 % 32 * 2097152 + v % 64 = K at *
    clear e2 c0 c1 hK
    go_enter Tryd.func75, Tryd.ntmps75
    go_wp2_with fail
    have hbA : Below w.heap.size w (w.alloc (.cells #[.int .u32 K] 23)) := (Below.refl _ _).alloc (Nat.le_refl _) _
    have HA := FT.stays HT.out hbA (Nat.le_refl _)
    refine (search_any w.heap.size K _ HA (by simp)).mono ?_
    rintro e w1 ⟨r, rfl, hr, i1, i2, n, rfl⟩
    have I : Hid ((∀ x, x < r → fst (1 + x) < K) ∧ (∀ x, r ≤ x → x < 53 → K ≤ fst (1 + x))) := ⟨i1, i2⟩
    clear i1 i2
    have hr0 : (0 : Int) ≤ r := by omega
    have hr1 : (r : Int) ≤ 53 := by omega
    by_cases hq : r = 53
    · have hg : ((1 : Int) + r == 54) = true := by simp; omega
      go_wp2_with fail
      go_quiet (fail)
      go_wp2
      go_ret
      refine ⟨0, rfl, ?_, by first | exact below_drewN (below_drewN hbA _) _ | exact (below_drewN hbA _).drew | exact below_drewN hbA _⟩
      rw [hk.out]; exact isOp_of K r hr I.out.1 I.out.2 (Or.inl hq)
    · have hg : ((1 : Int) + r == 54) = false := by simp; omega
      have hr2 : (r : Int) < 53 := by omega
      have hc : w.cell? ⟨2, 1 + r, none⟩ = some (.int .u32 (fst (1 + r))) := HT.out (1 + r) (by omega)
      by_cases he : fst (1 + r) = K
      · have hn : (fst (1 + r) != K) = false := by simpa using he
        go_wp2_with fail
        go_region
        go_wp2
        go_ret
        refine ⟨1 + r, by go_num, ?_, by first | exact below_drewN (below_drewN hbA _) _ | exact (below_drewN hbA _).drew | exact below_drewN hbA _⟩
        rw [hk.out]; exact Or.inl ⟨by omega, by omega, he⟩
      · have hn : (fst (1 + r) != K) = true := by simpa using he
        go_wp2_with fail
        go_region
        go_wp2
        go_ret
        refine ⟨0, rfl, ?_, by first | exact below_drewN (below_drewN hbA _) _ | exact (below_drewN hbA _).drew | exact below_drewN hbA _⟩
        rw [hk.out]; exact isOp_of K r hr I.out.1 I.out.2 (Or.inr he)
  · have hk : Hid (key v = v / 67108864 * 67108864) := by show key v = _; unfold key; rw [if_neg c0, if_neg c1]
    have q0 : (v / 67108864 * 67108864 == 0) = false := by simp; omega
    have q1 : (v / 67108864 * 67108864 == 1073741824) = false := by simp; omega
    generalize hK : v / 67108864 * 67108864 = K at *
    clear e2 e3 c0 c1 hK
    go_enter Tryd.func75, Tryd.ntmps75
    go_wp2_with fail
    have hbA : Below w.heap.size w (w.alloc (.cells #[.int .u32 K] 23)) := (Below.refl _ _).alloc (Nat.le_refl _) _
    have HA := FT.stays HT.out hbA (Nat.le_refl _)
    refine (search_any w.heap.size K _ HA (by simp)).mono ?_
    rintro e w1 ⟨r, rfl, hr, i1, i2, n, rfl⟩
    have I : Hid ((∀ x, x < r → fst (1 + x) < K) ∧ (∀ x, r ≤ x → x < 53 → K ≤ fst (1 + x))) := ⟨i1, i2⟩
    clear i1 i2
    have hr0 : (0 : Int) ≤ r := by omega
    have hr1 : (r : Int) ≤ 53 := by omega
    by_cases hq : r = 53
    · have hg : ((1 : Int) + r == 54) = true := by simp; omega
      go_wp2_with fail
      go_quiet (fail)
      go_wp2
      go_ret
      refine ⟨0, rfl, ?_, by first | exact below_drewN (below_drewN hbA _) _ | exact (below_drewN hbA _).drew | exact below_drewN hbA _⟩
      rw [hk.out]; exact isOp_of K r hr I.out.1 I.out.2 (Or.inl hq)
    · have hg : ((1 : Int) + r == 54) = false := by simp; omega
      have hr2 : (r : Int) < 53 := by omega
      have hc : w.cell? ⟨2, 1 + r, none⟩ = some (.int .u32 (fst (1 + r))) := HT.out (1 + r) (by omega)
      by_cases he : fst (1 + r) = K
      · have hn : (fst (1 + r) != K) = false := by simpa using he
        go_wp2_with fail
        go_region
        go_wp2
        go_ret
        refine ⟨1 + r, by go_num, ?_, by first | exact below_drewN (below_drewN hbA _) _ | exact (below_drewN hbA _).drew | exact below_drewN hbA _⟩
        rw [hk.out]; exact Or.inl ⟨by omega, by omega, he⟩
      · have hn : (fst (1 + r) != K) = true := by simpa using he
        go_wp2_with fail
        go_region
        go_wp2
        go_ret
        refine ⟨0, rfl, ?_, by first | exact below_drewN (below_drewN hbA _) _ | exact (below_drewN hbA _).drew | exact below_drewN hbA _⟩
        rw [hk.out]; exact isOp_of K r hr I.out.1 I.out.2 (Or.inr he)
end Go.Proofs.YtckcbnfobjmhpaaDoor.K

