/-
  Fields laid into a word letter by letter, in whole numbers: no Go in sight.
-/
import Derived.Test.YtccnliihdhnckaaGreatDoorKAny
namespace Go.Proofs.YtccnliihdhnckaaGreatDoor
open Tab
set_option linter.unusedVariables false
/-- is a letter among the first p of a shape's -/
def inL (n p : Nat) (c : UInt8) : Bool := ((lt n).take p).contains c
/-- the word so far -/
def eacc (k : Nat) (s t d m : Int) (p : Nat) : Int := fst k + (if inL (sh k) p 83 then s * 2097152 else 0) + (if inL (sh k) p 84 then t * 65536 else 0) + (if inL (sh k) p 68 then d * 2048 else 0) + (if inL (sh k) p 97 then m * 64 else 0) + (if inL (sh k) p 105 || inL (sh k) p 106 then m else 0)
/-- the fields so far are well -/
def egood (n : Nat) (s t d m : Int) (p : Nat) : Prop := (inL n p 83 = true → 0 ≤ s ∧ s < 32) ∧ (inL n p 84 = true → 0 ≤ t ∧ t < 32) ∧ (inL n p 68 = true → 0 ≤ d ∧ d < 32) ∧ (inL n p 97 = true → m < 32) ∧ (inL n p 105 = true → m < 65536) ∧ (inL n p 106 = true → m < 67108864)
/-- what is left of the fields -/
def zS (n p : Nat) (s : Int) : Int := if inL n p 83 then 0 else s
def zT (n p : Nat) (t : Int) : Int := if inL n p 84 then 0 else t
def zD (n p : Nat) (d : Int) : Int := if inL n p 68 then 0 else d
def zM (n p : Nat) (m : Int) : Int := if inL n p 97 || inL n p 105 || inL n p 106 then 0 else m
theorem eacc_0 (k : Nat) (s t d m : Int) : eacc k s t d m 0 = fst k := by simp [eacc, inL]
theorem egood_0 (n : Nat) (s t d m : Int) : egood n s t d m 0 := by simp [egood, inL]
set_option maxHeartbeats 4000000 in
theorem step83 (k : Nat) (hk : k < 54) (h1 : 1 ≤ k) (s t d m : Int) (hm : 0 ≤ m) (p : Nat) (hp : p < (lt (sh k)).length) (hc : (lt (sh k))[p] = 83) (hg : egood (sh k) s t d m p) (v0 : 0 ≤ s) (v1 : s < 32) :
    bits .or .u32 (eacc k s t d m p) (s * 2097152) = eacc k s t d m (p + 1) ∧ egood (sh k) s t d m (p + 1) ∧ zS (sh k) (p + 1) s = 0 ∧ zT (sh k) (p + 1) t = zT (sh k) p t ∧ zD (sh k) (p + 1) d = zD (sh k) p d ∧ zM (sh k) (p + 1) m = zM (sh k) p m ∧ 0 ≤ eacc k s t d m p ∧ eacc k s t d m p < 4294967296 := by
  have hf := fit_all k hk
  have hn := sh_all k hk
  have h45 := sh_45 k hk
  unfold eacc
  unfold fitB at hf
  generalize fst k = f at hf ⊢
  generalize mj k = M at hf
  generalize mn k = N at hf
  generalize sh k = n at *
  have hcs : n = 0 ∨ n = 1 ∨ n = 2 ∨ n = 3 ∨ n = 4 ∨ n = 5 ∨ n = 6 ∨ n = 7 ∨ n = 8 ∨ n = 9 ∨ n = 10 ∨ n = 11 := by omega
  clear hn
  have hpp : p = 0 ∨ p = 1 ∨ p = 2 ∨ 3 ≤ p := by omega
  rcases hcs with rfl | rfl | rfl | rfl | rfl | rfl | rfl | rfl | rfl | rfl | rfl | rfl <;>
    rcases hpp with rfl | rfl | rfl | hpp <;>
    simp [lt, ltL] at hp hc <;>
    simp [hasI, hasJ, lt, ltL, egood, inL, zS, zT, zD, zM] at hf hg h45 ⊢ <;>
    (try split at hf) <;> (try simp at hf) <;> (try (exfalso; omega)) <;>
    (have A : ∀ x : Int, 0 ≤ x → x < 4294967296 → x % 67108864 < 2097152 → bits .or .u32 x (s * 2097152) = x + s * 2097152 := fun x x0 x1 x2 => by
       have := or_int x s 21 5 2097152 67108864 (by decide) (by decide) x0 x1 (by omega) (by omega) (by omega) (by omega)
       simpa using this) <;>
    (rw [A _ (by omega) (by omega) (by omega)]) <;>
    (repeat' apply And.intro) <;> (try intros) <;> (try omega)
set_option maxHeartbeats 4000000 in
theorem step84 (k : Nat) (hk : k < 54) (h1 : 1 ≤ k) (s t d m : Int) (hm : 0 ≤ m) (p : Nat) (hp : p < (lt (sh k)).length) (hc : (lt (sh k))[p] = 84) (hg : egood (sh k) s t d m p) (v0 : 0 ≤ t) (v1 : t < 32) :
    bits .or .u32 (eacc k s t d m p) (t * 65536) = eacc k s t d m (p + 1) ∧ egood (sh k) s t d m (p + 1) ∧ zS (sh k) (p + 1) s = zS (sh k) p s ∧ zT (sh k) (p + 1) t = 0 ∧ zD (sh k) (p + 1) d = zD (sh k) p d ∧ zM (sh k) (p + 1) m = zM (sh k) p m ∧ 0 ≤ eacc k s t d m p ∧ eacc k s t d m p < 4294967296 := by
  have hf := fit_all k hk
  have hn := sh_all k hk
  have h45 := sh_45 k hk
  unfold eacc
  unfold fitB at hf
  generalize fst k = f at hf ⊢
  generalize mj k = M at hf
  generalize mn k = N at hf
  generalize sh k = n at *
  have hcs : n = 0 ∨ n = 1 ∨ n = 2 ∨ n = 3 ∨ n = 4 ∨ n = 5 ∨ n = 6 ∨ n = 7 ∨ n = 8 ∨ n = 9 ∨ n = 10 ∨ n = 11 := by omega
  clear hn
  have hpp : p = 0 ∨ p = 1 ∨ p = 2 ∨ 3 ≤ p := by omega
  rcases hcs with rfl | rfl | rfl | rfl | rfl | rfl | rfl | rfl | rfl | rfl | rfl | rfl <;>
    rcases hpp with rfl | rfl | rfl | hpp <;>
    simp [lt, ltL] at hp hc <;>
    simp [hasI, hasJ, lt, ltL, egood, inL, zS, zT, zD, zM] at hf hg h45 ⊢ <;>
    (try split at hf) <;> (try simp at hf) <;> (try (exfalso; omega)) <;>
    (have A : ∀ x : Int, 0 ≤ x → x < 4294967296 → x % 2097152 < 65536 → bits .or .u32 x (t * 65536) = x + t * 65536 := fun x x0 x1 x2 => by
       have := or_int x t 16 5 65536 2097152 (by decide) (by decide) x0 x1 (by omega) (by omega) (by omega) (by omega)
       simpa using this) <;>
    (rw [A _ (by omega) (by omega) (by omega)]) <;>
    (repeat' apply And.intro) <;> (try intros) <;> (try omega)
set_option maxHeartbeats 4000000 in
theorem step68 (k : Nat) (hk : k < 54) (h1 : 1 ≤ k) (s t d m : Int) (hm : 0 ≤ m) (p : Nat) (hp : p < (lt (sh k)).length) (hc : (lt (sh k))[p] = 68) (hg : egood (sh k) s t d m p) (v0 : 0 ≤ d) (v1 : d < 32) :
    bits .or .u32 (eacc k s t d m p) (d * 2048) = eacc k s t d m (p + 1) ∧ egood (sh k) s t d m (p + 1) ∧ zS (sh k) (p + 1) s = zS (sh k) p s ∧ zT (sh k) (p + 1) t = zT (sh k) p t ∧ zD (sh k) (p + 1) d = 0 ∧ zM (sh k) (p + 1) m = zM (sh k) p m ∧ 0 ≤ eacc k s t d m p ∧ eacc k s t d m p < 4294967296 := by
  have hf := fit_all k hk
  have hn := sh_all k hk
  have h45 := sh_45 k hk
  unfold eacc
  unfold fitB at hf
  generalize fst k = f at hf ⊢
  generalize mj k = M at hf
  generalize mn k = N at hf
  generalize sh k = n at *
  have hcs : n = 0 ∨ n = 1 ∨ n = 2 ∨ n = 3 ∨ n = 4 ∨ n = 5 ∨ n = 6 ∨ n = 7 ∨ n = 8 ∨ n = 9 ∨ n = 10 ∨ n = 11 := by omega
  clear hn
  have hpp : p = 0 ∨ p = 1 ∨ p = 2 ∨ 3 ≤ p := by omega
  rcases hcs with rfl | rfl | rfl | rfl | rfl | rfl | rfl | rfl | rfl | rfl | rfl | rfl <;>
    rcases hpp with rfl | rfl | rfl | hpp <;>
    simp [lt, ltL] at hp hc <;>
    simp [hasI, hasJ, lt, ltL, egood, inL, zS, zT, zD, zM] at hf hg h45 ⊢ <;>
    (try split at hf) <;> (try simp at hf) <;> (try (exfalso; omega)) <;>
    (have A : ∀ x : Int, 0 ≤ x → x < 4294967296 → x % 65536 < 2048 → bits .or .u32 x (d * 2048) = x + d * 2048 := fun x x0 x1 x2 => by
       have := or_int x d 11 5 2048 65536 (by decide) (by decide) x0 x1 (by omega) (by omega) (by omega) (by omega)
       simpa using this) <;>
    (rw [A _ (by omega) (by omega) (by omega)]) <;>
    (repeat' apply And.intro) <;> (try intros) <;> (try omega)
set_option maxHeartbeats 4000000 in
theorem step97 (k : Nat) (hk : k < 54) (h1 : 1 ≤ k) (s t d m : Int) (hm : 0 ≤ m) (p : Nat) (hp : p < (lt (sh k)).length) (hc : (lt (sh k))[p] = 97) (hg : egood (sh k) s t d m p) (v0 : 0 ≤ m) (v1 : m < 32) :
    bits .or .u32 (eacc k s t d m p) (m * 64) = eacc k s t d m (p + 1) ∧ egood (sh k) s t d m (p + 1) ∧ zS (sh k) (p + 1) s = zS (sh k) p s ∧ zT (sh k) (p + 1) t = zT (sh k) p t ∧ zD (sh k) (p + 1) d = zD (sh k) p d ∧ zM (sh k) (p + 1) m = 0 ∧ 0 ≤ eacc k s t d m p ∧ eacc k s t d m p < 4294967296 := by
  have hf := fit_all k hk
  have hn := sh_all k hk
  have h45 := sh_45 k hk
  unfold eacc
  unfold fitB at hf
  generalize fst k = f at hf ⊢
  generalize mj k = M at hf
  generalize mn k = N at hf
  generalize sh k = n at *
  have hcs : n = 0 ∨ n = 1 ∨ n = 2 ∨ n = 3 ∨ n = 4 ∨ n = 5 ∨ n = 6 ∨ n = 7 ∨ n = 8 ∨ n = 9 ∨ n = 10 ∨ n = 11 := by omega
  clear hn
  have hpp : p = 0 ∨ p = 1 ∨ p = 2 ∨ 3 ≤ p := by omega
  rcases hcs with rfl | rfl | rfl | rfl | rfl | rfl | rfl | rfl | rfl | rfl | rfl | rfl <;>
    rcases hpp with rfl | rfl | rfl | hpp <;>
    simp [lt, ltL] at hp hc <;>
    simp [hasI, hasJ, lt, ltL, egood, inL, zS, zT, zD, zM] at hf hg h45 ⊢ <;>
    (try split at hf) <;> (try simp at hf) <;> (try (exfalso; omega)) <;>
    (have A : ∀ x : Int, 0 ≤ x → x < 4294967296 → x % 2048 < 64 → bits .or .u32 x (m * 64) = x + m * 64 := fun x x0 x1 x2 => by
       have := or_int x m 6 5 64 2048 (by decide) (by decide) x0 x1 (by omega) (by omega) (by omega) (by omega)
       simpa using this) <;>
    (rw [A _ (by omega) (by omega) (by omega)]) <;>
    (repeat' apply And.intro) <;> (try intros) <;> (try omega)
set_option maxHeartbeats 4000000 in
theorem step105 (k : Nat) (hk : k < 54) (h1 : 1 ≤ k) (s t d m : Int) (hm : 0 ≤ m) (p : Nat) (hp : p < (lt (sh k)).length) (hc : (lt (sh k))[p] = 105) (hg : egood (sh k) s t d m p) (v0 : 0 ≤ m) (v1 : m < 65536) :
    bits .or .u32 (eacc k s t d m p) (m) = eacc k s t d m (p + 1) ∧ egood (sh k) s t d m (p + 1) ∧ zS (sh k) (p + 1) s = zS (sh k) p s ∧ zT (sh k) (p + 1) t = zT (sh k) p t ∧ zD (sh k) (p + 1) d = zD (sh k) p d ∧ zM (sh k) (p + 1) m = 0 ∧ 0 ≤ eacc k s t d m p ∧ eacc k s t d m p < 4294967296 := by
  have hf := fit_all k hk
  have hn := sh_all k hk
  have h45 := sh_45 k hk
  unfold eacc
  unfold fitB at hf
  generalize fst k = f at hf ⊢
  generalize mj k = M at hf
  generalize mn k = N at hf
  generalize sh k = n at *
  have hcs : n = 0 ∨ n = 1 ∨ n = 2 ∨ n = 3 ∨ n = 4 ∨ n = 5 ∨ n = 6 ∨ n = 7 ∨ n = 8 ∨ n = 9 ∨ n = 10 ∨ n = 11 := by omega
  clear hn
  have hpp : p = 0 ∨ p = 1 ∨ p = 2 ∨ 3 ≤ p := by omega
  rcases hcs with rfl | rfl | rfl | rfl | rfl | rfl | rfl | rfl | rfl | rfl | rfl | rfl <;>
    rcases hpp with rfl | rfl | rfl | hpp <;>
    simp [lt, ltL] at hp hc <;>
    simp [hasI, hasJ, lt, ltL, egood, inL, zS, zT, zD, zM] at hf hg h45 ⊢ <;>
    (try split at hf) <;> (try simp at hf) <;> (try (exfalso; omega)) <;>
    (have A : ∀ x : Int, 0 ≤ x → x < 4294967296 → x % 65536 < 1 → bits .or .u32 x (m) = x + m := fun x x0 x1 x2 => by
       have := or_int x m 0 16 1 65536 (by decide) (by decide) x0 x1 (by omega) (by omega) (by omega) (by omega)
       simpa using this) <;>
    (rw [A _ (by omega) (by omega) (by omega)]) <;>
    (repeat' apply And.intro) <;> (try intros) <;> (try omega)
set_option maxHeartbeats 4000000 in
theorem step106 (k : Nat) (hk : k < 54) (h1 : 1 ≤ k) (s t d m : Int) (hm : 0 ≤ m) (p : Nat) (hp : p < (lt (sh k)).length) (hc : (lt (sh k))[p] = 106) (hg : egood (sh k) s t d m p) (v0 : 0 ≤ m) (v1 : m < 67108864) :
    bits .or .u32 (eacc k s t d m p) (m) = eacc k s t d m (p + 1) ∧ egood (sh k) s t d m (p + 1) ∧ zS (sh k) (p + 1) s = zS (sh k) p s ∧ zT (sh k) (p + 1) t = zT (sh k) p t ∧ zD (sh k) (p + 1) d = zD (sh k) p d ∧ zM (sh k) (p + 1) m = 0 ∧ 0 ≤ eacc k s t d m p ∧ eacc k s t d m p < 4294967296 := by
  have hf := fit_all k hk
  have hn := sh_all k hk
  have h45 := sh_45 k hk
  unfold eacc
  unfold fitB at hf
  generalize fst k = f at hf ⊢
  generalize mj k = M at hf
  generalize mn k = N at hf
  generalize sh k = n at *
  have hcs : n = 0 ∨ n = 1 ∨ n = 2 ∨ n = 3 ∨ n = 4 ∨ n = 5 ∨ n = 6 ∨ n = 7 ∨ n = 8 ∨ n = 9 ∨ n = 10 ∨ n = 11 := by omega
  clear hn
  have hpp : p = 0 ∨ p = 1 ∨ p = 2 ∨ 3 ≤ p := by omega
  rcases hcs with rfl | rfl | rfl | rfl | rfl | rfl | rfl | rfl | rfl | rfl | rfl | rfl <;>
    rcases hpp with rfl | rfl | rfl | hpp <;>
    simp [lt, ltL] at hp hc <;>
    simp [hasI, hasJ, lt, ltL, egood, inL, zS, zT, zD, zM] at hf hg h45 ⊢ <;>
    (try split at hf) <;> (try simp at hf) <;> (try (exfalso; omega)) <;>
    (have A : ∀ x : Int, 0 ≤ x → x < 4294967296 → x % 67108864 < 1 → bits .or .u32 x (m) = x + m := fun x x0 x1 x2 => by
       have := or_int x m 0 26 1 67108864 (by decide) (by decide) x0 x1 (by omega) (by omega) (by omega) (by omega)
       simpa using this) <;>
    (rw [A _ (by omega) (by omega) (by omega)]) <;>
    (repeat' apply And.intro) <;> (try intros) <;> (try omega)
theorem good_end (n : Nat) (hn : n < 12) (s t d m : Int) (hm : 0 ≤ m) (hg : egood n s t d m (lt n).length) : okB n s t d m = (decide (zS n (lt n).length s = 0) && decide (zT n (lt n).length t = 0) && decide (zD n (lt n).length d = 0) && decide (zM n (lt n).length m = 0)) := by
  have hcs : n = 0 ∨ n = 1 ∨ n = 2 ∨ n = 3 ∨ n = 4 ∨ n = 5 ∨ n = 6 ∨ n = 7 ∨ n = 8 ∨ n = 9 ∨ n = 10 ∨ n = 11 := by omega
  clear hn
  rcases hcs with rfl | rfl | rfl | rfl | rfl | rfl | rfl | rfl | rfl | rfl | rfl | rfl <;>
    simp [lt, ltL, egood, inL] at hg <;>
    simp [okB, well, hasS, hasT, hasD, hasA, hasI, hasJ, top, lt, ltL, zS, zT, zD, zM, inL] <;>
    (try rw [Bool.eq_iff_iff]) <;> (try simp) <;> (try omega)
theorem eacc_end (k : Nat) (s t d m : Int) (hk : k < 54) (hz : okB (sh k) s t d m = true) (hm : 0 ≤ m) : eacc k s t d m (lt (sh k)).length = enc k s t d m := by
  have hn := sh_all k hk
  unfold eacc enc
  generalize fst k = f
  generalize sh k = n at *
  have hcs : n = 0 ∨ n = 1 ∨ n = 2 ∨ n = 3 ∨ n = 4 ∨ n = 5 ∨ n = 6 ∨ n = 7 ∨ n = 8 ∨ n = 9 ∨ n = 10 ∨ n = 11 := by omega
  clear hn
  rcases hcs with rfl | rfl | rfl | rfl | rfl | rfl | rfl | rfl | rfl | rfl | rfl | rfl <;>
    simp [okB, well, hasS, hasT, hasD, hasA, hasI, hasJ, top, lt, ltL] at hz <;>
    simp [lt, ltL, inL, by_, hasA] <;> omega
theorem bad83 (n : Nat) (hn : n < 12) (s t d m : Int) (hm : 0 ≤ m) (p : Nat) (hp : p < (lt n).length) (hc : (lt n)[p] = 83) (hb : ¬ (0 ≤ s ∧ s < 32)) : okB n s t d m = false := by
  have hcs : n = 0 ∨ n = 1 ∨ n = 2 ∨ n = 3 ∨ n = 4 ∨ n = 5 ∨ n = 6 ∨ n = 7 ∨ n = 8 ∨ n = 9 ∨ n = 10 ∨ n = 11 := by omega
  clear hn
  have hpp : p = 0 ∨ p = 1 ∨ p = 2 ∨ 3 ≤ p := by omega
  rcases hcs with rfl | rfl | rfl | rfl | rfl | rfl | rfl | rfl | rfl | rfl | rfl | rfl <;>
    rcases hpp with rfl | rfl | rfl | hpp <;>
    simp [lt, ltL] at hp hc <;>
    (try (exfalso; omega)) <;>
    (rw [Bool.eq_false_iff]; simp [okB, well, hasS, hasT, hasD, hasA, hasI, hasJ, top, lt, ltL]; (try omega))
theorem bad84 (n : Nat) (hn : n < 12) (s t d m : Int) (hm : 0 ≤ m) (p : Nat) (hp : p < (lt n).length) (hc : (lt n)[p] = 84) (hb : ¬ (0 ≤ t ∧ t < 32)) : okB n s t d m = false := by
  have hcs : n = 0 ∨ n = 1 ∨ n = 2 ∨ n = 3 ∨ n = 4 ∨ n = 5 ∨ n = 6 ∨ n = 7 ∨ n = 8 ∨ n = 9 ∨ n = 10 ∨ n = 11 := by omega
  clear hn
  have hpp : p = 0 ∨ p = 1 ∨ p = 2 ∨ 3 ≤ p := by omega
  rcases hcs with rfl | rfl | rfl | rfl | rfl | rfl | rfl | rfl | rfl | rfl | rfl | rfl <;>
    rcases hpp with rfl | rfl | rfl | hpp <;>
    simp [lt, ltL] at hp hc <;>
    (try (exfalso; omega)) <;>
    (rw [Bool.eq_false_iff]; simp [okB, well, hasS, hasT, hasD, hasA, hasI, hasJ, top, lt, ltL]; (try omega))
theorem bad68 (n : Nat) (hn : n < 12) (s t d m : Int) (hm : 0 ≤ m) (p : Nat) (hp : p < (lt n).length) (hc : (lt n)[p] = 68) (hb : ¬ (0 ≤ d ∧ d < 32)) : okB n s t d m = false := by
  have hcs : n = 0 ∨ n = 1 ∨ n = 2 ∨ n = 3 ∨ n = 4 ∨ n = 5 ∨ n = 6 ∨ n = 7 ∨ n = 8 ∨ n = 9 ∨ n = 10 ∨ n = 11 := by omega
  clear hn
  have hpp : p = 0 ∨ p = 1 ∨ p = 2 ∨ 3 ≤ p := by omega
  rcases hcs with rfl | rfl | rfl | rfl | rfl | rfl | rfl | rfl | rfl | rfl | rfl | rfl <;>
    rcases hpp with rfl | rfl | rfl | hpp <;>
    simp [lt, ltL] at hp hc <;>
    (try (exfalso; omega)) <;>
    (rw [Bool.eq_false_iff]; simp [okB, well, hasS, hasT, hasD, hasA, hasI, hasJ, top, lt, ltL]; (try omega))
theorem bad97 (n : Nat) (hn : n < 12) (s t d m : Int) (hm : 0 ≤ m) (p : Nat) (hp : p < (lt n).length) (hc : (lt n)[p] = 97) (hb : ¬ (0 ≤ m ∧ m < 32)) : okB n s t d m = false := by
  have hcs : n = 0 ∨ n = 1 ∨ n = 2 ∨ n = 3 ∨ n = 4 ∨ n = 5 ∨ n = 6 ∨ n = 7 ∨ n = 8 ∨ n = 9 ∨ n = 10 ∨ n = 11 := by omega
  clear hn
  have hpp : p = 0 ∨ p = 1 ∨ p = 2 ∨ 3 ≤ p := by omega
  rcases hcs with rfl | rfl | rfl | rfl | rfl | rfl | rfl | rfl | rfl | rfl | rfl | rfl <;>
    rcases hpp with rfl | rfl | rfl | hpp <;>
    simp [lt, ltL] at hp hc <;>
    (try (exfalso; omega)) <;>
    (rw [Bool.eq_false_iff]; simp [okB, well, hasS, hasT, hasD, hasA, hasI, hasJ, top, lt, ltL]; (try omega))
theorem bad105 (n : Nat) (hn : n < 12) (s t d m : Int) (hm : 0 ≤ m) (p : Nat) (hp : p < (lt n).length) (hc : (lt n)[p] = 105) (hb : ¬ (0 ≤ m ∧ m < 65536)) : okB n s t d m = false := by
  have hcs : n = 0 ∨ n = 1 ∨ n = 2 ∨ n = 3 ∨ n = 4 ∨ n = 5 ∨ n = 6 ∨ n = 7 ∨ n = 8 ∨ n = 9 ∨ n = 10 ∨ n = 11 := by omega
  clear hn
  have hpp : p = 0 ∨ p = 1 ∨ p = 2 ∨ 3 ≤ p := by omega
  rcases hcs with rfl | rfl | rfl | rfl | rfl | rfl | rfl | rfl | rfl | rfl | rfl | rfl <;>
    rcases hpp with rfl | rfl | rfl | hpp <;>
    simp [lt, ltL] at hp hc <;>
    (try (exfalso; omega)) <;>
    (rw [Bool.eq_false_iff]; simp [okB, well, hasS, hasT, hasD, hasI, hasJ, top, lt, ltL]; (try omega))
theorem bad106 (n : Nat) (hn : n < 12) (s t d m : Int) (hm : 0 ≤ m) (p : Nat) (hp : p < (lt n).length) (hc : (lt n)[p] = 106) (hb : ¬ (0 ≤ m ∧ m < 67108864)) : okB n s t d m = false := by
  have hcs : n = 0 ∨ n = 1 ∨ n = 2 ∨ n = 3 ∨ n = 4 ∨ n = 5 ∨ n = 6 ∨ n = 7 ∨ n = 8 ∨ n = 9 ∨ n = 10 ∨ n = 11 := by omega
  clear hn
  have hpp : p = 0 ∨ p = 1 ∨ p = 2 ∨ 3 ≤ p := by omega
  rcases hcs with rfl | rfl | rfl | rfl | rfl | rfl | rfl | rfl | rfl | rfl | rfl | rfl <;>
    rcases hpp with rfl | rfl | rfl | hpp <;>
    simp [lt, ltL] at hp hc <;>
    (try (exfalso; omega)) <;>
    (rw [Bool.eq_false_iff]; simp [okB, well, hasS, hasT, hasD, hasJ, top, lt, ltL]; (try omega))
theorem letters : ∀ n, n < 12 → ∀ p, (h : p < (lt n).length) → (lt n)[p] = 83 ∨ (lt n)[p] = 84 ∨ (lt n)[p] = 68 ∨ (lt n)[p] = 97 ∨ (lt n)[p] = 105 ∨ (lt n)[p] = 106 := by
  intro n hn p hp
  have hcs : n = 0 ∨ n = 1 ∨ n = 2 ∨ n = 3 ∨ n = 4 ∨ n = 5 ∨ n = 6 ∨ n = 7 ∨ n = 8 ∨ n = 9 ∨ n = 10 ∨ n = 11 := by omega
  clear hn
  have hpp : p = 0 ∨ p = 1 ∨ p = 2 ∨ 3 ≤ p := by omega
  rcases hcs with rfl | rfl | rfl | rfl | rfl | rfl | rfl | rfl | rfl | rfl | rfl | rfl <;>
    rcases hpp with rfl | rfl | rfl | hpp <;>
    simp [lt, ltL] at hp ⊢ <;> omega
end Go.Proofs.YtccnliihdhnckaaGreatDoor
