/-
  Package ir: an op that goes on, whatever its kind.
-/
import Derived.Test.YtjjlbpenagobiaaDoorIrDiv
namespace Go.Proofs.YtjjlbpenagobiaaDoor
open Go.RowKit Go.Maps
open Num
set_option linter.unusedVariables false
theorem u32_and_bd {a b : Int} (ha : u32 a) (hb : u32 b) : u32 (bits .and .u32 a b) := by
  obtain ⟨x, rfl⟩ : ∃ n : Nat, a = n := ⟨a.toNat, by have := ha.1; omega⟩
  obtain ⟨y, rfl⟩ : ∃ n : Nat, b = n := ⟨b.toNat, by have := hb.1; omega⟩
  have h1 := ha.2
  have h2 := hb.2
  rw [u32_and_nat x y (by omega) (by omega)]
  exact ⟨by omega, by have : x &&& y ≤ x := Nat.and_le_left; omega⟩
theorem u32_or_bd {a b : Int} (ha : u32 a) (hb : u32 b) : u32 (bits .or .u32 a b) := by
  obtain ⟨x, rfl⟩ : ∃ n : Nat, a = n := ⟨a.toNat, by have := ha.1; omega⟩
  obtain ⟨y, rfl⟩ : ∃ n : Nat, b = n := ⟨b.toNat, by have := hb.1; omega⟩
  have h1 := ha.2
  have h2 := hb.2
  rw [u32_or_nat x y (by omega) (by omega)]
  exact ⟨by omega, by have : x ||| y < 2 ^ 32 := Nat.or_lt_two_pow (by omega) (by omega); omega⟩
theorem u32_xor_bd {a b : Int} (ha : u32 a) (hb : u32 b) : u32 (bits .xor .u32 a b) := by
  obtain ⟨x, rfl⟩ : ∃ n : Nat, a = n := ⟨a.toNat, by have := ha.1; omega⟩
  obtain ⟨y, rfl⟩ : ∃ n : Nat, b = n := ⟨b.toNat, by have := hb.1; omega⟩
  have h1 := ha.2
  have h2 := hb.2
  rw [u32_xor_nat x y (by omega) (by omega)]
  exact ⟨by omega, by have : x ^^^ y < 2 ^ 32 := Nat.xor_lt_two_pow (by omega) (by omega); omega⟩
theorem u32_ite {c : Prop} [Decidable c] {x y : Int} (hx : u32 x) (hy : u32 y) : u32 (if c then x else y) := by split <;> assumption
theorem kt (k j : Nat) (h1 : 1 ≤ k) (h2 : k < 28) (g1 : 1 ≤ j) (g2 : j < 28) (hne : k ≠ j) : ((kindS k).toList == kinds.getD j []) = false := by
  rw [kn_eq _ j g1 g2, kn_kind k h1 h2]; simpa using hne
theorem valV_bd (k : Nat) {a b d i : Int} (ha : u32 a) (hb : u32 b) (hd : u32 d) (hi : u32 i) : u32 (valV k a b d i) := by
  have h1 : u32 1 := ⟨by omega, by omega⟩
  have h0 : u32 0 := ⟨by omega, by omega⟩
  unfold valV
  repeat' (first | exact shf_bd ha.1 ha.2 | apply u32_ite)
  all_goals first | assumption | exact lo_bd _ | exact hi_bd _ | exact u32_and_bd ha hb | exact u32_or_bd ha hb | exact u32_xor_bd ha hb | exact u32_xor_bd ⟨by omega, by omega⟩ (u32_or_bd ha hb) | exact shf_bd ha.1 ha.2 | exact quo_bd _ _ _ | exact rst_bd _ _ _
theorem opE_zero {o : Opx} {many : Int} (h : opE o many = 0) : ¬ kn o.s = 0 ∧ bndB o many = true ∧ shpB o = true := by
  unfold opE Opx.k at h
  split at h
  · omega
  · split at h
    · omega
    · split at h
      · omega
      · rename_i h1 h2 h3
        exact ⟨h1, by simpa using h2, by simpa using h3⟩
theorem alw_read {n : Int} (h : alw 1 n = true) : 0 ≤ n ∧ n < 64 := by unfold alw at h; simpa using h
theorem alw_write {n : Int} (h : alw 2 n = true) : 1 ≤ n ∧ n < 64 := by unfold alw at h; simpa using h
theorem alw_load {n : Int} (h : alw 3 n = true) : n = 1 ∨ n = 2 ∨ n = 4 ∨ n = -1 ∨ n = -2 := by unfold alw at h; simpa using h
theorem alw_store {n : Int} (h : alw 4 n = true) : n = 1 ∨ n = 2 ∨ n = 4 := by unfold alw at h; simpa using h
theorem bnd_parts {o : Opx} {many : Int} (h : bndB o many = true) : alw (rD (kn o.s)) o.d = true ∧ alw (rA (kn o.s)) o.a = true ∧ alw (rB (kn o.s)) o.b = true ∧ 0 ≤ o.t ∧ o.t < many := by
  unfold bndB Opx.k at h
  simp only [Bool.and_eq_true, decide_eq_true_eq] at h
  exact ⟨h.1.1.1.1, h.1.1.1.2, h.1.1.2, h.1.2, h.2⟩
theorem setX_same (X : Nat → Int) (d : Nat) : setX X d (X d) = X := by
  funext n; unfold setX; split
  · rename_i h; rw [h]; simp
  · rfl
section
variable {m : Nat → Int} {wt : Int → Bool} {M : Mc} {d a b i t : Int}
theorem opR_val (k : Nat) (hk : 1 ≤ k ∧ k ≤ 20) : opR m wt M ⟨kindS k, d, a, b, i, t⟩ = .on ⟨setX M.x d (valV k (M.x a.toNat) (M.x b.toNat) (M.x d.toNat) i), M.p⟩ := by
  have e : kn (kindS k) = k := kn_kind k hk.1 (by omega)
  unfold opR Opx.k
  simp only [e]
  rw [if_neg (by omega), if_neg (by omega), if_neg (by omega), if_neg (by omega), if_neg (by omega), if_neg (by omega), if_neg (by omega)]
end
section
variable {w : World} {base mb sb bp bw bh N : Nat} {X : Nat → Int} {p : List Pq} {vi : Value} {m : Nat → Int} {wt ht : Int → Bool}
/-- what do answers, by what the op is -/
def DoPost (w : World) (base mb sb : Nat) (X : Nat → Int) (p : List Pq) (vi : Value) (m : Nat → Int) (wt : Int → Bool) (o : Opx) (e : Ending) (w' : World) : Prop :=
  (∃ (Y : Nat → Int) (p' : List Pq) (vi' : Value), opR m wt ⟨X, pqs p⟩ o = .on ⟨Y, pqs p'⟩ ∧ p'.length ≤ p.length + 1 ∧ e = .returned (.bool true) ∧ MAt w' base mb sb Y p' vi' ∧ Moved w vi vi' ∧ Kx w w' mb vi) ∨ (opR m wt ⟨X, pqs p⟩ o = .trap ∧ e = .returned (.bool false) ∧ Kx w w' mb vi)
theorem do_any (pe : Nat → Addr) (E : Eg pe w) (R : RamIs w sb bp bw bh N m wt ht) (G : MAt w base mb sb X p vi) (hp : p.length ≤ 1000) (o : Opx) (ok : o.ok) (many : Int) (h0 : opE o many = 0) (hk : o.k < 25) :
    Calls Tryd.prog 26 #[.pointer (some ⟨mb, 0, none⟩), opV o] w (DoPost w base mb sb X p vi m wt o) := by
  obtain ⟨k0, hb, _⟩ := opE_zero h0
  obtain ⟨hd, ha, hbb, _, _⟩ := bnd_parts hb
  have hi : u32 o.i := ⟨ok.i0, ok.i1⟩
  have okd := (⟨ok.d0, ok.d1⟩ : -9223372036854775808 ≤ o.d ∧ o.d ≤ 9223372036854775807)
  obtain ⟨s, d, a, b, i, t⟩ := o
  simp only at *
  have hs := kn_word k0
  clear h0 hb ok
  unfold Opx.k at hk
  simp only at hk
  generalize hkn : kn s = k at *
  subst hs
  clear hkn
  have hcs : k = 1 ∨ k = 2 ∨ k = 3 ∨ k = 4 ∨ k = 5 ∨ k = 6 ∨ k = 7 ∨ k = 8 ∨ k = 9 ∨ k = 10 ∨ k = 11 ∨ k = 12 ∨ k = 13 ∨ k = 14 ∨ k = 15 ∨ k = 16 ∨ k = 17 ∨ k = 18 ∨ k = 19 ∨ k = 20 ∨ k = 21 ∨ k = 22 ∨ k = 23 ∨ k = 24 := by omega
  rcases hcs with rfl | rfl | rfl | rfl | rfl | rfl | rfl | rfl | rfl | rfl | rfl | rfl | rfl | rfl | rfl | rfl | rfl | rfl | rfl | rfl | rfl | rfl | rfl | rfl
  · have hd := alw_write (show alw 2 d = true from hd)
    obtain ⟨d, rfl⟩ : ∃ n : Nat, d = n := ⟨d.toNat, by omega⟩
    have HR := opR_val (m := m) (wt := wt) (M := ⟨X, pqs p⟩) (d := d) (a := a) (b := b) (i := i) (t := t) 1 (by omega)
    refine (do_1 G d (by omega) i hi a b t).mono ?_
    rintro e w' ⟨rfl, G2, hb2⟩
    exact .inl ⟨_, p, vi, HR, by omega, rfl, G2, Moved.refl _ _, hb2⟩
  · have hd := alw_write (show alw 2 d = true from hd)
    have ha := alw_read (show alw 1 a = true from ha)
    obtain ⟨d, rfl⟩ : ∃ n : Nat, d = n := ⟨d.toNat, by omega⟩
    obtain ⟨a, rfl⟩ : ∃ n : Nat, a = n := ⟨a.toNat, by omega⟩
    have HR := opR_val (m := m) (wt := wt) (M := ⟨X, pqs p⟩) (d := d) (a := a) (b := b) (i := i) (t := t) 2 (by omega)
    refine (do_2 G d a (by omega) (by omega) b i t).mono ?_
    rintro e w' ⟨rfl, G2, hb2⟩
    exact .inl ⟨_, p, vi, HR, by omega, rfl, G2, Moved.refl _ _, hb2⟩
  · have hd := alw_write (show alw 2 d = true from hd)
    have ha := alw_read (show alw 1 a = true from ha)
    have hbb := alw_read (show alw 1 b = true from hbb)
    obtain ⟨d, rfl⟩ : ∃ n : Nat, d = n := ⟨d.toNat, by omega⟩
    obtain ⟨a, rfl⟩ : ∃ n : Nat, a = n := ⟨a.toNat, by omega⟩
    obtain ⟨b, rfl⟩ : ∃ n : Nat, b = n := ⟨b.toNat, by omega⟩
    have HR := opR_val (m := m) (wt := wt) (M := ⟨X, pqs p⟩) (d := d) (a := a) (b := b) (i := i) (t := t) 3 (by omega)
    refine (do_sum ⟨#[97, 100, 100]⟩ (kt 3 21 (by omega) (by omega) (by omega) (by omega) (by omega)) (kt 3 22 (by omega) (by omega) (by omega) (by omega) (by omega)) (kt 3 23 (by omega) (by omega) (by omega) (by omega) (by omega)) (kt 3 24 (by omega) (by omega) (by omega) (by omega) (by omega)) (kt 3 1 (by omega) (by omega) (by omega) (by omega) (by omega)) (kt 3 2 (by omega) (by omega) (by omega) (by omega) (by omega)) (kt 3 17 (by omega) (by omega) (by omega) (by omega) (by omega)) (kt 3 18 (by omega) (by omega) (by omega) (by omega) (by omega)) (kt 3 19 (by omega) (by omega) (by omega) (by omega) (by omega)) (kt 3 20 (by omega) (by omega) (by omega) (by omega) (by omega)) G d a b (by omega) (by omega) (by omega) i t _ (valV_bd 3 (G.xb a) (G.xb b) (G.xb d) hi) (fun W => result_any 3 (by omega) _ _ (X d) i (G.xb a).1 (G.xb a).2 (G.xb b).1 (G.xb b).2 W)).mono ?_
    rintro e w' ⟨rfl, G2, hb2⟩
    exact .inl ⟨_, p, vi, HR, by omega, rfl, G2, Moved.refl _ _, hb2⟩
  · have hd := alw_write (show alw 2 d = true from hd)
    have ha := alw_read (show alw 1 a = true from ha)
    have hbb := alw_read (show alw 1 b = true from hbb)
    obtain ⟨d, rfl⟩ : ∃ n : Nat, d = n := ⟨d.toNat, by omega⟩
    obtain ⟨a, rfl⟩ : ∃ n : Nat, a = n := ⟨a.toNat, by omega⟩
    obtain ⟨b, rfl⟩ : ∃ n : Nat, b = n := ⟨b.toNat, by omega⟩
    have HR := opR_val (m := m) (wt := wt) (M := ⟨X, pqs p⟩) (d := d) (a := a) (b := b) (i := i) (t := t) 4 (by omega)
    refine (do_sum ⟨#[115, 117, 98]⟩ (kt 4 21 (by omega) (by omega) (by omega) (by omega) (by omega)) (kt 4 22 (by omega) (by omega) (by omega) (by omega) (by omega)) (kt 4 23 (by omega) (by omega) (by omega) (by omega) (by omega)) (kt 4 24 (by omega) (by omega) (by omega) (by omega) (by omega)) (kt 4 1 (by omega) (by omega) (by omega) (by omega) (by omega)) (kt 4 2 (by omega) (by omega) (by omega) (by omega) (by omega)) (kt 4 17 (by omega) (by omega) (by omega) (by omega) (by omega)) (kt 4 18 (by omega) (by omega) (by omega) (by omega) (by omega)) (kt 4 19 (by omega) (by omega) (by omega) (by omega) (by omega)) (kt 4 20 (by omega) (by omega) (by omega) (by omega) (by omega)) G d a b (by omega) (by omega) (by omega) i t _ (valV_bd 4 (G.xb a) (G.xb b) (G.xb d) hi) (fun W => result_any 4 (by omega) _ _ (X d) i (G.xb a).1 (G.xb a).2 (G.xb b).1 (G.xb b).2 W)).mono ?_
    rintro e w' ⟨rfl, G2, hb2⟩
    exact .inl ⟨_, p, vi, HR, by omega, rfl, G2, Moved.refl _ _, hb2⟩
  · have hd := alw_write (show alw 2 d = true from hd)
    have ha := alw_read (show alw 1 a = true from ha)
    have hbb := alw_read (show alw 1 b = true from hbb)
    obtain ⟨d, rfl⟩ : ∃ n : Nat, d = n := ⟨d.toNat, by omega⟩
    obtain ⟨a, rfl⟩ : ∃ n : Nat, a = n := ⟨a.toNat, by omega⟩
    obtain ⟨b, rfl⟩ : ∃ n : Nat, b = n := ⟨b.toNat, by omega⟩
    have HR := opR_val (m := m) (wt := wt) (M := ⟨X, pqs p⟩) (d := d) (a := a) (b := b) (i := i) (t := t) 5 (by omega)
    refine (do_sum ⟨#[97, 110, 100]⟩ (kt 5 21 (by omega) (by omega) (by omega) (by omega) (by omega)) (kt 5 22 (by omega) (by omega) (by omega) (by omega) (by omega)) (kt 5 23 (by omega) (by omega) (by omega) (by omega) (by omega)) (kt 5 24 (by omega) (by omega) (by omega) (by omega) (by omega)) (kt 5 1 (by omega) (by omega) (by omega) (by omega) (by omega)) (kt 5 2 (by omega) (by omega) (by omega) (by omega) (by omega)) (kt 5 17 (by omega) (by omega) (by omega) (by omega) (by omega)) (kt 5 18 (by omega) (by omega) (by omega) (by omega) (by omega)) (kt 5 19 (by omega) (by omega) (by omega) (by omega) (by omega)) (kt 5 20 (by omega) (by omega) (by omega) (by omega) (by omega)) G d a b (by omega) (by omega) (by omega) i t _ (valV_bd 5 (G.xb a) (G.xb b) (G.xb d) hi) (fun W => result_any 5 (by omega) _ _ (X d) i (G.xb a).1 (G.xb a).2 (G.xb b).1 (G.xb b).2 W)).mono ?_
    rintro e w' ⟨rfl, G2, hb2⟩
    exact .inl ⟨_, p, vi, HR, by omega, rfl, G2, Moved.refl _ _, hb2⟩
  · have hd := alw_write (show alw 2 d = true from hd)
    have ha := alw_read (show alw 1 a = true from ha)
    have hbb := alw_read (show alw 1 b = true from hbb)
    obtain ⟨d, rfl⟩ : ∃ n : Nat, d = n := ⟨d.toNat, by omega⟩
    obtain ⟨a, rfl⟩ : ∃ n : Nat, a = n := ⟨a.toNat, by omega⟩
    obtain ⟨b, rfl⟩ : ∃ n : Nat, b = n := ⟨b.toNat, by omega⟩
    have HR := opR_val (m := m) (wt := wt) (M := ⟨X, pqs p⟩) (d := d) (a := a) (b := b) (i := i) (t := t) 6 (by omega)
    refine (do_sum ⟨#[111, 114]⟩ (kt 6 21 (by omega) (by omega) (by omega) (by omega) (by omega)) (kt 6 22 (by omega) (by omega) (by omega) (by omega) (by omega)) (kt 6 23 (by omega) (by omega) (by omega) (by omega) (by omega)) (kt 6 24 (by omega) (by omega) (by omega) (by omega) (by omega)) (kt 6 1 (by omega) (by omega) (by omega) (by omega) (by omega)) (kt 6 2 (by omega) (by omega) (by omega) (by omega) (by omega)) (kt 6 17 (by omega) (by omega) (by omega) (by omega) (by omega)) (kt 6 18 (by omega) (by omega) (by omega) (by omega) (by omega)) (kt 6 19 (by omega) (by omega) (by omega) (by omega) (by omega)) (kt 6 20 (by omega) (by omega) (by omega) (by omega) (by omega)) G d a b (by omega) (by omega) (by omega) i t _ (valV_bd 6 (G.xb a) (G.xb b) (G.xb d) hi) (fun W => result_any 6 (by omega) _ _ (X d) i (G.xb a).1 (G.xb a).2 (G.xb b).1 (G.xb b).2 W)).mono ?_
    rintro e w' ⟨rfl, G2, hb2⟩
    exact .inl ⟨_, p, vi, HR, by omega, rfl, G2, Moved.refl _ _, hb2⟩
  · have hd := alw_write (show alw 2 d = true from hd)
    have ha := alw_read (show alw 1 a = true from ha)
    have hbb := alw_read (show alw 1 b = true from hbb)
    obtain ⟨d, rfl⟩ : ∃ n : Nat, d = n := ⟨d.toNat, by omega⟩
    obtain ⟨a, rfl⟩ : ∃ n : Nat, a = n := ⟨a.toNat, by omega⟩
    obtain ⟨b, rfl⟩ : ∃ n : Nat, b = n := ⟨b.toNat, by omega⟩
    have HR := opR_val (m := m) (wt := wt) (M := ⟨X, pqs p⟩) (d := d) (a := a) (b := b) (i := i) (t := t) 7 (by omega)
    refine (do_sum ⟨#[120, 111, 114]⟩ (kt 7 21 (by omega) (by omega) (by omega) (by omega) (by omega)) (kt 7 22 (by omega) (by omega) (by omega) (by omega) (by omega)) (kt 7 23 (by omega) (by omega) (by omega) (by omega) (by omega)) (kt 7 24 (by omega) (by omega) (by omega) (by omega) (by omega)) (kt 7 1 (by omega) (by omega) (by omega) (by omega) (by omega)) (kt 7 2 (by omega) (by omega) (by omega) (by omega) (by omega)) (kt 7 17 (by omega) (by omega) (by omega) (by omega) (by omega)) (kt 7 18 (by omega) (by omega) (by omega) (by omega) (by omega)) (kt 7 19 (by omega) (by omega) (by omega) (by omega) (by omega)) (kt 7 20 (by omega) (by omega) (by omega) (by omega) (by omega)) G d a b (by omega) (by omega) (by omega) i t _ (valV_bd 7 (G.xb a) (G.xb b) (G.xb d) hi) (fun W => result_any 7 (by omega) _ _ (X d) i (G.xb a).1 (G.xb a).2 (G.xb b).1 (G.xb b).2 W)).mono ?_
    rintro e w' ⟨rfl, G2, hb2⟩
    exact .inl ⟨_, p, vi, HR, by omega, rfl, G2, Moved.refl _ _, hb2⟩
  · have hd := alw_write (show alw 2 d = true from hd)
    have ha := alw_read (show alw 1 a = true from ha)
    have hbb := alw_read (show alw 1 b = true from hbb)
    obtain ⟨d, rfl⟩ : ∃ n : Nat, d = n := ⟨d.toNat, by omega⟩
    obtain ⟨a, rfl⟩ : ∃ n : Nat, a = n := ⟨a.toNat, by omega⟩
    obtain ⟨b, rfl⟩ : ∃ n : Nat, b = n := ⟨b.toNat, by omega⟩
    have HR := opR_val (m := m) (wt := wt) (M := ⟨X, pqs p⟩) (d := d) (a := a) (b := b) (i := i) (t := t) 8 (by omega)
    refine (do_sum ⟨#[110, 111, 114]⟩ (kt 8 21 (by omega) (by omega) (by omega) (by omega) (by omega)) (kt 8 22 (by omega) (by omega) (by omega) (by omega) (by omega)) (kt 8 23 (by omega) (by omega) (by omega) (by omega) (by omega)) (kt 8 24 (by omega) (by omega) (by omega) (by omega) (by omega)) (kt 8 1 (by omega) (by omega) (by omega) (by omega) (by omega)) (kt 8 2 (by omega) (by omega) (by omega) (by omega) (by omega)) (kt 8 17 (by omega) (by omega) (by omega) (by omega) (by omega)) (kt 8 18 (by omega) (by omega) (by omega) (by omega) (by omega)) (kt 8 19 (by omega) (by omega) (by omega) (by omega) (by omega)) (kt 8 20 (by omega) (by omega) (by omega) (by omega) (by omega)) G d a b (by omega) (by omega) (by omega) i t _ (valV_bd 8 (G.xb a) (G.xb b) (G.xb d) hi) (fun W => result_any 8 (by omega) _ _ (X d) i (G.xb a).1 (G.xb a).2 (G.xb b).1 (G.xb b).2 W)).mono ?_
    rintro e w' ⟨rfl, G2, hb2⟩
    exact .inl ⟨_, p, vi, HR, by omega, rfl, G2, Moved.refl _ _, hb2⟩
  · have hd := alw_write (show alw 2 d = true from hd)
    have ha := alw_read (show alw 1 a = true from ha)
    have hbb := alw_read (show alw 1 b = true from hbb)
    obtain ⟨d, rfl⟩ : ∃ n : Nat, d = n := ⟨d.toNat, by omega⟩
    obtain ⟨a, rfl⟩ : ∃ n : Nat, a = n := ⟨a.toNat, by omega⟩
    obtain ⟨b, rfl⟩ : ∃ n : Nat, b = n := ⟨b.toNat, by omega⟩
    have HR := opR_val (m := m) (wt := wt) (M := ⟨X, pqs p⟩) (d := d) (a := a) (b := b) (i := i) (t := t) 9 (by omega)
    refine (do_sum ⟨#[115, 108, 116]⟩ (kt 9 21 (by omega) (by omega) (by omega) (by omega) (by omega)) (kt 9 22 (by omega) (by omega) (by omega) (by omega) (by omega)) (kt 9 23 (by omega) (by omega) (by omega) (by omega) (by omega)) (kt 9 24 (by omega) (by omega) (by omega) (by omega) (by omega)) (kt 9 1 (by omega) (by omega) (by omega) (by omega) (by omega)) (kt 9 2 (by omega) (by omega) (by omega) (by omega) (by omega)) (kt 9 17 (by omega) (by omega) (by omega) (by omega) (by omega)) (kt 9 18 (by omega) (by omega) (by omega) (by omega) (by omega)) (kt 9 19 (by omega) (by omega) (by omega) (by omega) (by omega)) (kt 9 20 (by omega) (by omega) (by omega) (by omega) (by omega)) G d a b (by omega) (by omega) (by omega) i t _ (valV_bd 9 (G.xb a) (G.xb b) (G.xb d) hi) (fun W => result_any 9 (by omega) _ _ (X d) i (G.xb a).1 (G.xb a).2 (G.xb b).1 (G.xb b).2 W)).mono ?_
    rintro e w' ⟨rfl, G2, hb2⟩
    exact .inl ⟨_, p, vi, HR, by omega, rfl, G2, Moved.refl _ _, hb2⟩
  · have hd := alw_write (show alw 2 d = true from hd)
    have ha := alw_read (show alw 1 a = true from ha)
    have hbb := alw_read (show alw 1 b = true from hbb)
    obtain ⟨d, rfl⟩ : ∃ n : Nat, d = n := ⟨d.toNat, by omega⟩
    obtain ⟨a, rfl⟩ : ∃ n : Nat, a = n := ⟨a.toNat, by omega⟩
    obtain ⟨b, rfl⟩ : ∃ n : Nat, b = n := ⟨b.toNat, by omega⟩
    have HR := opR_val (m := m) (wt := wt) (M := ⟨X, pqs p⟩) (d := d) (a := a) (b := b) (i := i) (t := t) 10 (by omega)
    refine (do_sum ⟨#[115, 108, 116, 117]⟩ (kt 10 21 (by omega) (by omega) (by omega) (by omega) (by omega)) (kt 10 22 (by omega) (by omega) (by omega) (by omega) (by omega)) (kt 10 23 (by omega) (by omega) (by omega) (by omega) (by omega)) (kt 10 24 (by omega) (by omega) (by omega) (by omega) (by omega)) (kt 10 1 (by omega) (by omega) (by omega) (by omega) (by omega)) (kt 10 2 (by omega) (by omega) (by omega) (by omega) (by omega)) (kt 10 17 (by omega) (by omega) (by omega) (by omega) (by omega)) (kt 10 18 (by omega) (by omega) (by omega) (by omega) (by omega)) (kt 10 19 (by omega) (by omega) (by omega) (by omega) (by omega)) (kt 10 20 (by omega) (by omega) (by omega) (by omega) (by omega)) G d a b (by omega) (by omega) (by omega) i t _ (valV_bd 10 (G.xb a) (G.xb b) (G.xb d) hi) (fun W => result_any 10 (by omega) _ _ (X d) i (G.xb a).1 (G.xb a).2 (G.xb b).1 (G.xb b).2 W)).mono ?_
    rintro e w' ⟨rfl, G2, hb2⟩
    exact .inl ⟨_, p, vi, HR, by omega, rfl, G2, Moved.refl _ _, hb2⟩
  · have hd := alw_write (show alw 2 d = true from hd)
    have ha := alw_read (show alw 1 a = true from ha)
    have hbb := alw_read (show alw 1 b = true from hbb)
    obtain ⟨d, rfl⟩ : ∃ n : Nat, d = n := ⟨d.toNat, by omega⟩
    obtain ⟨a, rfl⟩ : ∃ n : Nat, a = n := ⟨a.toNat, by omega⟩
    obtain ⟨b, rfl⟩ : ∃ n : Nat, b = n := ⟨b.toNat, by omega⟩
    have HR := opR_val (m := m) (wt := wt) (M := ⟨X, pqs p⟩) (d := d) (a := a) (b := b) (i := i) (t := t) 11 (by omega)
    refine (do_sum ⟨#[115, 104, 108]⟩ (kt 11 21 (by omega) (by omega) (by omega) (by omega) (by omega)) (kt 11 22 (by omega) (by omega) (by omega) (by omega) (by omega)) (kt 11 23 (by omega) (by omega) (by omega) (by omega) (by omega)) (kt 11 24 (by omega) (by omega) (by omega) (by omega) (by omega)) (kt 11 1 (by omega) (by omega) (by omega) (by omega) (by omega)) (kt 11 2 (by omega) (by omega) (by omega) (by omega) (by omega)) (kt 11 17 (by omega) (by omega) (by omega) (by omega) (by omega)) (kt 11 18 (by omega) (by omega) (by omega) (by omega) (by omega)) (kt 11 19 (by omega) (by omega) (by omega) (by omega) (by omega)) (kt 11 20 (by omega) (by omega) (by omega) (by omega) (by omega)) G d a b (by omega) (by omega) (by omega) i t _ (valV_bd 11 (G.xb a) (G.xb b) (G.xb d) hi) (fun W => result_any 11 (by omega) _ _ (X d) i (G.xb a).1 (G.xb a).2 (G.xb b).1 (G.xb b).2 W)).mono ?_
    rintro e w' ⟨rfl, G2, hb2⟩
    exact .inl ⟨_, p, vi, HR, by omega, rfl, G2, Moved.refl _ _, hb2⟩
  · have hd := alw_write (show alw 2 d = true from hd)
    have ha := alw_read (show alw 1 a = true from ha)
    have hbb := alw_read (show alw 1 b = true from hbb)
    obtain ⟨d, rfl⟩ : ∃ n : Nat, d = n := ⟨d.toNat, by omega⟩
    obtain ⟨a, rfl⟩ : ∃ n : Nat, a = n := ⟨a.toNat, by omega⟩
    obtain ⟨b, rfl⟩ : ∃ n : Nat, b = n := ⟨b.toNat, by omega⟩
    have HR := opR_val (m := m) (wt := wt) (M := ⟨X, pqs p⟩) (d := d) (a := a) (b := b) (i := i) (t := t) 12 (by omega)
    refine (do_sum ⟨#[115, 104, 114]⟩ (kt 12 21 (by omega) (by omega) (by omega) (by omega) (by omega)) (kt 12 22 (by omega) (by omega) (by omega) (by omega) (by omega)) (kt 12 23 (by omega) (by omega) (by omega) (by omega) (by omega)) (kt 12 24 (by omega) (by omega) (by omega) (by omega) (by omega)) (kt 12 1 (by omega) (by omega) (by omega) (by omega) (by omega)) (kt 12 2 (by omega) (by omega) (by omega) (by omega) (by omega)) (kt 12 17 (by omega) (by omega) (by omega) (by omega) (by omega)) (kt 12 18 (by omega) (by omega) (by omega) (by omega) (by omega)) (kt 12 19 (by omega) (by omega) (by omega) (by omega) (by omega)) (kt 12 20 (by omega) (by omega) (by omega) (by omega) (by omega)) G d a b (by omega) (by omega) (by omega) i t _ (valV_bd 12 (G.xb a) (G.xb b) (G.xb d) hi) (fun W => result_any 12 (by omega) _ _ (X d) i (G.xb a).1 (G.xb a).2 (G.xb b).1 (G.xb b).2 W)).mono ?_
    rintro e w' ⟨rfl, G2, hb2⟩
    exact .inl ⟨_, p, vi, HR, by omega, rfl, G2, Moved.refl _ _, hb2⟩
  · have hd := alw_write (show alw 2 d = true from hd)
    have ha := alw_read (show alw 1 a = true from ha)
    have hbb := alw_read (show alw 1 b = true from hbb)
    obtain ⟨d, rfl⟩ : ∃ n : Nat, d = n := ⟨d.toNat, by omega⟩
    obtain ⟨a, rfl⟩ : ∃ n : Nat, a = n := ⟨a.toNat, by omega⟩
    obtain ⟨b, rfl⟩ : ∃ n : Nat, b = n := ⟨b.toNat, by omega⟩
    have HR := opR_val (m := m) (wt := wt) (M := ⟨X, pqs p⟩) (d := d) (a := a) (b := b) (i := i) (t := t) 13 (by omega)
    refine (do_sum ⟨#[115, 97, 114]⟩ (kt 13 21 (by omega) (by omega) (by omega) (by omega) (by omega)) (kt 13 22 (by omega) (by omega) (by omega) (by omega) (by omega)) (kt 13 23 (by omega) (by omega) (by omega) (by omega) (by omega)) (kt 13 24 (by omega) (by omega) (by omega) (by omega) (by omega)) (kt 13 1 (by omega) (by omega) (by omega) (by omega) (by omega)) (kt 13 2 (by omega) (by omega) (by omega) (by omega) (by omega)) (kt 13 17 (by omega) (by omega) (by omega) (by omega) (by omega)) (kt 13 18 (by omega) (by omega) (by omega) (by omega) (by omega)) (kt 13 19 (by omega) (by omega) (by omega) (by omega) (by omega)) (kt 13 20 (by omega) (by omega) (by omega) (by omega) (by omega)) G d a b (by omega) (by omega) (by omega) i t _ (valV_bd 13 (G.xb a) (G.xb b) (G.xb d) hi) (fun W => result_any 13 (by omega) _ _ (X d) i (G.xb a).1 (G.xb a).2 (G.xb b).1 (G.xb b).2 W)).mono ?_
    rintro e w' ⟨rfl, G2, hb2⟩
    exact .inl ⟨_, p, vi, HR, by omega, rfl, G2, Moved.refl _ _, hb2⟩
  · have hd := alw_write (show alw 2 d = true from hd)
    have ha := alw_read (show alw 1 a = true from ha)
    have hbb := alw_read (show alw 1 b = true from hbb)
    obtain ⟨d, rfl⟩ : ∃ n : Nat, d = n := ⟨d.toNat, by omega⟩
    obtain ⟨a, rfl⟩ : ∃ n : Nat, a = n := ⟨a.toNat, by omega⟩
    obtain ⟨b, rfl⟩ : ∃ n : Nat, b = n := ⟨b.toNat, by omega⟩
    have HR := opR_val (m := m) (wt := wt) (M := ⟨X, pqs p⟩) (d := d) (a := a) (b := b) (i := i) (t := t) 14 (by omega)
    refine (do_sum ⟨#[109, 117, 108]⟩ (kt 14 21 (by omega) (by omega) (by omega) (by omega) (by omega)) (kt 14 22 (by omega) (by omega) (by omega) (by omega) (by omega)) (kt 14 23 (by omega) (by omega) (by omega) (by omega) (by omega)) (kt 14 24 (by omega) (by omega) (by omega) (by omega) (by omega)) (kt 14 1 (by omega) (by omega) (by omega) (by omega) (by omega)) (kt 14 2 (by omega) (by omega) (by omega) (by omega) (by omega)) (kt 14 17 (by omega) (by omega) (by omega) (by omega) (by omega)) (kt 14 18 (by omega) (by omega) (by omega) (by omega) (by omega)) (kt 14 19 (by omega) (by omega) (by omega) (by omega) (by omega)) (kt 14 20 (by omega) (by omega) (by omega) (by omega) (by omega)) G d a b (by omega) (by omega) (by omega) i t _ (valV_bd 14 (G.xb a) (G.xb b) (G.xb d) hi) (fun W => result_any 14 (by omega) _ _ (X d) i (G.xb a).1 (G.xb a).2 (G.xb b).1 (G.xb b).2 W)).mono ?_
    rintro e w' ⟨rfl, G2, hb2⟩
    exact .inl ⟨_, p, vi, HR, by omega, rfl, G2, Moved.refl _ _, hb2⟩
  · have hd := alw_write (show alw 2 d = true from hd)
    have ha := alw_read (show alw 1 a = true from ha)
    have hbb := alw_read (show alw 1 b = true from hbb)
    obtain ⟨d, rfl⟩ : ∃ n : Nat, d = n := ⟨d.toNat, by omega⟩
    obtain ⟨a, rfl⟩ : ∃ n : Nat, a = n := ⟨a.toNat, by omega⟩
    obtain ⟨b, rfl⟩ : ∃ n : Nat, b = n := ⟨b.toNat, by omega⟩
    have HR := opR_val (m := m) (wt := wt) (M := ⟨X, pqs p⟩) (d := d) (a := a) (b := b) (i := i) (t := t) 15 (by omega)
    refine (do_sum ⟨#[109, 117, 108, 104]⟩ (kt 15 21 (by omega) (by omega) (by omega) (by omega) (by omega)) (kt 15 22 (by omega) (by omega) (by omega) (by omega) (by omega)) (kt 15 23 (by omega) (by omega) (by omega) (by omega) (by omega)) (kt 15 24 (by omega) (by omega) (by omega) (by omega) (by omega)) (kt 15 1 (by omega) (by omega) (by omega) (by omega) (by omega)) (kt 15 2 (by omega) (by omega) (by omega) (by omega) (by omega)) (kt 15 17 (by omega) (by omega) (by omega) (by omega) (by omega)) (kt 15 18 (by omega) (by omega) (by omega) (by omega) (by omega)) (kt 15 19 (by omega) (by omega) (by omega) (by omega) (by omega)) (kt 15 20 (by omega) (by omega) (by omega) (by omega) (by omega)) G d a b (by omega) (by omega) (by omega) i t _ (valV_bd 15 (G.xb a) (G.xb b) (G.xb d) hi) (fun W => result_any 15 (by omega) _ _ (X d) i (G.xb a).1 (G.xb a).2 (G.xb b).1 (G.xb b).2 W)).mono ?_
    rintro e w' ⟨rfl, G2, hb2⟩
    exact .inl ⟨_, p, vi, HR, by omega, rfl, G2, Moved.refl _ _, hb2⟩
  · have hd := alw_write (show alw 2 d = true from hd)
    have ha := alw_read (show alw 1 a = true from ha)
    have hbb := alw_read (show alw 1 b = true from hbb)
    obtain ⟨d, rfl⟩ : ∃ n : Nat, d = n := ⟨d.toNat, by omega⟩
    obtain ⟨a, rfl⟩ : ∃ n : Nat, a = n := ⟨a.toNat, by omega⟩
    obtain ⟨b, rfl⟩ : ∃ n : Nat, b = n := ⟨b.toNat, by omega⟩
    have HR := opR_val (m := m) (wt := wt) (M := ⟨X, pqs p⟩) (d := d) (a := a) (b := b) (i := i) (t := t) 16 (by omega)
    refine (do_sum ⟨#[109, 117, 108, 104, 117]⟩ (kt 16 21 (by omega) (by omega) (by omega) (by omega) (by omega)) (kt 16 22 (by omega) (by omega) (by omega) (by omega) (by omega)) (kt 16 23 (by omega) (by omega) (by omega) (by omega) (by omega)) (kt 16 24 (by omega) (by omega) (by omega) (by omega) (by omega)) (kt 16 1 (by omega) (by omega) (by omega) (by omega) (by omega)) (kt 16 2 (by omega) (by omega) (by omega) (by omega) (by omega)) (kt 16 17 (by omega) (by omega) (by omega) (by omega) (by omega)) (kt 16 18 (by omega) (by omega) (by omega) (by omega) (by omega)) (kt 16 19 (by omega) (by omega) (by omega) (by omega) (by omega)) (kt 16 20 (by omega) (by omega) (by omega) (by omega) (by omega)) G d a b (by omega) (by omega) (by omega) i t _ (valV_bd 16 (G.xb a) (G.xb b) (G.xb d) hi) (fun W => result_any 16 (by omega) _ _ (X d) i (G.xb a).1 (G.xb a).2 (G.xb b).1 (G.xb b).2 W)).mono ?_
    rintro e w' ⟨rfl, G2, hb2⟩
    exact .inl ⟨_, p, vi, HR, by omega, rfl, G2, Moved.refl _ _, hb2⟩
  · have hd := alw_write (show alw 2 d = true from hd)
    have ha := alw_read (show alw 1 a = true from ha)
    have hbb := alw_read (show alw 1 b = true from hbb)
    obtain ⟨d, rfl⟩ : ∃ n : Nat, d = n := ⟨d.toNat, by omega⟩
    obtain ⟨a, rfl⟩ : ∃ n : Nat, a = n := ⟨a.toNat, by omega⟩
    obtain ⟨b, rfl⟩ : ∃ n : Nat, b = n := ⟨b.toNat, by omega⟩
    have HR := opR_val (m := m) (wt := wt) (M := ⟨X, pqs p⟩) (d := d) (a := a) (b := b) (i := i) (t := t) 17 (by omega)
    have hX : X b = 0 ∧ valV 17 (X a) (X b) (X d) i = X d ∨ X b ≠ 0 ∧ valV 17 (X a) (X b) (X d) i = quo (X a) (X b) true := by
      by_cases h : X b = 0
      · exact .inl ⟨h, by unfold valV; simp [h]⟩
      · exact .inr ⟨h, by unfold valV; simp [h]⟩
    rcases hX with ⟨h, hX⟩ | ⟨h, hX⟩
    · refine (do_17 G d a b i t X (fun W g => divide_17_0 g d a b (by omega) (by omega) (by omega) i t h)).mono ?_
      rintro e w' ⟨rfl, G2, hb2⟩
      refine .inl ⟨_, p, vi, HR, by omega, rfl, ?_, Moved.refl _ _, hb2⟩
      show MAt w' base mb sb (setX X d (valV 17 (X a) (X b) (X d) i)) p vi
      rw [hX, setX_same]; exact G2
    · refine (do_17 G d a b i t _ (fun W g => divide_17 g d a b (by omega) (by omega) (by omega) i t h)).mono ?_
      rintro e w' ⟨rfl, G2, hb2⟩
      refine .inl ⟨_, p, vi, HR, by omega, rfl, ?_, Moved.refl _ _, hb2⟩
      show MAt w' base mb sb (setX X d (valV 17 (X a) (X b) (X d) i)) p vi
      rw [hX]; exact G2
  · have hd := alw_write (show alw 2 d = true from hd)
    have ha := alw_read (show alw 1 a = true from ha)
    have hbb := alw_read (show alw 1 b = true from hbb)
    obtain ⟨d, rfl⟩ : ∃ n : Nat, d = n := ⟨d.toNat, by omega⟩
    obtain ⟨a, rfl⟩ : ∃ n : Nat, a = n := ⟨a.toNat, by omega⟩
    obtain ⟨b, rfl⟩ : ∃ n : Nat, b = n := ⟨b.toNat, by omega⟩
    have HR := opR_val (m := m) (wt := wt) (M := ⟨X, pqs p⟩) (d := d) (a := a) (b := b) (i := i) (t := t) 18 (by omega)
    have hX : X b = 0 ∧ valV 18 (X a) (X b) (X d) i = X d ∨ X b ≠ 0 ∧ valV 18 (X a) (X b) (X d) i = rst (X a) (X b) true := by
      by_cases h : X b = 0
      · exact .inl ⟨h, by unfold valV; simp [h]⟩
      · exact .inr ⟨h, by unfold valV; simp [h]⟩
    rcases hX with ⟨h, hX⟩ | ⟨h, hX⟩
    · refine (do_18 G d a b i t X (fun W g => divide_18_0 g d a b (by omega) (by omega) (by omega) i t h)).mono ?_
      rintro e w' ⟨rfl, G2, hb2⟩
      refine .inl ⟨_, p, vi, HR, by omega, rfl, ?_, Moved.refl _ _, hb2⟩
      show MAt w' base mb sb (setX X d (valV 18 (X a) (X b) (X d) i)) p vi
      rw [hX, setX_same]; exact G2
    · refine (do_18 G d a b i t _ (fun W g => divide_18 g d a b (by omega) (by omega) (by omega) i t h)).mono ?_
      rintro e w' ⟨rfl, G2, hb2⟩
      refine .inl ⟨_, p, vi, HR, by omega, rfl, ?_, Moved.refl _ _, hb2⟩
      show MAt w' base mb sb (setX X d (valV 18 (X a) (X b) (X d) i)) p vi
      rw [hX]; exact G2
  · have hd := alw_write (show alw 2 d = true from hd)
    have ha := alw_read (show alw 1 a = true from ha)
    have hbb := alw_read (show alw 1 b = true from hbb)
    obtain ⟨d, rfl⟩ : ∃ n : Nat, d = n := ⟨d.toNat, by omega⟩
    obtain ⟨a, rfl⟩ : ∃ n : Nat, a = n := ⟨a.toNat, by omega⟩
    obtain ⟨b, rfl⟩ : ∃ n : Nat, b = n := ⟨b.toNat, by omega⟩
    have HR := opR_val (m := m) (wt := wt) (M := ⟨X, pqs p⟩) (d := d) (a := a) (b := b) (i := i) (t := t) 19 (by omega)
    have hX : X b = 0 ∧ valV 19 (X a) (X b) (X d) i = X d ∨ X b ≠ 0 ∧ valV 19 (X a) (X b) (X d) i = quo (X a) (X b) false := by
      by_cases h : X b = 0
      · exact .inl ⟨h, by unfold valV; simp [h]⟩
      · exact .inr ⟨h, by unfold valV; simp [h]⟩
    rcases hX with ⟨h, hX⟩ | ⟨h, hX⟩
    · refine (do_19 G d a b i t X (fun W g => divide_19_0 g d a b (by omega) (by omega) (by omega) i t h)).mono ?_
      rintro e w' ⟨rfl, G2, hb2⟩
      refine .inl ⟨_, p, vi, HR, by omega, rfl, ?_, Moved.refl _ _, hb2⟩
      show MAt w' base mb sb (setX X d (valV 19 (X a) (X b) (X d) i)) p vi
      rw [hX, setX_same]; exact G2
    · refine (do_19 G d a b i t _ (fun W g => divide_19 g d a b (by omega) (by omega) (by omega) i t h)).mono ?_
      rintro e w' ⟨rfl, G2, hb2⟩
      refine .inl ⟨_, p, vi, HR, by omega, rfl, ?_, Moved.refl _ _, hb2⟩
      show MAt w' base mb sb (setX X d (valV 19 (X a) (X b) (X d) i)) p vi
      rw [hX]; exact G2
  · have hd := alw_write (show alw 2 d = true from hd)
    have ha := alw_read (show alw 1 a = true from ha)
    have hbb := alw_read (show alw 1 b = true from hbb)
    obtain ⟨d, rfl⟩ : ∃ n : Nat, d = n := ⟨d.toNat, by omega⟩
    obtain ⟨a, rfl⟩ : ∃ n : Nat, a = n := ⟨a.toNat, by omega⟩
    obtain ⟨b, rfl⟩ : ∃ n : Nat, b = n := ⟨b.toNat, by omega⟩
    have HR := opR_val (m := m) (wt := wt) (M := ⟨X, pqs p⟩) (d := d) (a := a) (b := b) (i := i) (t := t) 20 (by omega)
    have hX : X b = 0 ∧ valV 20 (X a) (X b) (X d) i = X d ∨ X b ≠ 0 ∧ valV 20 (X a) (X b) (X d) i = rst (X a) (X b) false := by
      by_cases h : X b = 0
      · exact .inl ⟨h, by unfold valV; simp [h]⟩
      · exact .inr ⟨h, by unfold valV; simp [h]⟩
    rcases hX with ⟨h, hX⟩ | ⟨h, hX⟩
    · refine (do_20 G d a b i t X (fun W g => divide_20_0 g d a b (by omega) (by omega) (by omega) i t h)).mono ?_
      rintro e w' ⟨rfl, G2, hb2⟩
      refine .inl ⟨_, p, vi, HR, by omega, rfl, ?_, Moved.refl _ _, hb2⟩
      show MAt w' base mb sb (setX X d (valV 20 (X a) (X b) (X d) i)) p vi
      rw [hX, setX_same]; exact G2
    · refine (do_20 G d a b i t _ (fun W g => divide_20 g d a b (by omega) (by omega) (by omega) i t h)).mono ?_
      rintro e w' ⟨rfl, G2, hb2⟩
      refine .inl ⟨_, p, vi, HR, by omega, rfl, ?_, Moved.refl _ _, hb2⟩
      show MAt w' base mb sb (setX X d (valV 20 (X a) (X b) (X d) i)) p vi
      rw [hX]; exact G2
  · have ha := alw_read (show alw 1 a = true from ha)
    have hbb := alw_read (show alw 1 b = true from hbb)
    obtain ⟨a, rfl⟩ : ∃ n : Nat, a = n := ⟨a.toNat, by omega⟩
    obtain ⟨b, rfl⟩ : ∃ n : Nat, b = n := ⟨b.toNat, by omega⟩
    have HR : opR m wt ⟨X, pqs p⟩ ⟨kindS 21, d, a, b, i, t⟩ = if ov (sg (X a) + sg (X b)) = true then .trap else .on ⟨X, pqs p⟩ := by simp [opR, Opx.k, kn_kind]
    refine (do_21 G a b (by omega) (by omega) d i t).mono ?_
    rintro e w' ⟨rfl, G2, hb2⟩
    cases hov : ov (sg (X a) + sg (X b)) with
    | true => exact .inr ⟨by rw [HR, if_pos hov], rfl, hb2⟩
    | false => exact .inl ⟨X, p, vi, by rw [HR, if_neg (by rw [hov]; simp)], by omega, rfl, G2, Moved.refl _ _, hb2⟩
  · have ha := alw_read (show alw 1 a = true from ha)
    have hbb := alw_read (show alw 1 b = true from hbb)
    obtain ⟨a, rfl⟩ : ∃ n : Nat, a = n := ⟨a.toNat, by omega⟩
    obtain ⟨b, rfl⟩ : ∃ n : Nat, b = n := ⟨b.toNat, by omega⟩
    have HR : opR m wt ⟨X, pqs p⟩ ⟨kindS 22, d, a, b, i, t⟩ = if ov (sg (X a) - sg (X b)) = true then .trap else .on ⟨X, pqs p⟩ := by simp [opR, Opx.k, kn_kind]
    refine (do_22 G a b (by omega) (by omega) d i t).mono ?_
    rintro e w' ⟨rfl, G2, hb2⟩
    cases hov : ov (sg (X a) - sg (X b)) with
    | true => exact .inr ⟨by rw [HR, if_pos hov], rfl, hb2⟩
    | false => exact .inl ⟨X, p, vi, by rw [HR, if_neg (by rw [hov]; simp)], by omega, rfl, G2, Moved.refl _ _, hb2⟩
  · have hd := alw_write (show alw 2 d = true from hd)
    have ha := alw_read (show alw 1 a = true from ha)
    have hbb := alw_load (show alw 3 b = true from hbb)
    obtain ⟨d, rfl⟩ : ∃ n : Nat, d = n := ⟨d.toNat, by omega⟩
    obtain ⟨a, rfl⟩ : ∃ n : Nat, a = n := ⟨a.toNat, by omega⟩
    have HR : opR m wt ⟨X, pqs p⟩ ⟨kindS 23, d, a, b, i, t⟩ = if chk (lo (X a + i)) (if b < 0 then -b else b) = 0 then .on ⟨setX X d (ld (vw m (pqs p)) (lo (X a + i)) (if b < 0 then -b else b) (decide (b < 0))), pqs p⟩ else .trap := by simp [opR, Opx.k, kn_kind]
    by_cases hc : chk (lo (X a + i)) (if b < 0 then -b else b) = 0
    · refine (do_23 R G hp d a (by omega) (by omega) b hbb i hi t _ _ rfl rfl hc).mono ?_
      rintro e w' ⟨rfl, G2, hb2⟩
      exact .inl ⟨_, p, vi, by rw [HR, if_pos hc], by omega, rfl, G2, Moved.refl _ _, hb2⟩
    · refine (do_23_no pe E G d a (by omega) (by omega) b hbb i hi t _ _ rfl rfl hc).mono ?_
      rintro e w' ⟨rfl, hb2⟩
      exact .inr ⟨by rw [HR, if_neg hc], rfl, hb2⟩
  · have ha := alw_read (show alw 1 a = true from ha)
    have hbb := alw_read (show alw 1 b = true from hbb)
    obtain ⟨a, rfl⟩ : ∃ n : Nat, a = n := ⟨a.toNat, by omega⟩
    obtain ⟨b, rfl⟩ : ∃ n : Nat, b = n := ⟨b.toNat, by omega⟩
    have HR : opR m wt ⟨X, pqs p⟩ ⟨kindS 24, d, a, b, i, t⟩ = if chk (lo (X a + i)) d = 0 ∧ wt (lo (X a + i) / 256) = false then .on ⟨X, pqs p ++ [⟨lo (X a + i), d, X b⟩]⟩ else .trap := by simp [opR, Opx.k, kn_kind]
    by_cases hc : chk (lo (X a + i)) d = 0 ∧ wt (lo (X a + i) / 256) = false
    · refine (do_24 hp R G a b (by omega) (by omega) d i hi t hc.1 hc.2).mono ?_
      rintro e w' ⟨rfl, ⟨vi2, G2, hm2⟩, hb2⟩
      exact .inl ⟨X, _, vi2, by rw [HR, if_pos hc]; simp [pqs], by simp, rfl, G2, hm2, hb2⟩
    · refine (do_24_no pe E R G a b (by omega) (by omega) d i hi t okd.1 okd.2 hc).mono ?_
      rintro e w' ⟨rfl, hb2⟩
      exact .inr ⟨by rw [HR, if_neg hc], rfl, hb2⟩
end
end Go.Proofs.YtjjlbpenagobiaaDoor
