/-
  Package asm's small functions at any letter.
-/
import Derived.Lib.ItoaLen
import Derived.Laws.Concat
import Derived.Laws.BitsAllLaws
import Derived.Test.YtccnliihdhnckaaGreatDoorQTab
import Derived.Test.YtccnliihdhnckaaGreatDoorQRead
namespace Go.Proofs.YtccnliihdhnckaaGreatDoor
open Go.RowKit Go.Shelf Go.Joins
open Num Tab Fm Txt
set_option linter.unusedVariables false
theorem isNumber_any (c : UInt8) (w : World) : Calls Tryz.prog 27 #[.int .i32 c.toNat] w fun e w' => e = .returned (.bool (numB c)) ∧ w' = w := by
  cases h : numB c with
  | false => exact isNumberN _ (num_ne h 83 (by decide)) (num_ne h 84 (by decide)) (num_ne h 68 (by decide)) (num_ne h 97 (by decide)) (num_ne h 105 (by decide)) (num_ne h 117 (by decide)) (num_ne h 106 (by decide)) w
  | true =>
    rcases num_cases h with rfl | rfl | rfl | rfl | rfl | rfl | rfl
    · exact isNumber83 w
    · exact isNumber84 w
    · exact isNumber68 w
    · exact isNumber97 w
    · exact isNumber105 w
    · exact isNumber117 w
    · exact isNumber106 w
theorem value_any (c : UInt8) (h : numB c = true) (o s t d m : Int) (s0 : -9223372036854775808 ≤ s) (s1 : s ≤ 9223372036854775807) (t0 : -9223372036854775808 ≤ t) (t1 : t ≤ 9223372036854775807) (d0 : -9223372036854775808 ≤ d) (d1 : d ≤ 9223372036854775807) (m0 : 0 ≤ m) (m1 : m < 4294967296) (w : World) :
    Calls Tryz.prog 29 #[.agg #[.int .i64 o, .int .i64 s, .int .i64 t, .int .i64 d, .int .u32 m], .int .i32 c.toNat] w fun e w' => e = .returned (.int .i64 (vl ⟨s, t, d, m⟩ c)) ∧ Below w.heap.size w w' := by
  rcases num_cases h with rfl | rfl | rfl | rfl | rfl | rfl | rfl
  · exact value83 o s t d m s0 s1 t0 t1 d0 d1 m0 m1 w
  · exact value84 o s t d m s0 s1 t0 t1 d0 d1 m0 m1 w
  · exact value68 o s t d m s0 s1 t0 t1 d0 d1 m0 m1 w
  · exact value97 o s t d m s0 s1 t0 t1 d0 d1 m0 m1 w
  · exact value105 o s t d m s0 s1 t0 t1 d0 d1 m0 m1 w
  · exact value117 o s t d m s0 s1 t0 t1 d0 d1 m0 m1 w
  · exact value106 o s t d m s0 s1 t0 t1 d0 d1 m0 m1 w
theorem vl_rng (c : UInt8) (s t d m : Int) (s0 : -9223372036854775808 ≤ s) (s1 : s ≤ 9223372036854775807) (t0 : -9223372036854775808 ≤ t) (t1 : t ≤ 9223372036854775807) (d0 : -9223372036854775808 ≤ d) (d1 : d ≤ 9223372036854775807) (m0 : 0 ≤ m) (m1 : m < 4294967296) :
    -9223372036854775808 ≤ vl ⟨s, t, d, m⟩ c ∧ vl ⟨s, t, d, m⟩ c ≤ 9223372036854775807 := by
  unfold vl s16
  simp only
  split
  · exact ⟨s0, s1⟩
  · split
    · exact ⟨t0, t1⟩
    · split
      · exact ⟨d0, d1⟩
      · split <;> omega
theorem read_any (c : UInt8) (h128 : c.toNat < 128) (l : List UInt8) (hl : l.length ≤ 281474976710656) (w : World) (b : Lb w) :
    Calls Tryz.prog 36 #[.string ⟨l.toArray⟩, .int .i32 c.toNat] w fun e w' => e = .returned (rdV c l) ∧ Below w.heap.size w w' := by
  cases h : numB c with
  | false =>
    refine (readN c h h128 l w).mono ?_
    rintro e w' ⟨rfl, rfl⟩
    exact ⟨rfl, Below.refl _ _⟩
  | true =>
    rcases num_cases h with rfl | rfl | rfl | rfl | rfl | rfl | rfl
    · exact read83 l hl w b
    · exact read84 l hl w b
    · exact read68 l hl w b
    · exact read97 l hl w b
    · exact read105 l hl w b
    · exact read117 l hl w b
    · exact read106 l hl w b
theorem form_ascii : ∀ k, k < 54 → ∀ c ∈ form k, c.toNat < 128 := by decide
theorem take_flat (g : UInt8 → List UInt8) (l : List UInt8) (p : Nat) (h : p < l.length) : (l.take (p + 1)).flatMap g = (l.take p).flatMap g ++ g l[p] := by
  rw [List.take_add_one, List.getElem?_eq_getElem h, List.flatMap_append]; simp
theorem bytes_add (a b : List UInt8) : (⟨a.toArray⟩ : ByteArray) ++ ⟨b.toArray⟩ = ⟨(a ++ b).toArray⟩ := by
  apply ByteArray.ext
  simp [ByteArray.data_append]
/-- a text behind a text -/
theorem run_add (a b : List UInt8) (h : a.length + b.length ≤ 9223372036854775807) (w : World) : (Op.stringOp .add ⟨a.toArray⟩ ⟨b.toArray⟩).run Tryz.prog w = .ok (.string ⟨(a ++ b).toArray⟩) w := by
  have h2 := run_string_add_sum (P := Tryz.prog) (w := w) ⟨a.toArray⟩ ⟨b.toArray⟩ (by show a.toArray.size + b.toArray.size ≤ _; simpa using h)
  rw [bytes_add] at h2
  exact h2
theorem rend_len (s t d m : Int) (s0 : -9223372036854775808 ≤ s) (s1 : s ≤ 9223372036854775807) (t0 : -9223372036854775808 ≤ t) (t1 : t ≤ 9223372036854775807) (d0 : -9223372036854775808 ≤ d) (d1 : d ≤ 9223372036854775807) (m0 : 0 ≤ m) (m1 : m < 4294967296) (l : List UInt8) : (l.flatMap (rend ⟨s, t, d, m⟩)).length ≤ 21 * l.length := by
  induction l with
  | nil => simp
  | cons c l ih =>
    have : (rend ⟨s, t, d, m⟩ c).length ≤ 21 := by
      unfold rend
      split
      · have v := vl_rng c s t d m s0 s1 t0 t1 d0 d1 m0 m1
        exact Lib.itoa_length_le _ v.1 v.2
      · simp
    simp only [List.flatMap_cons, List.length_append, List.length_cons]
    omega
theorem form_len : ∀ k, k < 54 → (form k).length ≤ 20 ∧ (nme k).length ≤ 20 := by decide
end Go.Proofs.YtccnliihdhnckaaGreatDoor
/-
  Bits of words as sums and rests: masks, and fields laid beside one another.
-/
namespace Go.Proofs.YtccnliihdhnckaaGreatDoor
open Tab
/-- a field laid where its bits are 0 -/
theorem or_nat (x v a k : Nat) (hx : x % 2 ^ (a + k) < 2 ^ a) (hv : v < 2 ^ k) : x ||| v * 2 ^ a = x + v * 2 ^ a := by
  have e : x = x / 2 ^ (a + k) * 2 ^ (a + k) + x % 2 ^ (a + k) := by rw [Nat.mul_comm]; exact (Nat.div_add_mod x _).symm
  generalize x / 2 ^ (a + k) = h at e
  generalize x % 2 ^ (a + k) = l at e hx
  subst e
  have hk : l < 2 ^ (a + k) := Nat.lt_of_lt_of_le hx (Nat.pow_le_pow_right (by omega) (by omega))
  have hs : v * 2 ^ a + l < 2 ^ (a + k) := by
    have h1 : (v + 1) * 2 ^ a ≤ 2 ^ k * 2 ^ a := Nat.mul_le_mul_right _ hv
    rw [Nat.add_mul, Nat.one_mul, ← Nat.pow_add, Nat.add_comm k a] at h1
    omega
  have j1 : h * 2 ^ (a + k) ||| l = h * 2 ^ (a + k) + l := nat_join (a + k) _ _ (Nat.mul_mod_left _ _) hk
  have j2 : v * 2 ^ a ||| l = v * 2 ^ a + l := nat_join a _ _ (Nat.mul_mod_left _ _) hx
  have j3 : h * 2 ^ (a + k) ||| (v * 2 ^ a + l) = h * 2 ^ (a + k) + (v * 2 ^ a + l) := nat_join (a + k) _ _ (Nat.mul_mod_left _ _) hs
  rw [← j1, Nat.or_assoc, Nat.or_comm l, j2, j3, j1]
  omega
theorem or_int (x v : Int) (a k : Nat) (P Q : Int) (hP : P = 2 ^ a) (hQ : Q = 2 ^ (a + k)) (h0 : 0 ≤ x) (h1 : x < 4294967296) (v0 : 0 ≤ v) (v1 : v < 2 ^ k) (g : v * P < 4294967296) (hx : x % Q < P) : bits .or .u32 x (v * P) = x + v * P := by
  obtain ⟨x, rfl⟩ : ∃ n : Nat, x = n := ⟨x.toNat, by omega⟩
  obtain ⟨v, rfl⟩ : ∃ n : Nat, v = n := ⟨v.toNat, by omega⟩
  subst hP hQ
  have e : ((v : Int) * 2 ^ a) = ((v * 2 ^ a : Nat) : Int) := by push_cast; rfl
  rw [e] at g ⊢
  rw [u32_or_nat _ _ (by omega) (by omega), or_nat x v a k (by exact_mod_cast hx) (by exact_mod_cast v1)]
  push_cast; rfl
end Go.Proofs.YtccnliihdhnckaaGreatDoor
