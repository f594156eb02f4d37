/-
  The nine errors of package api that package asm names, where they lie.
-/
import Derived.Test.YtccnliihdhnckaaGreatDoorQCode
import Derived.Test.YtccnliihdhnckaaGreatDoorQOper
import Derived.Test.YtccnliihdhnckaaGreatDoorQDecode
import Derived.Test.YtccnliihdhnckaaGreatDoorQMatch
namespace Go.Proofs.YtccnliihdhnckaaGreatDoor
open Go.RowKit
set_option linter.unusedVariables false
structure Er9 (S : Nat → Addr) (w : World) : Prop where
  c0 : w.cell? ⟨2, 0, none⟩ = some (.iface 210 (.pointer (some (S 0))))
  c1 : w.cell? ⟨3, 0, none⟩ = some (.iface 210 (.pointer (some (S 1))))
  c3 : w.cell? ⟨6, 0, none⟩ = some (.iface 210 (.pointer (some (S 3))))
  c4 : w.cell? ⟨1, 0, none⟩ = some (.iface 210 (.pointer (some (S 4))))
  c5 : w.cell? ⟨9, 0, none⟩ = some (.iface 210 (.pointer (some (S 5))))
  c6 : w.cell? ⟨10, 0, none⟩ = some (.iface 210 (.pointer (some (S 6))))
  c7 : w.cell? ⟨4, 0, none⟩ = some (.iface 210 (.pointer (some (S 7))))
  c8 : w.cell? ⟨5, 0, none⟩ = some (.iface 210 (.pointer (some (S 8))))
  c9 : w.cell? ⟨11, 0, none⟩ = some (.iface 210 (.pointer (some (S 9))))
theorem Er9.stays {S : Nat → Addr} {w w' : World} (E : Er9 S w) (h : Below w.heap.size w w') : Er9 S w' :=
  ⟨cell_stays h (Nat.le_refl _) E.c0, cell_stays h (Nat.le_refl _) E.c1, cell_stays h (Nat.le_refl _) E.c3, cell_stays h (Nat.le_refl _) E.c4, cell_stays h (Nat.le_refl _) E.c5, cell_stays h (Nat.le_refl _) E.c6, cell_stays h (Nat.le_refl _) E.c7, cell_stays h (Nat.le_refl _) E.c8, cell_stays h (Nat.le_refl _) E.c9⟩
theorem Errs.nine {S : Nat → Addr} {w : World} (E : Errs S w) : Er9 S w := ⟨E.c0, E.c1, E.c3, E.c4, E.c5, E.c6, E.c7, E.c8, E.c9⟩
end Go.Proofs.YtccnliihdhnckaaGreatDoor
/-
  What the verifier's matches answers at any row of the document's table: whether the fields that the word has make it again.
-/
namespace Go.Proofs.YtccnliihdhnckaaGreatDoor
open Go.RowKit Go.Extern.Stop Go.Stop Go.Extern
open Num Tab Fm
set_option linter.unusedVariables false
theorem mn_0 : ∀ k, k < 54 → (hasI (sh k) || hasJ (sh k)) = true → mn k = 0 := by decide
set_option maxHeartbeats 4000000 in
theorem matches_any (k : Nat) (hk : k < 54) (g1 : 1 ≤ k) (v : Int) (h0 : 0 ≤ v) (h1 : v < 4294967296) (w : World) :
    Calls Tryz.prog 77 #[.int .u32 v, .agg #[.string ⟨(nme k).toArray⟩, .int .i64 (mj k), .int .i64 (mn k), .string ⟨(flds k).toArray⟩, .string ⟨(ordr k).toArray⟩, .string ⟨(kindR k).toArray⟩]] w fun e w' => e = .returned (.bool (decide (xw k v = v))) ∧ Below w.heap.size w w' := by
  have hf := fit_all k hk
  have hn := sh_all k hk
  have h45 := sh_45 k hk
  have hm := mn_0 k hk
  have hB := is_xw k hk g1 v h0 h1
  have hfl : flds k = lt (sh k) := rfl
  rw [hfl]
  unfold isB at hB
  unfold fitB at hf
  generalize decide (xw k v = v) = R at hB ⊢
  generalize fst k = f at hf
  generalize mj k = M at hf hB ⊢
  generalize mn k = N at hf hm hB ⊢
  generalize ByteArray.mk (nme k).toArray = x
  generalize ByteArray.mk (ordr k).toArray = y
  generalize ByteArray.mk (kindR k).toArray = z
  generalize sh k = n at *
  have hc : n = 0 ∨ n = 1 ∨ n = 2 ∨ n = 3 ∨ n = 4 ∨ n = 5 ∨ n = 6 ∨ n = 7 ∨ n = 8 ∨ n = 9 ∨ n = 10 ∨ n = 11 := by omega
  clear hn hfl
  have fin : ∀ {a b : Bool} {args : Array Value}, a = b → Calls Tryz.prog 77 args w (fun e w' => e = .returned (.bool a) ∧ Below w.heap.size w w') → Calls Tryz.prog 77 args w (fun e w' => e = .returned (.bool b) ∧ Below w.heap.size w w') := fun e h => by rw [← e]; exact h
  rcases hc with rfl | rfl | rfl | rfl | rfl | rfl | rfl | rfl | rfl | rfl | rfl | rfl
  · by_cases e45 : k = 45
    · simp [hasI, hasJ, lt, ltL, e45] at hf
      obtain ⟨rfl, hx0, hx1, rfl, hx2⟩ := hf
      simp [hasS, hasT, hasD, hasA, hasI, hasJ, lt, ltL] at hB
      refine fin ?_ (match_e x y z v h0 h1 w)
      rw [← hB] <;> (rw [Bool.eq_iff_iff]; simp only [decide_eq_true_eq, Bool.and_eq_true] <;> omega)
    · simp [hasI, hasJ, lt, ltL, e45] at hf
      obtain ⟨rfl, hx⟩ := hf
      simp [hasS, hasT, hasD, hasA, hasI, hasJ, lt, ltL] at hB
      refine fin ?_ (match_0 x y z N v h0 h1 w)
      rw [← hB] <;> (rw [Bool.eq_iff_iff]; simp only [decide_eq_true_eq, Bool.and_eq_true] <;> omega)
  · have e45 : ¬ k = 45 := fun e => by have := h45 e; omega
    simp [hasI, hasJ, lt, ltL, e45] at hf
    obtain ⟨rfl, hx⟩ := hf
    simp [hasS, hasT, hasD, hasA, hasI, hasJ, lt, ltL] at hB
    refine fin ?_ (match_1 x y z N v h0 h1 w)
    rw [← hB] <;> (rw [Bool.eq_iff_iff]; simp only [decide_eq_true_eq, Bool.and_eq_true] <;> omega)
  · have e45 : ¬ k = 45 := fun e => by have := h45 e; omega
    simp [hasI, hasJ, lt, ltL, e45] at hf
    obtain ⟨rfl, hx⟩ := hf
    simp [hasS, hasT, hasD, hasA, hasI, hasJ, lt, ltL] at hB
    refine fin ?_ (match_2 x y z N v h0 h1 w)
    rw [← hB] <;> (rw [Bool.eq_iff_iff]; simp only [decide_eq_true_eq, Bool.and_eq_true] <;> omega)
  · have e45 : ¬ k = 45 := fun e => by have := h45 e; omega
    simp [hasI, hasJ, lt, ltL, e45] at hf
    obtain ⟨rfl, hx⟩ := hf
    simp [hasS, hasT, hasD, hasA, hasI, hasJ, lt, ltL] at hB
    refine fin ?_ (match_3 x y z N v h0 h1 w)
    rw [← hB] <;> (rw [Bool.eq_iff_iff]; simp only [decide_eq_true_eq, Bool.and_eq_true] <;> omega)
  · have e45 : ¬ k = 45 := fun e => by have := h45 e; omega
    simp [hasI, hasJ, lt, ltL, e45] at hf
    obtain ⟨rfl, hx⟩ := hf
    simp [hasS, hasT, hasD, hasA, hasI, hasJ, lt, ltL] at hB
    refine fin ?_ (match_4 x y z N v h0 h1 w)
    rw [← hB] <;> (rw [Bool.eq_iff_iff]; simp only [decide_eq_true_eq, Bool.and_eq_true] <;> omega)
  · have e45 : ¬ k = 45 := fun e => by have := h45 e; omega
    simp [hasI, hasJ, lt, ltL, e45] at hf
    obtain ⟨rfl, hx⟩ := hf
    simp [hasS, hasT, hasD, hasA, hasI, hasJ, lt, ltL] at hB
    refine fin ?_ (match_5 x y z N v h0 h1 w)
    rw [← hB] <;> (rw [Bool.eq_iff_iff]; simp only [decide_eq_true_eq, Bool.and_eq_true] <;> omega)
  · have e45 : ¬ k = 45 := fun e => by have := h45 e; omega
    simp [hasI, hasJ, lt, ltL, e45] at hf
    obtain ⟨rfl, hx⟩ := hf
    simp [hasS, hasT, hasD, hasA, hasI, hasJ, lt, ltL] at hB
    refine fin ?_ (match_6 x y z N v h0 h1 w)
    rw [← hB] <;> (rw [Bool.eq_iff_iff]; simp only [decide_eq_true_eq, Bool.and_eq_true] <;> omega)
  · have hN : N = 0 := hm (by decide)
    subst hN
    simp [hasI, hasJ, lt, ltL] at hf
    obtain ⟨hx, hx1, hx2, hx3⟩ := hf
    have hM0 : M ≠ 0 := by omega
    simp [hasS, hasT, hasD, hasA, hasI, hasJ, lt, ltL, hM0, hx3] at hB
    refine fin ?_ (match_7 x y z M hM0 hx3 v h0 h1 w)
    rw [← hB] <;> (rw [Bool.eq_iff_iff]; simp only [decide_eq_true_eq, Bool.and_eq_true] <;> omega)
  · have hN : N = 0 := hm (by decide)
    subst hN
    simp [hasI, hasJ, lt, ltL] at hf
    obtain ⟨hx, hx1, hx2, hx3⟩ := hf
    have hM0 : M ≠ 0 := by omega
    simp [hasS, hasT, hasD, hasA, hasI, hasJ, lt, ltL, hM0, hx3] at hB
    refine fin ?_ (match_8 x y z M hM0 hx3 v h0 h1 w)
    rw [← hB] <;> (rw [Bool.eq_iff_iff]; simp only [decide_eq_true_eq, Bool.and_eq_true] <;> omega)
  · have hN : N = 0 := hm (by decide)
    subst hN
    simp [hasI, hasJ, lt, ltL] at hf
    obtain ⟨hx, hx1, hx2, hx3⟩ := hf
    have hM0 : M ≠ 0 := by omega
    simp [hasS, hasT, hasD, hasA, hasI, hasJ, lt, ltL, hM0, hx3] at hB
    refine fin ?_ (match_9 x y z M hM0 hx3 v h0 h1 w)
    rw [← hB] <;> (rw [Bool.eq_iff_iff]; simp only [decide_eq_true_eq, Bool.and_eq_true] <;> omega)
  · have hN : N = 0 := hm (by decide)
    subst hN
    simp [hasI, hasJ, lt, ltL] at hf
    obtain ⟨hx, hx1, hx2, hx3⟩ := hf
    have hM0 : M ≠ 0 := by omega
    simp [hasS, hasT, hasD, hasA, hasI, hasJ, lt, ltL, hM0, hx3] at hB
    refine fin ?_ (match_10 x y z M hM0 hx3 v h0 h1 w)
    rw [← hB] <;> (rw [Bool.eq_iff_iff]; simp only [decide_eq_true_eq, Bool.and_eq_true] <;> omega)
  · have e45 : ¬ k = 45 := fun e => by have := h45 e; omega
    simp [hasI, hasJ, lt, ltL, e45] at hf
    obtain ⟨rfl, hx, hx1, hx2, hx3⟩ := hf
    simp [hasS, hasT, hasD, hasA, hasI, hasJ, lt, ltL, hx2] at hB
    refine fin ?_ (match_11 x y z N hx2 v h0 h1 w)
    rw [← hB] <;> (rw [Bool.eq_iff_iff]; simp only [decide_eq_true_eq, Bool.and_eq_true] <;> omega)
end Go.Proofs.YtccnliihdhnckaaGreatDoor
/-
  The walks of coding() and of CodeKinds.
-/
namespace Go.Proofs.YtccnliihdhnckaaGreatDoor
open Go.RowKit Go.Extern.Stop Go.Stop Go.Extern
open Num Tab
set_option linter.unusedVariables false
theorem dec_ne {v u : Int} {k j : Nat} (hv : u ≠ v) (D : DecP v k) (E : DecP u j) (hk : ¬ k = 0) (a : (j : Int) = k) (b : xs (sh j) u = xs (sh k) v) (c : xt (sh j) u = xt (sh k) v) (d : xd (sh j) u = xd (sh k) v) (e : xm (sh j) u = xm (sh k) v) : False := by
  obtain rfl : j = k := by omega
  rcases D with ⟨d1, d2, d3⟩ | ⟨d1, d2⟩
  · rcases E with ⟨e1, e2, e3⟩ | ⟨e1, e2⟩
    · unfold xw at d3 e3
      rw [b, c, d, e, d3] at e3
      exact hv e3.symm
    · exact hk e1
  · exact hk d1
/-- an instruction is a word's -/
def IsIns (v : Int) (k : Nat) (s t d m : Int) : Prop := DecP v k ∧ s = xs (sh k) v ∧ t = xt (sh k) v ∧ d = xd (sh k) v ∧ m = xm (sh k) v
end Go.Proofs.YtccnliihdhnckaaGreatDoor
/-
  What the calls within CodeBack and CodeWords answer: an error's number; a word's instruction, and its word again.
-/
namespace Go.Proofs.YtccnliihdhnckaaGreatDoor
open Go.RowKit Go.Extern.Stop Go.Stop Go.Extern
open Num Tab
set_option linter.unusedVariables false
/-- the word of an instruction is that instruction's -/
theorem ins_back (k : Nat) (hk : k < 54) (h1 : 1 ≤ k) (s t d m : Int) (hm : 0 ≤ m) (ok : okB (sh k) s t d m = true) (j : Nat) (s' t' d' m' : Int) (I : IsIns (enc k s t d m) j s' t' d' m') : j = k ∧ s' = s ∧ t' = t ∧ d' = d ∧ m' = m := by
  obtain ⟨e0, e1, e2, e3, e4, e5, e6⟩ := enc_of k hk h1 s t d m hm ok
  have hx : xw k (enc k s t d m) = enc k s t d m := by
    unfold xw; rw [e3, e4, e5, e6]
  obtain ⟨D, rfl, rfl, rfl, rfl⟩ := I
  have hj : j = k := by
    rcases D with ⟨d1, d2, d3⟩ | ⟨d1, d2⟩
    · exact xw_one j k d2 d1 hk h1 _ e0 e1 d3 hx
    · exact absurd hx (d2 k h1 hk)
  subst hj
  exact ⟨rfl, e3, e4, e5, e6⟩
end Go.Proofs.YtccnliihdhnckaaGreatDoor
/-
  What the verifier's EncodeOf answers: what its texts share.
-/
namespace Go.Proofs.YtccnliihdhnckaaGreatDoor
open Go.RowKit Go.Extern.Stop Go.Stop Go.Extern
open Num Tab Fm
set_option linter.unusedVariables false
/-- what EncodeOf answers of an operation's fields -/
def encO (k : Nat) (s t d m : Int) : Value := if okB (sh k) s t d m then .tuple #[.int .u32 (enc k s t d m), .int .i64 0] else .tuple #[.int .u32 0, .int .i64 2]
theorem encO_ok {k : Nat} {s t d m : Int} (h : okB (sh k) s t d m = true) : encO k s t d m = .tuple #[.int .u32 (enc k s t d m), .int .i64 0] := by unfold encO; rw [if_pos h]
theorem encO_bad {k : Nat} {s t d m : Int} (h : okB (sh k) s t d m = false) : encO k s t d m = .tuple #[.int .u32 0, .int .i64 2] := by unfold encO; rw [if_neg (by rw [h]; decide)]
/-- what the middle of EncodeOf reads: the instruction, its row -/
structure QF (B C : Nat) (w W : World) (o s t d m : Int) (x : ByteArray) (M R : Int) (l y z : ByteArray) : Prop where
  c0 : W.cell? ⟨B, 0, none⟩ = some (.int .i64 o)
  c1 : W.cell? ⟨B, 1, none⟩ = some (.int .i64 s)
  c2 : W.cell? ⟨B, 2, none⟩ = some (.int .i64 t)
  c3 : W.cell? ⟨B, 3, none⟩ = some (.int .i64 d)
  c4 : W.cell? ⟨B, 4, none⟩ = some (.int .u32 m)
  e0 : W.cell? ⟨C, 0, none⟩ = some (.string x)
  e1 : W.cell? ⟨C, 1, none⟩ = some (.int .i64 M)
  e2 : W.cell? ⟨C, 2, none⟩ = some (.int .i64 R)
  e3 : W.cell? ⟨C, 3, none⟩ = some (.string l)
  e4 : W.cell? ⟨C, 4, none⟩ = some (.string y)
  e5 : W.cell? ⟨C, 5, none⟩ = some (.string z)
  bel : Below w.heap.size w W
theorem QF.drewN {B C : Nat} {w W : World} {o s t d m : Int} {x : ByteArray} {M R : Int} {l y z : ByteArray} (q : QF B C w W o s t d m x M R l y z) (n : Nat) : QF B C w (W.drewN n) o s t d m x M R l y z :=
  ⟨by simpa using q.c0, by simpa using q.c1, by simpa using q.c2, by simpa using q.c3, by simpa using q.c4, by simpa using q.e0, by simpa using q.e1, by simpa using q.e2, by simpa using q.e3, by simpa using q.e4, by simpa using q.e5, below_drewN q.bel n⟩
theorem ret_oo {a b c d : Int} (h : a = b) (g : c = d) : Ending.returned (.tuple #[.int .u32 a, .int .i64 c]) = .returned (.tuple #[.int .u32 b, .int .i64 d]) := by rw [h, g]
end Go.Proofs.YtccnliihdhnckaaGreatDoor
