/-
  Package asm's put, in the memory of Parse: the answer's block, the instruction's, the form's iterator.
-/
import Derived.Test.YtccnliihdhnckaaGreatDoorText
namespace Go.Proofs.YtccnliihdhnckaaGreatDoor
open Go.RowKit Go.Shelf Go.Joins
open Num Tab Fm Txt
set_option linter.unusedVariables false
/-- what stands in the memory while a text is read -/
structure PInv (w wr : World) (l : List UInt8) (p : Nat) (o : Int) (f : F) : Prop where
  it : wr.heap[w.heap.size + 1 + 1]? = some (.stringIter ⟨l.toArray⟩ p)
  z : ZAt w.heap.size wr
  c0 : wr.cell? ⟨w.heap.size + 1, 0, none⟩ = some (.int .i64 o)
  c1 : wr.cell? ⟨w.heap.size + 1, 1, none⟩ = some (.int .i64 f.s)
  c2 : wr.cell? ⟨w.heap.size + 1, 2, none⟩ = some (.int .i64 f.t)
  c3 : wr.cell? ⟨w.heap.size + 1, 3, none⟩ = some (.int .i64 f.d)
  c4 : wr.cell? ⟨w.heap.size + 1, 4, none⟩ = some (.int .u32 f.m)
  fz : ∀ j, wr.frozen? ⟨w.heap.size + 1, j, none⟩ = false
  bel : Below w.heap.size w wr
section
variable {w wr : World} {l : List UInt8} {p : Nat} {o : Int} {f : F}
theorem PInv.size (E : PInv w wr l p o f) : w.heap.size + 1 + 1 < wr.heap.size := some_lt E.it
theorem PInv.next (E : PInv w wr l p o f) (j : Nat) : PInv w (wr.iterAt (w.heap.size + 1 + 1) ⟨l.toArray⟩ j) l j o f := by
  have c : ∀ {b i : Nat} {v : Value}, b ≠ w.heap.size + 1 + 1 → wr.cell? ⟨b, i, none⟩ = some v → (wr.iterAt (w.heap.size + 1 + 1) ⟨l.toArray⟩ j).cell? ⟨b, i, none⟩ = some v := fun hb h => by
    rw [World.cell?_of_block (w := wr) (Lib.iterAt_other wr _ _ _ _ hb)]; exact h
  have g : ∀ {b i : Nat}, b ≠ w.heap.size + 1 + 1 → wr.frozen? ⟨b, i, none⟩ = false → (wr.iterAt (w.heap.size + 1 + 1) ⟨l.toArray⟩ j).frozen? ⟨b, i, none⟩ = false := fun hb h => by
    rw [World.frozen?_of_block (w := wr) (Lib.iterAt_other wr _ _ _ _ hb)]; exact h
  exact ⟨Lib.iterAt_heap wr _ _ p _ E.it, ⟨c (by omega) E.z.z0, c (by omega) E.z.z1, c (by omega) E.z.z2, c (by omega) E.z.z3, c (by omega) E.z.z4, fun j => g (by omega) (E.z.fz j)⟩,
    c (by omega) E.c0, c (by omega) E.c1, c (by omega) E.c2, c (by omega) E.c3, c (by omega) E.c4, fun j => g (by omega) (E.fz j), Lib.below_iterAt E.bel (by omega) _ _⟩
theorem PInv.grow (E : PInv w wr l p o f) {w1 : World} (h : Below wr.heap.size wr w1) : PInv w w1 l p o f := by
  have hs := E.size
  exact ⟨row_stays h (Nat.le_refl _) E.it, E.z.stays h (by omega), cell_stays h (Nat.le_refl _) E.c0, cell_stays h (Nat.le_refl _) E.c1, cell_stays h (Nat.le_refl _) E.c2, cell_stays h (Nat.le_refl _) E.c3, cell_stays h (Nat.le_refl _) E.c4,
    fun j => (h.frozen (p := ⟨w.heap.size + 1, j, none⟩) (by show w.heap.size + 1 < _; omega)).trans (E.fz j), E.bel.trans (h.mono E.bel.size)⟩
theorem PInv.drewN (E : PInv w wr l p o f) (n : Nat) : PInv w (wr.drewN n) l p o f := E.grow ((Below.refl _ _).trans ⟨rfl, rfl, rfl, Nat.le_refl _, fun _ _ => rfl⟩)
theorem PInv.putS (E : PInv w wr l p o f) (v : Int) : PInv w (wr.setCell ⟨w.heap.size + 1, 1, none⟩ (.int .i64 v)) l p o { f with s := v } := by
  have z := E.z
  have c : ∀ {q : Nat} {u : Value}, q ≠ 1 → wr.cell? ⟨w.heap.size + 1, q, none⟩ = some u → (wr.setCell ⟨w.heap.size + 1, 1, none⟩ (.int .i64 v)).cell? ⟨w.heap.size + 1, q, none⟩ = some u := fun hq h => by
    rw [World.cell?_setCell_other _ _ _ _ (by intro e; injection e with e1 e2; exact hq e2.symm)]; exact h
  exact ⟨by rw [Below.heap_setCell _ _ _ _ (by show _ ≠ w.heap.size + 1; omega)]; exact E.it,
    ⟨by rw [World.cell?_setCell_other _ _ _ _ (by simp)]; exact z.z0, by rw [World.cell?_setCell_other _ _ _ _ (by simp)]; exact z.z1, by rw [World.cell?_setCell_other _ _ _ _ (by simp)]; exact z.z2, by rw [World.cell?_setCell_other _ _ _ _ (by simp)]; exact z.z3, by rw [World.cell?_setCell_other _ _ _ _ (by simp)]; exact z.z4, fun j => by simpa using z.fz j⟩,
    c (by decide) E.c0, World.cell?_setCell_same _ _ _ E.c1, c (by decide) E.c2, c (by decide) E.c3, c (by decide) E.c4, fun j => by simpa using E.fz j, E.bel.setCell (by show w.heap.size ≤ w.heap.size + 1; omega) _⟩
theorem PInv.putT (E : PInv w wr l p o f) (v : Int) : PInv w (wr.setCell ⟨w.heap.size + 1, 2, none⟩ (.int .i64 v)) l p o { f with t := v } := by
  have z := E.z
  have c : ∀ {q : Nat} {u : Value}, q ≠ 2 → wr.cell? ⟨w.heap.size + 1, q, none⟩ = some u → (wr.setCell ⟨w.heap.size + 1, 2, none⟩ (.int .i64 v)).cell? ⟨w.heap.size + 1, q, none⟩ = some u := fun hq h => by
    rw [World.cell?_setCell_other _ _ _ _ (by intro e; injection e with e1 e2; exact hq e2.symm)]; exact h
  exact ⟨by rw [Below.heap_setCell _ _ _ _ (by show _ ≠ w.heap.size + 1; omega)]; exact E.it,
    ⟨by rw [World.cell?_setCell_other _ _ _ _ (by simp)]; exact z.z0, by rw [World.cell?_setCell_other _ _ _ _ (by simp)]; exact z.z1, by rw [World.cell?_setCell_other _ _ _ _ (by simp)]; exact z.z2, by rw [World.cell?_setCell_other _ _ _ _ (by simp)]; exact z.z3, by rw [World.cell?_setCell_other _ _ _ _ (by simp)]; exact z.z4, fun j => by simpa using z.fz j⟩,
    c (by decide) E.c0, c (by decide) E.c1, World.cell?_setCell_same _ _ _ E.c2, c (by decide) E.c3, c (by decide) E.c4, fun j => by simpa using E.fz j, E.bel.setCell (by show w.heap.size ≤ w.heap.size + 1; omega) _⟩
theorem PInv.putD (E : PInv w wr l p o f) (v : Int) : PInv w (wr.setCell ⟨w.heap.size + 1, 3, none⟩ (.int .i64 v)) l p o { f with d := v } := by
  have z := E.z
  have c : ∀ {q : Nat} {u : Value}, q ≠ 3 → wr.cell? ⟨w.heap.size + 1, q, none⟩ = some u → (wr.setCell ⟨w.heap.size + 1, 3, none⟩ (.int .i64 v)).cell? ⟨w.heap.size + 1, q, none⟩ = some u := fun hq h => by
    rw [World.cell?_setCell_other _ _ _ _ (by intro e; injection e with e1 e2; exact hq e2.symm)]; exact h
  exact ⟨by rw [Below.heap_setCell _ _ _ _ (by show _ ≠ w.heap.size + 1; omega)]; exact E.it,
    ⟨by rw [World.cell?_setCell_other _ _ _ _ (by simp)]; exact z.z0, by rw [World.cell?_setCell_other _ _ _ _ (by simp)]; exact z.z1, by rw [World.cell?_setCell_other _ _ _ _ (by simp)]; exact z.z2, by rw [World.cell?_setCell_other _ _ _ _ (by simp)]; exact z.z3, by rw [World.cell?_setCell_other _ _ _ _ (by simp)]; exact z.z4, fun j => by simpa using z.fz j⟩,
    c (by decide) E.c0, c (by decide) E.c1, c (by decide) E.c2, World.cell?_setCell_same _ _ _ E.c3, c (by decide) E.c4, fun j => by simpa using E.fz j, E.bel.setCell (by show w.heap.size ≤ w.heap.size + 1; omega) _⟩
theorem PInv.putM (E : PInv w wr l p o f) (v : Int) : PInv w (wr.setCell ⟨w.heap.size + 1, 4, none⟩ (.int .u32 v)) l p o { f with m := v } := by
  have z := E.z
  have c : ∀ {q : Nat} {u : Value}, q ≠ 4 → wr.cell? ⟨w.heap.size + 1, q, none⟩ = some u → (wr.setCell ⟨w.heap.size + 1, 4, none⟩ (.int .u32 v)).cell? ⟨w.heap.size + 1, q, none⟩ = some u := fun hq h => by
    rw [World.cell?_setCell_other _ _ _ _ (by intro e; injection e with e1 e2; exact hq e2.symm)]; exact h
  exact ⟨by rw [Below.heap_setCell _ _ _ _ (by show _ ≠ w.heap.size + 1; omega)]; exact E.it,
    ⟨by rw [World.cell?_setCell_other _ _ _ _ (by simp)]; exact z.z0, by rw [World.cell?_setCell_other _ _ _ _ (by simp)]; exact z.z1, by rw [World.cell?_setCell_other _ _ _ _ (by simp)]; exact z.z2, by rw [World.cell?_setCell_other _ _ _ _ (by simp)]; exact z.z3, by rw [World.cell?_setCell_other _ _ _ _ (by simp)]; exact z.z4, fun j => by simpa using z.fz j⟩,
    c (by decide) E.c0, c (by decide) E.c1, c (by decide) E.c2, c (by decide) E.c3, World.cell?_setCell_same _ _ _ E.c4, fun j => by simpa using E.fz j, E.bel.setCell (by show w.heap.size ≤ w.heap.size + 1; omega) _⟩
end
theorem put_inv {w wr : World} {l : List UInt8} {p : Nat} {o : Int} {f : F} (E : PInv w wr l p o f) (c : UInt8) (n : Int) (n0 : -9223372036854775808 ≤ n) (n1 : n ≤ 9223372036854775807) :
    Calls Tryz.prog 37 #[.pointer (some ⟨w.heap.size + 1, 0, none⟩), .int .i32 c.toNat, .int .i64 n] wr fun e w' => ∃ f', e = .returned (.bool (put c n (some f)).isSome) ∧ (∀ g, put c n (some f) = some g → f' = g) ∧ PInv w w' l p o f' := by
  cases h : numB c with
  | false =>
    refine (putN (w.heap.size + 1) _ n (num_ne h 83 (by decide)) (num_ne h 84 (by decide)) (num_ne h 68 (by decide)) (num_ne h 97 (by decide)) (num_ne h 105 (by decide)) (num_ne h 117 (by decide)) (num_ne h 106 (by decide)) wr).mono ?_
    rintro e w' ⟨rfl, rfl⟩
    refine ⟨f, ?_, ?_, E⟩
    · rw [put, if_neg (by rw [h]; decide)]; rfl
    · intro g hg; rw [put, if_neg (by rw [h]; decide)] at hg; injection hg
  | true =>
    rcases num_cases h with rfl | rfl | rfl | rfl | rfl | rfl | rfl
    · by_cases hb : 0 ≤ n ∧ n ≤ 31
      · have hin : inB 83 n = true := by unfold inB; rw [decide_eq_true_eq]; exact hb
        refine (put83_in (w.heap.size + 1) n hb.1 hb.2 wr _ E.c1 (E.fz 1)).mono ?_
        rintro e w' ⟨rfl, rfl⟩
        refine ⟨setF f 83 n, ?_, ?_, ?_⟩
        · rw [put, if_pos h, if_pos hin]; rfl
        · intro g hg; rw [put, if_pos h, if_pos hin] at hg; injection hg
        · exact E.putS n
      · have hin : ¬ inB 83 n = true := by unfold inB; rw [decide_eq_true_eq]; exact hb
        refine (put83_out (w.heap.size + 1) n n0 n1 (by omega) wr).mono ?_
        rintro e w' ⟨rfl, rfl⟩
        refine ⟨f, ?_, ?_, E⟩
        · rw [put, if_pos h, if_neg hin]; rfl
        · intro g hg; rw [put, if_pos h, if_neg hin] at hg; cases hg
    · by_cases hb : 0 ≤ n ∧ n ≤ 31
      · have hin : inB 84 n = true := by unfold inB; rw [decide_eq_true_eq]; exact hb
        refine (put84_in (w.heap.size + 1) n hb.1 hb.2 wr _ E.c2 (E.fz 2)).mono ?_
        rintro e w' ⟨rfl, rfl⟩
        refine ⟨setF f 84 n, ?_, ?_, ?_⟩
        · rw [put, if_pos h, if_pos hin]; rfl
        · intro g hg; rw [put, if_pos h, if_pos hin] at hg; injection hg
        · exact E.putT n
      · have hin : ¬ inB 84 n = true := by unfold inB; rw [decide_eq_true_eq]; exact hb
        refine (put84_out (w.heap.size + 1) n n0 n1 (by omega) wr).mono ?_
        rintro e w' ⟨rfl, rfl⟩
        refine ⟨f, ?_, ?_, E⟩
        · rw [put, if_pos h, if_neg hin]; rfl
        · intro g hg; rw [put, if_pos h, if_neg hin] at hg; cases hg
    · by_cases hb : 0 ≤ n ∧ n ≤ 31
      · have hin : inB 68 n = true := by unfold inB; rw [decide_eq_true_eq]; exact hb
        refine (put68_in (w.heap.size + 1) n hb.1 hb.2 wr _ E.c3 (E.fz 3)).mono ?_
        rintro e w' ⟨rfl, rfl⟩
        refine ⟨setF f 68 n, ?_, ?_, ?_⟩
        · rw [put, if_pos h, if_pos hin]; rfl
        · intro g hg; rw [put, if_pos h, if_pos hin] at hg; injection hg
        · exact E.putD n
      · have hin : ¬ inB 68 n = true := by unfold inB; rw [decide_eq_true_eq]; exact hb
        refine (put68_out (w.heap.size + 1) n n0 n1 (by omega) wr).mono ?_
        rintro e w' ⟨rfl, rfl⟩
        refine ⟨f, ?_, ?_, E⟩
        · rw [put, if_pos h, if_neg hin]; rfl
        · intro g hg; rw [put, if_pos h, if_neg hin] at hg; cases hg
    · by_cases hb : 0 ≤ n ∧ n ≤ 31
      · have hin : inB 97 n = true := by unfold inB; rw [decide_eq_true_eq]; exact hb
        refine (put97_in (w.heap.size + 1) n hb.1 hb.2 wr _ E.c4 (E.fz 4)).mono ?_
        rintro e w' ⟨rfl, rfl⟩
        refine ⟨setF f 97 n, ?_, ?_, ?_⟩
        · rw [put, if_pos h, if_pos hin]; rfl
        · intro g hg; rw [put, if_pos h, if_pos hin] at hg; injection hg
        · have e : setF f 97 n = { f with m := n } := by show ({ f with m := n % 4294967296 } : F) = _; rw [Int.emod_eq_of_lt (by omega) (by omega)]
          rw [e]; exact E.putM n
      · have hin : ¬ inB 97 n = true := by unfold inB; rw [decide_eq_true_eq]; exact hb
        refine (put97_out (w.heap.size + 1) n n0 n1 (by omega) wr).mono ?_
        rintro e w' ⟨rfl, rfl⟩
        refine ⟨f, ?_, ?_, E⟩
        · rw [put, if_pos h, if_neg hin]; rfl
        · intro g hg; rw [put, if_pos h, if_neg hin] at hg; cases hg
    · by_cases hb : -32768 ≤ n ∧ n ≤ 32767
      · have hin : inB 105 n = true := by unfold inB; rw [decide_eq_true_eq]; exact hb
        refine (put105_in (w.heap.size + 1) n hb.1 hb.2 wr _ E.c4 (E.fz 4)).mono ?_
        rintro e w' ⟨rfl, rfl⟩
        refine ⟨setF f 105 n, ?_, ?_, ?_⟩
        · rw [put, if_pos h, if_pos hin]; rfl
        · intro g hg; rw [put, if_pos h, if_pos hin] at hg; injection hg
        · exact (E.putM _).putM _
      · have hin : ¬ inB 105 n = true := by unfold inB; rw [decide_eq_true_eq]; exact hb
        refine (put105_out (w.heap.size + 1) n n0 n1 (by omega) wr).mono ?_
        rintro e w' ⟨rfl, rfl⟩
        refine ⟨f, ?_, ?_, E⟩
        · rw [put, if_pos h, if_neg hin]; rfl
        · intro g hg; rw [put, if_pos h, if_neg hin] at hg; cases hg
    · by_cases hb : 0 ≤ n ∧ n ≤ 65535
      · have hin : inB 117 n = true := by unfold inB; rw [decide_eq_true_eq]; exact hb
        refine (put117_in (w.heap.size + 1) n hb.1 hb.2 wr _ E.c4 (E.fz 4)).mono ?_
        rintro e w' ⟨rfl, rfl⟩
        refine ⟨setF f 117 n, ?_, ?_, ?_⟩
        · rw [put, if_pos h, if_pos hin]; rfl
        · intro g hg; rw [put, if_pos h, if_pos hin] at hg; injection hg
        · have e : setF f 117 n = { f with m := n } := by show ({ f with m := n % 4294967296 } : F) = _; rw [Int.emod_eq_of_lt (by omega) (by omega)]
          rw [e]; exact E.putM n
      · have hin : ¬ inB 117 n = true := by unfold inB; rw [decide_eq_true_eq]; exact hb
        refine (put117_out (w.heap.size + 1) n n0 n1 (by omega) wr).mono ?_
        rintro e w' ⟨rfl, rfl⟩
        refine ⟨f, ?_, ?_, E⟩
        · rw [put, if_pos h, if_neg hin]; rfl
        · intro g hg; rw [put, if_pos h, if_neg hin] at hg; cases hg
    · by_cases hb : 0 ≤ n ∧ n ≤ 67108863
      · have hin : inB 106 n = true := by unfold inB; rw [decide_eq_true_eq]; exact hb
        refine (put106_in (w.heap.size + 1) n hb.1 hb.2 wr _ E.c4 (E.fz 4)).mono ?_
        rintro e w' ⟨rfl, rfl⟩
        refine ⟨setF f 106 n, ?_, ?_, ?_⟩
        · rw [put, if_pos h, if_pos hin]; rfl
        · intro g hg; rw [put, if_pos h, if_pos hin] at hg; injection hg
        · have e : setF f 106 n = { f with m := n } := by show ({ f with m := n % 4294967296 } : F) = _; rw [Int.emod_eq_of_lt (by omega) (by omega)]
          rw [e]; exact E.putM n
      · have hin : ¬ inB 106 n = true := by unfold inB; rw [decide_eq_true_eq]; exact hb
        refine (put106_out (w.heap.size + 1) n n0 n1 (by omega) wr).mono ?_
        rintro e w' ⟨rfl, rfl⟩
        refine ⟨f, ?_, ?_, E⟩
        · rw [put, if_pos h, if_neg hin]; rfl
        · intro g hg; rw [put, if_pos h, if_neg hin] at hg; cases hg
end Go.Proofs.YtccnliihdhnckaaGreatDoor
