/-
  The document's answer's text of an instruction: TextOf.
-/
import Derived.Test.YtccnliihdhnckaaGreatDoorDec
import Derived.Test.YtccnliihdhnckaaGreatDoorRowOf
import Derived.Lib.QuietBelow
namespace Go.Proofs.YtccnliihdhnckaaGreatDoor
open Go.RowKit Go.Shelf Go.Joins
open Num Tab Fm Txt
set_option linter.unusedVariables false
theorem rj_snoc (f : F) (l : List UInt8) (o : UInt8) (first : Bool) : rj f first (l ++ [o]) = rj f first l ++ (sep (first && l.isEmpty) ++ rpc f o) := by
  induction l generalizing first with
  | nil => simp [rj]
  | cons x l ih => simp [rj, ih, List.append_assoc]
theorem rj_take (f : F) (l : List UInt8) (j : Nat) (h : j < l.length) : rj f true (l.take (j + 1)) = rj f true (l.take j) ++ (sep (decide (j = 0)) ++ rpc f l[j]) := by
  rw [List.take_add_one, List.getElem?_eq_getElem h]
  simp only [Option.toList_some]
  rw [rj_snoc]
  congr 3
  cases j with
  | zero => simp
  | succ j =>
    cases l with
    | nil => simp at h
    | cons x l => simp
theorem rpc_len (f : F) (o : UInt8) (h : ∀ x, (x = f.s ∨ x = f.t ∨ x = f.d ∨ x = f.m ∨ x = i16 f.m) → (Lib.itoa x).length ≤ 21) : (rpc f o).length ≤ 60 := by
  have a := h f.s (by simp); have b := h f.t (by simp); have c := h f.d (by simp); have d := h f.m (by simp); have e := h (i16 f.m) (by simp)
  unfold rpc
  split
  · simp; omega
  · split
    · simp; omega
    · split
      · simp; omega
      · split
        · omega
        · split
          · simp; omega
          · omega
theorem rj_len (f : F) (h : ∀ x, (x = f.s ∨ x = f.t ∨ x = f.d ∨ x = f.m ∨ x = i16 f.m) → (Lib.itoa x).length ≤ 21) (l : List UInt8) (first : Bool) : (rj f first l).length ≤ 62 * l.length := by
  induction l generalizing first with
  | nil => simp [rj]
  | cons o l ih =>
    have a := rpc_len f o h
    have b := ih false
    have c : (sep first).length ≤ 2 := by cases first <;> decide
    simp only [rj, List.length_append, List.length_cons]
    omega
/-- what stands in the memory: the instruction, its row -/
structure RInv (C R : Nat) (wr : World) (k : Nat) (s t d m : Int) : Prop where
  c1 : wr.cell? ⟨C, 1, none⟩ = some (.int .i64 s)
  c2 : wr.cell? ⟨C, 2, none⟩ = some (.int .i64 t)
  c3 : wr.cell? ⟨C, 3, none⟩ = some (.int .i64 d)
  c4 : wr.cell? ⟨C, 4, none⟩ = some (.int .u32 m)
  r4 : wr.cell? ⟨R, 4, none⟩ = some (.string ⟨(ordr k).toArray⟩)
theorem RInv.grow {C R : Nat} {wr w1 : World} {k : Nat} {s t d m : Int} (E : RInv C R wr k s t d m) (h : Below wr.heap.size wr w1) : RInv C R w1 k s t d m :=
  ⟨cell_stays h (Nat.le_refl _) E.c1, cell_stays h (Nat.le_refl _) E.c2, cell_stays h (Nat.le_refl _) E.c3, cell_stays h (Nat.le_refl _) E.c4, cell_stays h (Nat.le_refl _) E.r4⟩
theorem one_of {j : Nat} (h : ((j : Int) == 0) = true) : Value.int .i64 1 = .int .i64 ((j + 1 : Nat) : Int) := by
  have h0 : j = 0 := by simpa using h
  subst h0; rfl
theorem ord_cases : ∀ k, k < 54 → (ordr k).length ≤ 3 := by decide
theorem ord_of {f : F} {o : UInt8} (h : ordB o = true) :
    (((o.toNat : Int) == 83) = true ∧ Hid (rpc f o = 36 :: Lib.itoa f.s)) ∨
    (((o.toNat : Int) == 83) = false ∧ ((o.toNat : Int) == 84) = true ∧ Hid (rpc f o = 36 :: Lib.itoa f.t)) ∨
    (((o.toNat : Int) == 83) = false ∧ ((o.toNat : Int) == 84) = false ∧ ((o.toNat : Int) == 68) = true ∧ Hid (rpc f o = 36 :: Lib.itoa f.d)) ∨
    (((o.toNat : Int) == 83) = false ∧ ((o.toNat : Int) == 84) = false ∧ ((o.toNat : Int) == 68) = false ∧ ((o.toNat : Int) == 110) = true ∧ Hid (rpc f o = Lib.itoa (i16 f.m))) ∨
    (((o.toNat : Int) == 83) = false ∧ ((o.toNat : Int) == 84) = false ∧ ((o.toNat : Int) == 68) = false ∧ ((o.toNat : Int) == 110) = false ∧ ((o.toNat : Int) == 109) = true ∧ Hid (rpc f o = Lib.itoa (i16 f.m) ++ [40] ++ (36 :: Lib.itoa f.s) ++ [41])) ∨
    (((o.toNat : Int) == 83) = false ∧ ((o.toNat : Int) == 84) = false ∧ ((o.toNat : Int) == 68) = false ∧ ((o.toNat : Int) == 110) = false ∧ ((o.toNat : Int) == 109) = false ∧ Hid (rpc f o = Lib.itoa f.m)) := by
  have : o = 83 ∨ o = 84 ∨ o = 68 ∨ o = 97 ∨ o = 110 ∨ o = 109 ∨ o = 117 ∨ o = 106 := by
    unfold ordB regB at h
    simp only [Bool.or_eq_true, beq_iff_eq] at h
    rcases h with (((((((h | h) | h) | h) | h) | h) | h)) | h <;> simp [h]
  rcases this with rfl | rfl | rfl | rfl | rfl | rfl | rfl | rfl
  · exact Or.inl ⟨by decide, rfl⟩
  · exact Or.inr (Or.inl ⟨by decide, by decide, rfl⟩)
  · exact Or.inr (Or.inr (Or.inl ⟨by decide, by decide, by decide, rfl⟩))
  · exact Or.inr (Or.inr (Or.inr (Or.inr (Or.inr ⟨by decide, by decide, by decide, by decide, by decide, rfl⟩))))
  · exact Or.inr (Or.inr (Or.inr (Or.inl ⟨by decide, by decide, by decide, by decide, rfl⟩)))
  · exact Or.inr (Or.inr (Or.inr (Or.inr (Or.inl ⟨by decide, by decide, by decide, by decide, by decide, rfl⟩))))
  · exact Or.inr (Or.inr (Or.inr (Or.inr (Or.inr ⟨by decide, by decide, by decide, by decide, by decide, rfl⟩))))
  · exact Or.inr (Or.inr (Or.inr (Or.inr (Or.inr ⟨by decide, by decide, by decide, by decide, by decide, rfl⟩))))
end Go.Proofs.YtccnliihdhnckaaGreatDoor
