/-
  A text's middle, as the walk meets it; what is read at a letter of an order.
-/
import Derived.Test.YtccnliihdhnckaaGreatDoorPOa
namespace Go.Proofs.YtccnliihdhnckaaGreatDoor
open Go.RowKit Go.Shelf Go.Joins
open Num Tab Fm Txt
theorem run_mid (l : List UInt8) (q n : Nat) (h : q + n ≤ l.length) (w : World) : (Instr.slice 9 (.string ⟨l.toArray⟩) (some (.int .i64 (q : Int))) (some (.int .i64 ((q : Int) + (n : Int)))) none).run Tryz.prog w = .ok (.string ⟨((l.drop q).take n).toArray⟩) w := by
  have hx := ext_mid l q n h
  have hs : (⟨l.toArray⟩ : ByteArray).size = l.length := by show l.toArray.size = _; simp
  have h1 : ((q : Int) + (n : Int)).toNat = q + n := by omega
  simp [Instr.slice, run_underlying Tryz.underlying9, go_sem]
  rw [if_pos (by omega), h1, if_pos (by omega), hx]
/-- what a letter of an order reads -/
def rdo (o : UInt8) (r : List UInt8) : Option (Int × List UInt8) := if regB o then regD r else rnum r
theorem rdo_at (o : UInt8) (l : List UInt8) (a : Nat) (ha : a ≤ l.length) {n : Int} {r : List UInt8} (h : rdo o (l.drop a) = some (n, r)) : ∃ q, q ≤ l.length ∧ (l.length : Int) - r.length = q ∧ r = l.drop q ∧ -10000000000 < n ∧ n < 10000000000 := by
  unfold rdo at h
  split at h
  · obtain ⟨q, h1, h2, h3, h4, h5⟩ := regD_at l a ha h
    exact ⟨q, h1, h2, h3, by omega, h5⟩
  · exact rnum_at l a ha h
theorem rdo_neg (o : UInt8) (l : List UInt8) (a : Nat) (ha : a ≤ l.length) {n : Int} {r : List UInt8} (h : rdo o (l.drop a) = some (n, r)) (ho : regB o = true) : 0 ≤ n := by
  unfold rdo at h
  rw [if_pos ho] at h
  obtain ⟨q, _, _, _, h4, _⟩ := regD_at l a ha h
  exact h4
theorem reg_cs (o : UInt8) :
    (((o.toNat : Int) == 83) = true ∧ Hid (regB o = true)) ∨ (((o.toNat : Int) == 83) = false ∧ ((o.toNat : Int) == 84) = true ∧ Hid (regB o = true)) ∨
    (((o.toNat : Int) == 83) = false ∧ ((o.toNat : Int) == 84) = false ∧ ((o.toNat : Int) == 68) = true ∧ Hid (regB o = true)) ∨
    (((o.toNat : Int) == 83) = false ∧ ((o.toNat : Int) == 84) = false ∧ ((o.toNat : Int) == 68) = false ∧ Hid (regB o = false)) := by
  have e (v : UInt8) (k : Nat) (hv : v.toNat = k) : ((o.toNat : Int) == (k : Int)) = (o == v) := by
    by_cases h : o = v
    · subst h; simp [hv]
    · have : ¬ o.toNat = v.toNat := fun g => h (UInt8.toNat_inj.mp g)
      have h2 : (o == v) = false := by simpa using h
      rw [h2]; simp; omega
  have e1 : ((o.toNat : Int) == 83) = (o == 83) := e 83 83 rfl
  have e2 : ((o.toNat : Int) == 84) = (o == 84) := e 84 84 rfl
  have e3 : ((o.toNat : Int) == 68) = (o == 68) := e 68 68 rfl
  have hr : regB o = (o == 83 || o == 84 || o == 68) := rfl
  cases h1 : o == 83
  · cases h2 : o == 84
    · cases h3 : o == 68
      · exact Or.inr (Or.inr (Or.inr ⟨e1.trans h1, e2.trans h2, e3.trans h3, by show regB o = false; rw [hr, h1, h2, h3]; rfl⟩))
      · exact Or.inr (Or.inr (Or.inl ⟨e1.trans h1, e2.trans h2, e3.trans h3, by show regB o = true; rw [hr, h1, h2, h3]; rfl⟩))
    · exact Or.inr (Or.inl ⟨e1.trans h1, e2.trans h2, by show regB o = true; rw [hr, h1, h2]; rfl⟩)
  · exact Or.inl ⟨e1.trans h1, by show regB o = true; rw [hr, h1]; rfl⟩
theorem tm16 (n : Int) : ∃ t1 t2 : Int, n.tmod 65536 = t1 ∧ (t1 + 65536).tmod 65536 = t2 ∧ -65536 < t1 ∧ t1 < 65536 ∧ 0 ≤ t2 ∧ t2 < 65536 ∧ t2 = n % 65536 := by
  have h1 := Int.mul_tdiv_add_tmod n 65536
  have h2 := Int.tmod_lt_of_pos n (b := 65536) (by omega)
  have h3 := Int.lt_tmod_of_pos n (b := 65536) (by omega)
  refine ⟨n.tmod 65536, (n.tmod 65536 + 65536).tmod 65536, rfl, rfl, by omega, by omega, ?_, ?_, ?_⟩
  · rw [Int.tmod_eq_emod_of_nonneg (by omega)]; omega
  · rw [Int.tmod_eq_emod_of_nonneg (by omega)]; omega
  · rw [Int.tmod_eq_emod_of_nonneg (by omega)]; omega
theorem ord_all {o : UInt8} (h : ordB o = true) : o = 83 ∨ o = 84 ∨ o = 68 ∨ o = 97 ∨ o = 110 ∨ o = 109 ∨ o = 117 ∨ o = 106 := by
  unfold ordB regB at h
  simp only [Bool.or_eq_true, beq_iff_eq] at h
  rcases h with (((((((h | h) | h) | h) | h) | h) | h)) | h <;> simp [h]
theorem lett_num {o : UInt8} (h : ordB o = true) : numB (lett o) = true := by
  rcases ord_all h with rfl | rfl | rfl | rfl | rfl | rfl | rfl | rfl <;> decide
theorem put_none (c : UInt8) (hc : numB c = true) (n : Int) (acc : Option F) : (put c n acc).isNone = (acc.isNone || !inB c n) := by
  cases h : inB c n with
  | true => rw [put_in c hc n acc h]; simp
  | false => rw [put_out c hc n acc h]; simp
theorem low_bd (c : UInt8) : -32768 ≤ lowB c ∧ lowB c ≤ 0 ∧ 0 ≤ highB c ∧ highB c ≤ 67108863 := by
  refine ⟨?_, ?_, ?_, ?_⟩
  · unfold lowB; split <;> omega
  · unfold lowB; split <;> omega
  · unfold highB; repeat' split
    all_goals omega
  · unfold highB; repeat' split
    all_goals omega
theorem strip_at (l : List UInt8) (q : Nat) (c : UInt8) (h : q < l.length) : strip [c] (l.drop q) = if l[q] = c then some (l.drop (q + 1)) else none := by
  rw [List.drop_eq_getElem_cons h]
  simp only [strip]
end Go.Proofs.YtccnliihdhnckaaGreatDoor
