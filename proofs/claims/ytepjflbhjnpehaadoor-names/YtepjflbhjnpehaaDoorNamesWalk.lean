/-
  The walk of Names: the numbers of package api, and of its errors, are told as the document has them.
-/
import Derived.Test.YtepjflbhjnpehaaDoorCode
import Derived.Deep.QuietTactic
import Derived.BigQuiet
namespace Go.Proofs.YtepjflbhjnpehaaDoor
open Go.RowKit Go.Extern.Stop Go.Stop Go.Extern
set_option linter.unusedVariables false

theorem new_any (s : ByteArray) (w : World) :
    Calls Tryd.prog 7 #[.string s] w fun e w' => e = .returned (.iface 38 (.pointer (some ⟨w.heap.size, 0, none⟩))) ∧ w' = w.alloc (.cells #[.string s] 40) := by
  go_enter Tryd.func7, Tryd.ntmps7
  go_wp2
  go_ret
  exact ⟨rfl, rfl⟩
theorem coded_nil (w : World) :
    Calls Tryd.prog 6 #[.nilIface, .int .i64 0] w fun e w' => e = .returned (.bool true) ∧ w' = w := by
  go_enter Tryd.func6, Tryd.ntmps6
  go_wp2_with (go_at_call 5; refine (code_nil _).mono ?_; rintro e w' ⟨rfl, rfl⟩)
  go_ret
  exact ⟨rfl, rfl⟩
set_option maxHeartbeats 1000000 in
theorem coded_bare (S : Nat → Addr) (p : Addr) (k : Nat) (c : Int) (w : World) (EE : Errs S w) (hk : Which S p k) (hp : ∃ c t, w.heap[p.block]? = some (.cells c t (0, 0))) (hc : num k = c) :
    Calls Tryd.prog 6 #[.iface 38 (.pointer (some p)), .int .i64 c] w fun e w' => e = .returned (.bool true) ∧ Below w.heap.size w w' := by
  go_enter Tryd.func6, Tryd.ntmps6
  go_wp2_with (go_at_call 5; refine (code_bare S p k _ EE hk hp).mono ?_; rintro e w' ⟨rfl, hb⟩)
  go_ret
  exact ⟨rfl, hb⟩
set_option maxHeartbeats 1000000 in
theorem sameInts_eq (b1 b2 n : Nat) (f : Nat → Int) (w : World) (hn : n ≤ 1000) (h1 : ∀ j, j < n → w.cell? ⟨b1, j, none⟩ = some (.int .i64 (f j))) (h2 : ∀ j, j < n → w.cell? ⟨b2, j, none⟩ = some (.int .i64 (f j))) :
    Calls Tryd.prog 4 #[.slice (some ⟨b1, 0, none⟩) n n, .slice (some ⟨b2, 0, none⟩) n n] w fun e w' => e = .returned (.bool true) ∧ ∃ q, w' = w.drewN q := by
  go_enter Tryd.func4, Tryd.ntmps4
  go_wp2
  go_loopw [5] (fun i wr => ∃ j q : Nat, j ≤ n ∧ i = .int .i64 j ∧ wr = w.drewN q) (fun i _ => n - (intOf i).toNat)
  case atStart => exact ⟨0, 0, Nat.zero_le _, rfl, rfl⟩
  case round =>
    obtain ⟨j, q, hj, rfl, rfl⟩ := hrel
    by_cases hlt : j < n
    · have c1 := h1 j hlt
      have c2 := h2 j hlt
      go_wp2
      go_quiet (fail)
      go_wp2
      go_roundw
      case rel => exact ⟨j + 1, _, by omega, by go_num, rfl⟩
      case measure => simp [intOf]; omega
    · go_wp2
      go_ret
      exact ⟨rfl, q, rfl⟩
theorem lit_cells (w : World) (L : List Int) (t : TypeId) :
    (∀ j, j < L.length → ((w.alloc (.cells (L.map (Value.int .i64)).toArray t)).alloc (.cells (L.map (Value.int .i64)).toArray t)).cell? ⟨w.heap.size, j, none⟩ = some (.int .i64 (L.getD j 0))) ∧
    (∀ j, j < L.length → ((w.alloc (.cells (L.map (Value.int .i64)).toArray t)).alloc (.cells (L.map (Value.int .i64)).toArray t)).cell? ⟨w.heap.size + 1, j, none⟩ = some (.int .i64 (L.getD j 0))) := by
  have e : ∀ j, j < L.length → (L.map (Value.int .i64)).toArray[j]? = some (.int .i64 (L.getD j 0)) := fun j hj => by
    simp [List.getD, hj]
  constructor
  · intro j hj
    rw [World.cell?_alloc_lt _ _ _ (by simp), World.cell?_alloc_at _ _ _ _ rfl]; exact e j hj
  · intro j hj
    rw [World.cell?_alloc_at _ _ _ _ (by simp)]; exact e j hj
theorem sameInts_lit (w : World) (L : List Int) (hL : L.length ≤ 1000) (t : TypeId) :
    Calls Tryd.prog 4 #[.slice (some ⟨w.heap.size, 0, none⟩) L.length L.length, .slice (some ⟨w.heap.size + 1, 0, none⟩) L.length L.length] ((w.alloc (.cells (L.map (Value.int .i64)).toArray t)).alloc (.cells (L.map (Value.int .i64)).toArray t)) fun e w' => e = .returned (.bool true) ∧ Below w.heap.size w w' := by
  refine (sameInts_eq _ _ _ (fun j => L.getD j 0) _ hL (lit_cells w L t).1 (lit_cells w L t).2).mono ?_
  rintro e w' ⟨rfl, q, rfl⟩
  have b : Below w.heap.size w ((w.alloc (.cells (L.map (Value.int .i64)).toArray t)).alloc (.cells (L.map (Value.int .i64)).toArray t)) := ((Below.refl _ _).alloc (Nat.le_refl _) _).alloc (by simp) _
  exact ⟨rfl, b.os, b.tape, b.output, b.size, b.block⟩
theorem alloc_row (w : World) (o : Obj) : (w.alloc o).heap[w.heap.size]? = some o := by
  show (w.heap.push o)[w.heap.size]? = some o
  simp
set_option maxHeartbeats 4000000 in
theorem names_any (S : Nat → Addr) (w : World) (EE : Errs S w) :
    Calls Tryd.prog 3 #[] w fun e w' => e = .returned (.bool true) ∧ Below w.heap.size w w' := by
  go_enter Tryd.func3, Tryd.ntmps3
  go_wp2_with fail
  refine (sameInts_lit w [16384, 256, 65536, 65540, 65544, 65548, 384, 12, 200, 24, 200, 64, 8, 40, 100000, 100, 16, 32, 33] (by decide) 3).mono ?_
  rintro e w1 ⟨rfl, hb1⟩
  go_wp2_with fail
  refine (sameInts_lit w1 [0, 4, 5, 8, 9, 10, 12, 0, 1, 29, 53, 54] (by decide) 3).mono ?_
  rintro e w2 ⟨rfl, hb2⟩
  have bB : Below w.heap.size w w2 := hb1.trans (hb2.mono hb1.size)
  have E2 := EE.stays bB
  obtain ⟨eh, d0, d1, d2, d3, d4, d5, d6, d7, d8, d9, er, ei⟩ := EE.stays bB
  go_wp2_with fail
  have b3 : Below w2.heap.size w2 (w2.alloc (.cells #[.iface 38 (.pointer (some (S 0))), .iface 38 (.pointer (some (S 1))), .iface 38 (.pointer (some (S 2))), .iface 38 (.pointer (some (S 3))), .iface 38 (.pointer (some (S 4))), .iface 38 (.pointer (some (S 5))), .iface 38 (.pointer (some (S 6))), .iface 38 (.pointer (some (S 7))), .iface 38 (.pointer (some (S 8))), .iface 38 (.pointer (some (S 9)))] 25)) := (Below.refl _ _).alloc (Nat.le_refl _) _
  have E3 := E2.stays b3
  go_loopw [6] (fun i wr => ∃ k : Nat, k ≤ 10 ∧ i = .int .i64 k ∧ Below (w2.heap.size + 1) (w2.alloc (.cells #[.iface 38 (.pointer (some (S 0))), .iface 38 (.pointer (some (S 1))), .iface 38 (.pointer (some (S 2))), .iface 38 (.pointer (some (S 3))), .iface 38 (.pointer (some (S 4))), .iface 38 (.pointer (some (S 5))), .iface 38 (.pointer (some (S 6))), .iface 38 (.pointer (some (S 7))), .iface 38 (.pointer (some (S 8))), .iface 38 (.pointer (some (S 9)))] 25)) wr) (fun i _ => 10 - (intOf i).toNat)
  case atStart => exact ⟨0, by omega, rfl, Below.refl _ _⟩
  case round =>
    obtain ⟨k, hk, rfl, hbr⟩ := hrel
    have Er := E3.stays (by simpa using hbr)
    by_cases h10 : k < 10
    · have hcell : wr.cell? ⟨w2.heap.size, k, none⟩ = some (.iface 38 (.pointer (some (S k)))) := by
        rw [hbr.cell (by simp)]; exact list_cell S w2 k h10
      have hw : Which S (S k) k := Or.inl ⟨h10, rfl⟩
      have hnum : num k = (k : Int) + 1 := by unfold num; rw [if_pos h10]
      have hlt : w2.heap.size < wr.heap.size := by have := hbr.size; simp at this; omega
      have bF : Below wr.heap.size wr (wr.alloc (.cells #[.int .i64 7, .iface 38 (.pointer (some (S k)))] 31)) := (Below.refl _ _).alloc (Nat.le_refl _) _
      have EF := Er.stays bF
      go_wp2_with fail
      refine (code_fault S (S k) k wr.heap.size 0 7 _ EF hw (EF.row k h10) (by simp) (by simp)).mono ?_
      rintro e w4 ⟨rfl, hb4⟩
      have b4 : Below wr.heap.size wr w4 := bF.trans (hb4.mono (by simp))
      have E4 := Er.stays b4
      have hcell4 : w4.cell? ⟨w2.heap.size, k, none⟩ = some (.iface 38 (.pointer (some (S k)))) := by rw [b4.cell hlt]; exact hcell
      go_wp2_with fail
      refine (coded_bare S (S k) k _ _ E4 hw (E4.row k h10) hnum).mono ?_
      rintro e w5 ⟨rfl, hb5⟩
      go_wp2
      go_roundw
      case rel => exact ⟨k + 1, by omega, by go_num, hbr.trans ((b4.trans (hb5.mono b4.size)).mono hlt)⟩
      case measure => simp [intOf]; omega
    · have hn10 : num 10 = -1 := by decide
      go_wp2_with fail
      refine (new_any _ _).mono ?_
      rintro e w' ⟨rfl, rfl⟩
      have bN : ∀ o, Below wr.heap.size wr (wr.alloc o) := fun o => (Below.refl _ _).alloc (Nat.le_refl _) _
      have EN := fun o => Er.stays (bN o)
      have hno : Which S ⟨wr.heap.size, 0, none⟩ 10 := Or.inr ⟨rfl, fun j hj e => by
        obtain ⟨c, t, hr⟩ := Er.row j hj
        have := some_lt hr
        rw [← e] at this
        exact Nat.lt_irrefl _ this⟩
      go_wp2_with fail
      refine (code_bare S ⟨wr.heap.size, 0, none⟩ 10 _ (EN _) hno ⟨_, _, alloc_row _ _⟩).mono ?_
      rintro e w6 ⟨rfl, hb6⟩
      go_wp2_with fail
      refine (coded_nil _).mono ?_
      rintro e w' ⟨rfl, rfl⟩
      go_wp2
      go_ret
      exact ⟨rfl, bB.trans (((b3.mono bB.size).trans ((hbr.trans (((bN _).trans (hb6.mono (by simp))).mono (by have := hbr.size; simp at this; omega))).mono (by have := bB.size; omega))))⟩
end Go.Proofs.YtepjflbhjnpehaaDoor
