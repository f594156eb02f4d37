/-
  The closed fact of chapter 10.
-/
import Derived.Test.YtidagpanknhaaaaDoorMk6
namespace Go.Proofs.YtidagpanknhaaaaDoor
open Go.RowKit Go.Maps
open Num
set_option linter.unusedVariables false
def pl3 : List Opx := [⟨kindS 1, 5, 0, 0, 7, 0⟩, ⟨kindS 1, 6, 0, 0, 8, 0⟩, ⟨kindS 26, 0, 0, 0, 40, 0⟩]
theorem pl3_ok : ∀ o ∈ pl3, o.ok := by
  intro o ho
  unfold pl3 at ho
  simp only [List.mem_cons, List.not_mem_nil, or_false] at ho
  rcases ho with rfl | rfl | rfl <;> exact ⟨by decide, by decide, by decide, by decide, by decide, by decide, by decide, by decide, by decide, by decide⟩
theorem pl3_code : codeF 1 pl3 = (0, -1) := by decide
theorem pl3_len : (makeP pl3).rows.length = 1 := by decide
theorem pl3_ops : lenR (makeP pl3).rows = 3 := by decide
theorem pl3_wide : widR (makeP pl3).rows = 3 := by decide
theorem pl3_few : Few (makeP pl3).rows := ⟨by rw [pl3_len]; omega, fun r hr => by have := (makeP_ok pl3).2.2 r hr; have h3 : pl3.length = 3 := rfl; omega⟩
theorem pl3_in (w W : World) (h : W.heap[w.heap.size]? = some (.cells (opL pl3).toArray 42 (0, 0))) : OpsIn W (.slice (some ⟨w.heap.size, 0, none⟩) 3 3) pl3 := by
  refine ⟨⟨_, 3, rfl, by decide, fun _ => ⟨w.heap.size, 0, rfl, fun i o hi j u hj => ?_⟩⟩, pl3_ok⟩
  rw [cell_of_row _ _ _ _ _ _ h, Nat.zero_add, List.getElem?_toArray, opL_get pl3 i o j hi (List.getElem?_eq_some_iff.1 hj).1]
  exact hj
set_option maxRecDepth 100000 in
set_option maxHeartbeats 4000000 in
theorem planned_any (pe : Nat → Addr) {w : World} (E : Eg pe w) (hS : Mst w) : Calls Tryd.prog 4 #[] w fun e w' => e = .returned (.bool true) ∧ Below w.heap.size w w' := by
  have EH : Hid (Eg pe w) := E
  have SH : Hid (Mst w) := hS
  clear E hS
  go_enter Tryd.func4, Tryd.ntmps4
  go_wp2_with fail
  have hrow : (w.alloc (.cells #[.string ⟨#[115, 101, 116]⟩, .int .i64 5, .int .i64 0, .int .i64 0, .int .u32 7, .int .i64 0, .string ⟨#[115, 101, 116]⟩, .int .i64 6, .int .i64 0, .int .i64 0, .int .u32 8, .int .i64 0, .string ⟨#[111, 117, 116]⟩, .int .i64 0, .int .i64 0, .int .i64 0, .int .u32 40, .int .i64 0] 42)).heap[w.heap.size]? = some (.cells (opL pl3).toArray 42 (0, 0)) := heap_alloc_new w _
  have BV : Below w.heap.size w (w.alloc (.cells #[.string ⟨#[115, 101, 116]⟩, .int .i64 5, .int .i64 0, .int .i64 0, .int .u32 7, .int .i64 0, .string ⟨#[115, 101, 116]⟩, .int .i64 6, .int .i64 0, .int .i64 0, .int .u32 8, .int .i64 0, .string ⟨#[111, 117, 116]⟩, .int .i64 0, .int .i64 0, .int .i64 0, .int .u32 40, .int .i64 0] 42)) := (Below.refl _ _).alloc (Nat.le_refl _) _
  have AV := pl3_in w _ hrow
  clear hrow
  generalize (w.alloc (.cells #[.string ⟨#[115, 101, 116]⟩, .int .i64 5, .int .i64 0, .int .i64 0, .int .u32 7, .int .i64 0, .string ⟨#[115, 101, 116]⟩, .int .i64 6, .int .i64 0, .int .i64 0, .int .u32 8, .int .i64 0, .string ⟨#[111, 117, 116]⟩, .int .i64 0, .int .i64 0, .int .i64 0, .int .u32 40, .int .i64 0] 42)) = V at *
  have hmk := make_ok pe (EH.out.stays BV) (SH.out.stays BV) AV (by decide) 0 1 (by omega) (by omega) pl3_code
  have BH : Hid (Below w.heap.size w V) := BV
  clear AV BV
  refine hmk.mono ?_
  rintro e w2 ⟨⟨vr, rfl, hR⟩, hb2⟩
  have B2 : Hid (Below w.heap.size w w2) := BH.out.trans (hb2.mono BH.out.size)
  have B3 : Below w2.heap.size w2 (w2.alloc (.cells #[.int .u32 0, .int .i64 1, vr] 29)) := (Below.refl _ _).alloc (Nat.le_refl _) _
  have R3 : Hid (RowsI (w2.alloc (.cells #[.int .u32 0, .int .i64 1, vr] 29)) vr (makeP pl3).rows) := hR.stays B3
  have B3H : Hid (Below w.heap.size w (w2.alloc (.cells #[.int .u32 0, .int .i64 1, vr] 29))) := B2.out.trans (B3.mono B2.out.size)
  obtain ⟨av, cv, hv, _, _⟩ := hR
  rw [pl3_len] at hv
  subst hv
  have y0 : (w2.alloc (.cells #[.int .u32 0, .int .i64 1, .slice av 1 cv] 29)).cell? ⟨w2.heap.size, 0, none⟩ = some (.int .u32 0) := by simp
  have y1 : (w2.alloc (.cells #[.int .u32 0, .int .i64 1, .slice av 1 cv] 29)).cell? ⟨w2.heap.size, 1, none⟩ = some (.int .i64 1) := by simp
  have y2 : (w2.alloc (.cells #[.int .u32 0, .int .i64 1, .slice av 1 cv] 29)).cell? ⟨w2.heap.size, 2, none⟩ = some (.slice av 1 cv) := by simp
  clear hmk hb2 B3 B2
  go_upto_region 2 with fail
  generalize w2.alloc (.cells #[.int .u32 0, .int .i64 1, .slice av 1 cv] 29) = W3 at *
  generalize w2.heap.size = pb at *
  have z1 := World.block_lt_of_cell? _ _ y0
  have hop := opsR_any R3.out pl3_few 0 1
  rw [pl3_ops] at hop
  go_wp2_with fail
  refine hop.mono ?_
  rintro e w4 ⟨rfl, hb4⟩
  have B4 : Hid (Below w.heap.size w w4) := B3H.out.trans (hb4.mono B3H.out.size)
  have R4 := R3.out.stays hb4
  have y0 := (hb4.cell (p := ⟨pb, 0, none⟩) z1).trans y0
  have y1 := (hb4.cell (p := ⟨pb, 1, none⟩) z1).trans y1
  have y2 := (hb4.cell (p := ⟨pb, 2, none⟩) z1).trans y2
  have z2 := World.block_lt_of_cell? _ _ y0
  have hwd := wideR_any R4 pl3_few 0 1
  rw [pl3_wide] at hwd
  clear hop hb4 R3 R4 B3H
  go_wp2_with fail
  refine hwd.mono ?_
  rintro e w5 ⟨rfl, hb5⟩
  have B5 : Hid (Below w.heap.size w w5) := B4.out.trans (hb5.mono B4.out.size)
  clear hwd hb5 B4
  go_wp2
  go_ret
  exact ⟨rfl, B5.out⟩
end Go.Proofs.YtidagpanknhaaaaDoor
