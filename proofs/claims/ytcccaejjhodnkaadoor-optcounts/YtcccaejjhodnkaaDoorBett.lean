/-
  The closed fact of chapter 9.
-/
import Derived.Test.YtcccaejjhodnkaaDoorOptOpt
namespace Go.Proofs.YtcccaejjhodnkaaDoor
open Go.RowKit Go.Maps
open Num
set_option linter.unusedVariables false
def bl : List Opx := [⟨kindS 1, 40, 0, 0, 7, 0⟩, ⟨kindS 3, 6, 40, 40, 0, 0⟩, ⟨kindS 26, 0, 0, 0, 40, 0⟩]
theorem bl_ok : ∀ o ∈ bl, o.ok := by
  intro o ho
  unfold bl at ho
  simp only [List.mem_cons, List.not_mem_nil, or_false] at ho
  rcases ho with rfl | rfl | rfl <;> exact ⟨by decide, by decide, by decide, by decide, by decide, by decide, by decide, by decide, by decide, by decide⟩
theorem bl_code : codeF 1 bl = (0, -1) := by decide
theorem bl_len : (optL 2 bl).length = 2 := by decide
theorem bl_known : knownC fx0 bl = 1 := by decide
theorem bl_dead : deadC (optL 2 bl) = 0 := by decide
theorem bl_known2 : knownC fx0 (optL 2 bl) = 0 := by decide
theorem bl_code2 : codeF 1 (optL 2 bl) = (0, -1) := by decide
theorem bl_in (w W : World) (h : W.heap[w.heap.size]? = some (.cells (opL bl).toArray 60 (0, 0))) : OpsIn W (.slice (some ⟨w.heap.size, 0, none⟩) 3 3) bl := by
  refine ⟨⟨_, 3, rfl, by decide, fun _ => ⟨w.heap.size, 0, rfl, fun i o hi j u hj => ?_⟩⟩, bl_ok⟩
  rw [cell_of_row _ _ _ _ _ _ h, Nat.zero_add, List.getElem?_toArray, opL_get bl i o j hi (List.getElem?_eq_some_iff.1 hj).1]
  exact hj
set_option maxRecDepth 100000 in
set_option maxHeartbeats 4000000 in
theorem bettered_any (pe : Nat → Addr) {w : World} (E : Eg pe w) : Calls Tryd.prog 18 #[] w fun e w' => e = .returned (.bool true) ∧ Below w.heap.size w w' := by
  have EH : Hid (Eg pe w) := E
  clear E
  go_enter Tryd.func18, Tryd.ntmps18
  go_wp2_with fail
  have hrow : ((w.alloc (.cells #[.string ⟨#[115, 101, 116]⟩, .int .i64 40, .int .i64 0, .int .i64 0, .int .u32 7, .int .i64 0, .string ⟨#[97, 100, 100]⟩, .int .i64 6, .int .i64 40, .int .i64 40, .int .u32 0, .int .i64 0, .string ⟨#[111, 117, 116]⟩, .int .i64 0, .int .i64 0, .int .i64 0, .int .u32 40, .int .i64 0] 60)).alloc (.cells #[.int .u32 0, .int .i64 1, .slice (some ⟨w.heap.size, 0, none⟩) 3 3] 35)).heap[w.heap.size]? = some (.cells (opL bl).toArray 60 (0, 0)) := by
    rw [Below.heap_alloc _ _ _ (by simp)]
    exact heap_alloc_new w _
  have BV : Below w.heap.size w ((w.alloc (.cells #[.string ⟨#[115, 101, 116]⟩, .int .i64 40, .int .i64 0, .int .i64 0, .int .u32 7, .int .i64 0, .string ⟨#[97, 100, 100]⟩, .int .i64 6, .int .i64 40, .int .i64 40, .int .u32 0, .int .i64 0, .string ⟨#[111, 117, 116]⟩, .int .i64 0, .int .i64 0, .int .i64 0, .int .u32 40, .int .i64 0] 60)).alloc (.cells #[.int .u32 0, .int .i64 1, .slice (some ⟨w.heap.size, 0, none⟩) 3 3] 35)) := ((Below.refl _ _).alloc (Nat.le_refl _) _).alloc (by simp) _
  have k0 : ((w.alloc (.cells #[.string ⟨#[115, 101, 116]⟩, .int .i64 40, .int .i64 0, .int .i64 0, .int .u32 7, .int .i64 0, .string ⟨#[97, 100, 100]⟩, .int .i64 6, .int .i64 40, .int .i64 40, .int .u32 0, .int .i64 0, .string ⟨#[111, 117, 116]⟩, .int .i64 0, .int .i64 0, .int .i64 0, .int .u32 40, .int .i64 0] 60)).alloc (.cells #[.int .u32 0, .int .i64 1, .slice (some ⟨w.heap.size, 0, none⟩) 3 3] 35)).cell? ⟨w.heap.size + 1, 0, none⟩ = some (.int .u32 0) := by simp
  have k1 : ((w.alloc (.cells #[.string ⟨#[115, 101, 116]⟩, .int .i64 40, .int .i64 0, .int .i64 0, .int .u32 7, .int .i64 0, .string ⟨#[97, 100, 100]⟩, .int .i64 6, .int .i64 40, .int .i64 40, .int .u32 0, .int .i64 0, .string ⟨#[111, 117, 116]⟩, .int .i64 0, .int .i64 0, .int .i64 0, .int .u32 40, .int .i64 0] 60)).alloc (.cells #[.int .u32 0, .int .i64 1, .slice (some ⟨w.heap.size, 0, none⟩) 3 3] 35)).cell? ⟨w.heap.size + 1, 1, none⟩ = some (.int .i64 1) := by simp
  have k2 : ((w.alloc (.cells #[.string ⟨#[115, 101, 116]⟩, .int .i64 40, .int .i64 0, .int .i64 0, .int .u32 7, .int .i64 0, .string ⟨#[97, 100, 100]⟩, .int .i64 6, .int .i64 40, .int .i64 40, .int .u32 0, .int .i64 0, .string ⟨#[111, 117, 116]⟩, .int .i64 0, .int .i64 0, .int .i64 0, .int .u32 40, .int .i64 0] 60)).alloc (.cells #[.int .u32 0, .int .i64 1, .slice (some ⟨w.heap.size, 0, none⟩) 3 3] 35)).cell? ⟨w.heap.size + 1, 2, none⟩ = some (.slice (some ⟨w.heap.size, 0, none⟩) 3 3) := by simp
  have AV := bl_in w _ hrow
  clear hrow
  generalize ((w.alloc (.cells #[.string ⟨#[115, 101, 116]⟩, .int .i64 40, .int .i64 0, .int .i64 0, .int .u32 7, .int .i64 0, .string ⟨#[97, 100, 100]⟩, .int .i64 6, .int .i64 40, .int .i64 40, .int .u32 0, .int .i64 0, .string ⟨#[111, 117, 116]⟩, .int .i64 0, .int .i64 0, .int .i64 0, .int .u32 40, .int .i64 0] 60)).alloc (.cells #[.int .u32 0, .int .i64 1, .slice (some ⟨w.heap.size, 0, none⟩) 3 3] 35)) = V at *
  have hopt := opt_2 pe (EH.out.stays BV) AV (by decide) 0 1 (by omega) (by omega) bl_code
  have hzV : w.heap.size + 1 < V.heap.size := World.block_lt_of_cell? _ _ k0
  have AH : Hid (OpsIn V (.slice (some ⟨w.heap.size, 0, none⟩) 3 3) bl) := AV
  have BH : Hid (Below w.heap.size w V) := BV
  clear AV BV
  refine hopt.mono ?_
  rintro e w2 ⟨g, cp, rfl, hcp, hR, hge, hb2, hok⟩
  rw [bl_len] at hcp ⊢
  have B2 : Hid (Below w.heap.size w w2) := BH.out.trans (hb2.mono BH.out.size)
  have A2 : Hid (OpsIn w2 (.slice (some ⟨w.heap.size, 0, none⟩) 3 3) bl) := AH.out.stays hb2
  have X2 : Hid (OpsIn w2 (.slice (some ⟨g, 0, none⟩) 2 cp) (optL 2 bl)) := by
    have := hR.in (cap := cp) (by rw [bl_len]; exact hcp) hok
    rw [bl_len] at this; exact this
  have k0 := (hb2.cell (p := ⟨w.heap.size + 1, 0, none⟩) hzV).trans k0
  have k1 := (hb2.cell (p := ⟨w.heap.size + 1, 1, none⟩) hzV).trans k1
  have k2 := (hb2.cell (p := ⟨w.heap.size + 1, 2, none⟩) hzV).trans k2
  have hz2 : w.heap.size + 1 < w2.heap.size := World.block_lt_of_cell? _ _ k0
  have B3 : Hid (Below w.heap.size w (w2.alloc (.cells #[.int .u32 0, .int .i64 1, .slice (some ⟨g, 0, none⟩) 2 cp] 35))) := B2.out.alloc (by omega) _
  have hb3 : Below w2.heap.size w2 (w2.alloc (.cells #[.int .u32 0, .int .i64 1, .slice (some ⟨g, 0, none⟩) 2 cp] 35)) := (Below.refl _ _).alloc (Nat.le_refl _) _
  have A3 := A2.out.stays hb3
  have X3 := X2.out.stays hb3
  have k0 := (hb3.cell (p := ⟨w.heap.size + 1, 0, none⟩) hz2).trans k0
  have k1 := (hb3.cell (p := ⟨w.heap.size + 1, 1, none⟩) hz2).trans k1
  have k2 := (hb3.cell (p := ⟨w.heap.size + 1, 2, none⟩) hz2).trans k2
  have y0 : (w2.alloc (.cells #[.int .u32 0, .int .i64 1, .slice (some ⟨g, 0, none⟩) 2 cp] 35)).cell? ⟨w2.heap.size, 0, none⟩ = some (.int .u32 0) := by simp
  have y1 : (w2.alloc (.cells #[.int .u32 0, .int .i64 1, .slice (some ⟨g, 0, none⟩) 2 cp] 35)).cell? ⟨w2.heap.size, 1, none⟩ = some (.int .i64 1) := by simp
  have y2 : (w2.alloc (.cells #[.int .u32 0, .int .i64 1, .slice (some ⟨g, 0, none⟩) 2 cp] 35)).cell? ⟨w2.heap.size, 2, none⟩ = some (.slice (some ⟨g, 0, none⟩) 2 cp) := by simp
  clear hopt hb2 hR hok A2 X2 hb3
  go_upto_region 3 with fail
  generalize w2.alloc (.cells #[.int .u32 0, .int .i64 1, .slice (some ⟨g, 0, none⟩) 2 cp] 35) = W3 at *
  have E3 := EH.out.stays B3.out
  have hk1 := known_ok pe E3 A3 (by decide) 0 1 (by omega) (by omega) bl_code
  rw [bl_known] at hk1
  have z1 := World.block_lt_of_cell? _ _ k0
  have z2 := World.block_lt_of_cell? _ _ y0
  have X3H : Hid (OpsIn W3 (.slice (some ⟨g, 0, none⟩) 2 cp) (optL 2 bl)) := X3
  clear A3 X3 E3
  go_wp2_with fail
  refine hk1.mono ?_
  rintro e W4 ⟨rfl, hb4⟩
  have B4 : Hid (Below w.heap.size w W4) := B3.out.trans (hb4.mono B3.out.size)
  have X4 := X3H.out.stays hb4
  have y0 := (hb4.cell (p := ⟨w2.heap.size, 0, none⟩) z2).trans y0
  have y1 := (hb4.cell (p := ⟨w2.heap.size, 1, none⟩) z2).trans y1
  have y2 := (hb4.cell (p := ⟨w2.heap.size, 2, none⟩) z2).trans y2
  have hk2 := known_ok pe (EH.out.stays B4.out) X4 (by decide) 0 1 (by omega) (by omega) bl_code2
  rw [bl_known2] at hk2
  have X4H : Hid (OpsIn W4 (.slice (some ⟨g, 0, none⟩) 2 cp) (optL 2 bl)) := X4
  have z2 := World.block_lt_of_cell? _ _ y0
  clear hk1 hb4 X4 X3H k0 k1 k2
  go_wp2_with fail
  refine hk2.mono ?_
  rintro e W5 ⟨rfl, hb5⟩
  have B5 : Hid (Below w.heap.size w W5) := B4.out.trans (hb5.mono B4.out.size)
  have X5 := X4H.out.stays hb5
  have y0 := (hb5.cell (p := ⟨w2.heap.size, 0, none⟩) z2).trans y0
  have y1 := (hb5.cell (p := ⟨w2.heap.size, 1, none⟩) z2).trans y1
  have y2 := (hb5.cell (p := ⟨w2.heap.size, 2, none⟩) z2).trans y2
  have hd := dead_ok pe (EH.out.stays B5.out) X5 (by decide) 0 1 (by omega) (by omega) bl_code2
  rw [bl_dead] at hd
  have z2 := World.block_lt_of_cell? _ _ y0
  clear hk2 hb5 X5 X4H
  go_wp2_with fail
  refine hd.mono ?_
  rintro e W6 ⟨rfl, hb6⟩
  have B6 : Hid (Below w.heap.size w W6) := B5.out.trans (hb6.mono B5.out.size)
  have y2 := (hb6.cell (p := ⟨w2.heap.size, 2, none⟩) z2).trans y2
  have z2 := World.block_lt_of_cell? _ _ y2
  clear hd hb6
  go_wp2
  go_ret
  exact ⟨rfl, B6.out⟩
end Go.Proofs.YtcccaejjhodnkaaDoor
