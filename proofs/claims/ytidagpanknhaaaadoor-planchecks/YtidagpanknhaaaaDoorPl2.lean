/-
  Package plan: whether a row's parts fit; whether it has room.
-/
import Derived.Test.YtidagpanknhaaaaDoorPl1
namespace Go.Proofs.YtidagpanknhaaaaDoor
open Go.RowKit Go.Maps
open Num
set_option linter.unusedVariables false
/-- how many each part may have -/
structure Mst (w : World) : Prop where
  c0 : w.cell? ⟨11, 0, none⟩ = some (.int .i64 3)
  c1 : w.cell? ⟨11, 1, none⟩ = some (.int .i64 1)
  c2 : w.cell? ⟨11, 2, none⟩ = some (.int .i64 1)
theorem Mst.lt {w : World} (M : Mst w) : 11 < w.heap.size := World.block_lt_of_cell? _ _ M.c0
theorem Mst.stays {w w' : World} (M : Mst w) (h : Below w.heap.size w w') : Mst w' := ⟨(h.cell (p := ⟨11, 0, none⟩) M.lt).trans M.c0, (h.cell (p := ⟨11, 1, none⟩) M.lt).trans M.c1, (h.cell (p := ⟨11, 2, none⟩) M.lt).trans M.c2⟩
theorem idx3 (x y z : Value) (W : World) : (Instr.index 69 (.agg #[x, y, z]) (.int .i64 0)).run Tryd.prog W = .ok x W ∧ (Instr.index 69 (.agg #[x, y, z]) (.int .i64 1)).run Tryd.prog W = .ok y W ∧ (Instr.index 69 (.agg #[x, y, z]) (.int .i64 2)).run Tryd.prog W = .ok z W := by
  have e1 : (sizeOf 3).run Tryd.prog W = .ok 1 W := by kernel_rfl
  refine ⟨?_, ?_, ?_⟩ <;> simp [Instr.index, run_underlying Tryd.underlying69, e1, part, go_sem]
set_option maxRecDepth 100000 in
set_option maxHeartbeats 2000000 in
theorem fit_any {w : World} (M : Mst w) (a b c : Nat) (ha : a ≤ 1000000) (hb : b ≤ 1000000) (hc : c ≤ 1000000) :
    Calls Tryd.prog 27 #[.agg #[.int .i64 (a : Int), .int .i64 (b : Int), .int .i64 (c : Int)]] w fun e w' => e = .returned (.bool (fitC a b c)) ∧ Below w.heap.size w w' := by
  have B0 : Below w.heap.size w (w.alloc (.cells #[.int .i64 (a : Int), .int .i64 (b : Int), .int .i64 (c : Int)] 69)) := (Below.refl _ _).alloc (Nat.le_refl _) _
  have M1 := M.stays B0
  have C1 := C3.new w a b c
  have hz := M.lt
  have hi0 : ∀ W, (Instr.index 69 (.agg #[.int .i64 (a : Int), .int .i64 (b : Int), .int .i64 (c : Int)]) (.int .i64 0)).run Tryd.prog W = .ok (.int .i64 (a : Int)) W := fun W => (idx3 _ _ _ W).1
  have hi1 : ∀ W, (Instr.index 69 (.agg #[.int .i64 (a : Int), .int .i64 (b : Int), .int .i64 (c : Int)]) (.int .i64 1)).run Tryd.prog W = .ok (.int .i64 (b : Int)) W := fun W => (idx3 _ _ _ W).2.1
  have hi2 : ∀ W, (Instr.index 69 (.agg #[.int .i64 (a : Int), .int .i64 (b : Int), .int .i64 (c : Int)]) (.int .i64 2)).run Tryd.prog W = .ok (.int .i64 (c : Int)) W := fun W => (idx3 _ _ _ W).2.2
  obtain ⟨R, hR⟩ : ∃ R, fitC a b c = R := ⟨_, rfl⟩
  have HR : Hid (fitC a b c = R) := hR
  rw [hR]
  clear hR M
  go_enter Tryd.func27, Tryd.ntmps27
  go_upto_region 1 with fail
  generalize w.alloc (.cells #[.int .i64 (a : Int), .int .i64 (b : Int), .int .i64 (c : Int)] 69) = V at *
  obtain ⟨m0, m1, m2⟩ := M1
  obtain ⟨y0, y1, y2, yf⟩ := C1
  have HB : Hid (Below w.heap.size w V) := B0
  clear B0
  go_wp2
  go_loop [3, 7] (fun n i => (i = .int .i64 0 ∧ n = .int .i64 0) ∨ (i = .int .i64 1 ∧ n = .int .i64 (a : Int) ∧ Hid (a ≤ 3)) ∨ (i = .int .i64 2 ∧ n = .int .i64 ((a : Int) + b) ∧ Hid (a ≤ 3 ∧ b ≤ 1)) ∨ (i = .int .i64 3 ∧ n = .int .i64 ((a : Int) + b + c) ∧ Hid (a ≤ 3 ∧ b ≤ 1 ∧ c ≤ 1))) (fun _ i => 3 - (intOf i).toNat)
  case atStart => exact .inl ⟨rfl, rfl⟩
  case round =>
    rcases hrel with ⟨rfl, rfl⟩ | ⟨rfl, rfl, HI⟩ | ⟨rfl, rfl, HI⟩ | ⟨rfl, rfl, HI⟩
    · by_cases hx : (3 : Int) < a
      · have E : Hid (R = false) := by
          show _ = _; rw [← HR.out]; unfold fitC
          rw [show decide (a ≤ 3) = false by simp only [decide_eq_false_iff_not]; omega]; simp
        clear HR
        go_wp2
        go_ret
        exact ⟨by rw [E.out]; rfl, HB.out⟩
      · have hx2 : Hid (a ≤ 3) := by show _ ≤ _; omega
        go_wp2
        go_round
        case rel => exact .inr (.inl ⟨rfl, by first | rfl | go_num, hx2.out⟩)
        case measure => simp [intOf]
    · by_cases hx : (1 : Int) < b
      · have E : Hid (R = false) := by
          show _ = _; rw [← HR.out]; unfold fitC
          rw [show decide (b ≤ 1) = false by simp only [decide_eq_false_iff_not]; omega]; simp
        clear HR
        go_wp2
        go_ret
        exact ⟨by rw [E.out]; rfl, HB.out⟩
      · have hx2 : Hid (b ≤ 1) := by show _ ≤ _; omega
        go_wp2
        go_round
        case rel => exact .inr (.inr (.inl ⟨rfl, by first | rfl | go_num, ⟨HI.out, hx2.out⟩⟩))
        case measure => simp [intOf]
    · by_cases hx : (1 : Int) < c
      · have E : Hid (R = false) := by
          show _ = _; rw [← HR.out]; unfold fitC
          rw [show decide (c ≤ 1) = false by simp only [decide_eq_false_iff_not]; omega]; simp
        clear HR
        go_wp2
        go_ret
        exact ⟨by rw [E.out]; rfl, HB.out⟩
      · have hx2 : Hid (c ≤ 1) := by show _ ≤ _; omega
        go_wp2
        go_round
        case rel => exact .inr (.inr (.inr ⟨rfl, by first | rfl | go_num, ⟨HI.out.1, HI.out.2, hx2.out⟩⟩))
        case measure => simp [intOf]
    · obtain ⟨h1, h2, h3⟩ := HI.out
      have E : Hid (R = decide ((a : Int) + b + c ≤ 4)) := by
        show _ = _; rw [← HR.out]; unfold fitC
        simp only [h1, h2, h3, decide_true, Bool.true_and]
        by_cases h : a + b + c ≤ 4
        · rw [decide_eq_true h, decide_eq_true (by omega)]
        · rw [decide_eq_false h, decide_eq_false (by omega)]
      clear HR h1 h2 h3 HI
      go_wp2
      go_ret
      exact ⟨by rw [E.out]; rfl, HB.out⟩
set_option maxRecDepth 100000 in
set_option maxHeartbeats 2000000 in
theorem hasRoom_any {w : World} (M : Mst w) {v : Value} {l : List Opx} (A : OpsIn w v l) (hl : (l.length : Int) ≤ 100000) (o : Opx) :
    Calls Tryd.prog 40 #[v, opV o] w fun e w' => e = .returned (.bool (roomB o l)) ∧ Below w.heap.size w w' := by
  have B0 : Below w.heap.size w (w.alloc (.cells #[.string o.s, .int .i64 o.d, .int .i64 o.a, .int .i64 o.b, .int .u32 o.i, .int .i64 o.t] 42)) := (Below.refl _ _).alloc (Nat.le_refl _) _
  have hct := countsOf_any (A.stays B0) (by omega)
  obtain ⟨ao, cap, rfl, _, _⟩ := A.sh
  have b0 := ctP_le 0 l
  have b1 := ctP_le 1 l
  have b2 := ctP_le 2 l
  obtain ⟨p, hp⟩ : ∃ p, ptO o = p := ⟨_, rfl⟩
  have hp3 := ptO_lt o
  have hpc := fun w => partOf_is o p hp w
  have HF : Hid (∀ W, Mst W → ∀ a b c : Nat, a ≤ 1000000 → b ≤ 1000000 → c ≤ 1000000 → a = (if 0 = p then ctP 0 l + 1 else ctP 0 l) → b = (if 1 = p then ctP 1 l + 1 else ctP 1 l) → c = (if 2 = p then ctP 2 l + 1 else ctP 2 l) → Calls Tryd.prog 27 #[.agg #[.int .i64 (a : Int), .int .i64 (b : Int), .int .i64 (c : Int)]] W fun e w' => e = .returned (.bool (roomB o l)) ∧ Below W.heap.size W w') := by
    intro W hW a b c ha hb hc ea eb ec
    have := fit_any hW a b c ha hb hc
    unfold roomB fitB
    rw [ctP_snoc, ctP_snoc, ctP_snoc, hp, ← ea, ← eb, ← ec]
    exact this
  have MH : Hid (Mst w) := M
  unfold opV at hpc ⊢
  rw [hp] at hp3
  have c0 : (w.alloc (.cells #[.string o.s, .int .i64 o.d, .int .i64 o.a, .int .i64 o.b, .int .u32 o.i, .int .i64 o.t] 42)).heap[w.heap.size]? = some (.cells #[.string o.s, .int .i64 o.d, .int .i64 o.a, .int .i64 o.b, .int .u32 o.i, .int .i64 o.t] 42 (0, 0)) := heap_alloc_new w _
  generalize hR : roomB o l = R at *
  clear A hp M hR
  go_enter Tryd.func40, Tryd.ntmps40
  go_upto_region 1 with fail
  generalize w.alloc (.cells #[.string o.s, .int .i64 o.d, .int .i64 o.a, .int .i64 o.b, .int .u32 o.i, .int .i64 o.t] 42) = V at *
  have HB : Hid (Below w.heap.size w V) := B0
  have hV0 : w.heap.size < V.heap.size := by
    have h := c0
    rcases Nat.lt_or_ge w.heap.size V.heap.size with h' | h'
    · exact h'
    · rw [Array.getElem?_eq_none h'] at h; cases h
  have HC : Hid (V.heap[w.heap.size]? = some (.cells #[.string o.s, .int .i64 o.d, .int .i64 o.a, .int .i64 o.b, .int .u32 o.i, .int .i64 o.t] 42 (0, 0))) := c0
  clear B0 c0
  go_wp2_with fail
  refine hct.mono ?_
  rintro e w1 ⟨rfl, hb1⟩
  have hs1 := hb1.size
  have HB1 : Hid (Below w.heap.size w w1) := HB.out.trans (hb1.mono HB.out.size)
  have hC1 : w1.heap[w.heap.size]? = some (.cells #[.string o.s, .int .i64 o.d, .int .i64 o.a, .int .i64 o.b, .int .u32 o.i, .int .i64 o.t] 42 (0, 0)) := (hb1.block _ hV0).trans HC.out
  have N1 := C3.new w1 (ctP 0 l) (ctP 1 l) (ctP 2 l)
  have B2 : Below w1.heap.size w1 (w1.alloc (.cells #[.int .i64 (ctP 0 l : Int), .int .i64 (ctP 1 l : Int), .int .i64 (ctP 2 l : Int)] 69)) := (Below.refl _ _).alloc (Nat.le_refl _) _
  have hz1 : w.heap.size < w1.heap.size := by omega
  have hC2 := (B2.block _ hz1).trans hC1
  clear hb1 hct HB HC hC1
  go_upto_region 2 with fail
  generalize w1.alloc (.cells #[.int .i64 (ctP 0 l : Int), .int .i64 (ctP 1 l : Int), .int .i64 (ctP 2 l : Int)] 69) = V2 at *
  have y0 : V2.cell? ⟨w.heap.size, 0, none⟩ = some (.string o.s) := by rw [cell_of_row _ _ _ _ _ _ hC2]; rfl
  have y1 : V2.cell? ⟨w.heap.size, 1, none⟩ = some (.int .i64 o.d) := by rw [cell_of_row _ _ _ _ _ _ hC2]; rfl
  have y2 : V2.cell? ⟨w.heap.size, 2, none⟩ = some (.int .i64 o.a) := by rw [cell_of_row _ _ _ _ _ _ hC2]; rfl
  have y3 : V2.cell? ⟨w.heap.size, 3, none⟩ = some (.int .i64 o.b) := by rw [cell_of_row _ _ _ _ _ _ hC2]; rfl
  have y4 : V2.cell? ⟨w.heap.size, 4, none⟩ = some (.int .u32 o.i) := by rw [cell_of_row _ _ _ _ _ _ hC2]; rfl
  have y5 : V2.cell? ⟨w.heap.size, 5, none⟩ = some (.int .i64 o.t) := by rw [cell_of_row _ _ _ _ _ _ hC2]; rfl
  have HN : Hid (C3 V2 w1.heap.size (ctP 0 l) (ctP 1 l) (ctP 2 l)) := N1
  have HB2 : Hid (Below w.heap.size w V2) := HB1.out.trans (B2.mono (by omega))
  have hs2 : w1.heap.size < V2.heap.size := N1.lt
  clear N1 hC2 HB1 B2
  go_wp2_with fail
  refine (hpc _).mono ?_
  rintro e w3 ⟨rfl, hb3⟩
  have hs3 := hb3.size
  have N3 := HN.out.stays hb3
  have HN3 : Hid (C3 w3 w1.heap.size (ctP 0 l) (ctP 1 l) (ctP 2 l)) := N3
  have HB3 : Hid (Below w.heap.size w w3) := HB2.out.trans (hb3.mono HB2.out.size)
  obtain ⟨q0, q1, q2, qf⟩ := N3
  have zq : w1.heap.size < w3.heap.size := by omega
  clear hb3 hpc HN HB2 y0 y1 y2 y3 y4 y5
  have hpp : p = 0 ∨ p = 1 ∨ p = 2 := by omega
  rcases hpp with rfl | rfl | rfl
  · have R2 : Hid (C3 (w3.setCell ⟨w1.heap.size, 0, none⟩ (.int .i64 ((ctP 0 l : Int) + 1))) w1.heap.size ((ctP 0 l : Int) + 1) ((ctP 1 l : Int)) ((ctP 2 l : Int)) ∧ Below w.heap.size w (w3.setCell ⟨w1.heap.size, 0, none⟩ (.int .i64 ((ctP 0 l : Int) + 1)))) := ⟨HN3.out.put0 _, HB3.out.setCell (by show w.heap.size ≤ w1.heap.size; omega) _⟩
    have HFH : Hid (∀ W, Mst W → Calls Tryd.prog 27 #[.agg #[.int .i64 ((ctP 0 l : Int) + 1), .int .i64 ((ctP 1 l : Int)), .int .i64 ((ctP 2 l : Int))]] W fun e w' => e = .returned (.bool R) ∧ Below W.heap.size W w') := fun W hW => HF.out W hW (ctP 0 l + 1) (ctP 1 l) (ctP 2 l) (by omega) (by omega) (by omega) rfl rfl rfl
    have k00 : (0 : Int) ≤ (ctP 0 l : Int) := by omega
    have k01 : (ctP 0 l : Int) ≤ 100000 := by omega
    have k10 : (0 : Int) ≤ (ctP 1 l : Int) := by omega
    have k11 : (ctP 1 l : Int) ≤ 100000 := by omega
    have k20 : (0 : Int) ≤ (ctP 2 l : Int) := by omega
    have k21 : (ctP 2 l : Int) ≤ 100000 := by omega
    clear b0 b1 b2
    clear HF HN3 HB3
    generalize (ctP 0 l : Int) = k0 at *
    generalize (ctP 1 l : Int) = k1 at *
    generalize (ctP 2 l : Int) = k2 at *
    go_upto_region 3 with fail
    generalize w3.setCell ⟨w1.heap.size, 0, none⟩ (.int .i64 (k0 + 1)) = V4 at *
    obtain ⟨⟨q0, q1, q2, qf⟩, B4⟩ := R2.out
    have zq4 := World.block_lt_of_cell? _ _ q0
    have hfit := HFH.out V4 (MH.out.stays B4)
    have HB4 : Hid (Below w.heap.size w V4) := B4
    clear HFH R2 B4
    go_wp2_with fail
    refine hfit.mono ?_
    rintro e w5 ⟨rfl, hb5⟩
    have HB5 : Hid (Below w.heap.size w w5) := HB4.out.trans (hb5.mono HB4.out.size)
    clear hb5 hfit
    go_wp2
    go_ret
    exact ⟨rfl, HB5.out⟩
  · have R2 : Hid (C3 (w3.setCell ⟨w1.heap.size, 1, none⟩ (.int .i64 ((ctP 1 l : Int) + 1))) w1.heap.size ((ctP 0 l : Int)) ((ctP 1 l : Int) + 1) ((ctP 2 l : Int)) ∧ Below w.heap.size w (w3.setCell ⟨w1.heap.size, 1, none⟩ (.int .i64 ((ctP 1 l : Int) + 1)))) := ⟨HN3.out.put1 _, HB3.out.setCell (by show w.heap.size ≤ w1.heap.size; omega) _⟩
    have HFH : Hid (∀ W, Mst W → Calls Tryd.prog 27 #[.agg #[.int .i64 ((ctP 0 l : Int)), .int .i64 ((ctP 1 l : Int) + 1), .int .i64 ((ctP 2 l : Int))]] W fun e w' => e = .returned (.bool R) ∧ Below W.heap.size W w') := fun W hW => HF.out W hW (ctP 0 l) (ctP 1 l + 1) (ctP 2 l) (by omega) (by omega) (by omega) rfl rfl rfl
    have k00 : (0 : Int) ≤ (ctP 0 l : Int) := by omega
    have k01 : (ctP 0 l : Int) ≤ 100000 := by omega
    have k10 : (0 : Int) ≤ (ctP 1 l : Int) := by omega
    have k11 : (ctP 1 l : Int) ≤ 100000 := by omega
    have k20 : (0 : Int) ≤ (ctP 2 l : Int) := by omega
    have k21 : (ctP 2 l : Int) ≤ 100000 := by omega
    clear b0 b1 b2
    clear HF HN3 HB3
    generalize (ctP 0 l : Int) = k0 at *
    generalize (ctP 1 l : Int) = k1 at *
    generalize (ctP 2 l : Int) = k2 at *
    go_upto_region 3 with fail
    generalize w3.setCell ⟨w1.heap.size, 1, none⟩ (.int .i64 (k1 + 1)) = V4 at *
    obtain ⟨⟨q0, q1, q2, qf⟩, B4⟩ := R2.out
    have zq4 := World.block_lt_of_cell? _ _ q0
    have hfit := HFH.out V4 (MH.out.stays B4)
    have HB4 : Hid (Below w.heap.size w V4) := B4
    clear HFH R2 B4
    go_wp2_with fail
    refine hfit.mono ?_
    rintro e w5 ⟨rfl, hb5⟩
    have HB5 : Hid (Below w.heap.size w w5) := HB4.out.trans (hb5.mono HB4.out.size)
    clear hb5 hfit
    go_wp2
    go_ret
    exact ⟨rfl, HB5.out⟩
  · have R2 : Hid (C3 (w3.setCell ⟨w1.heap.size, 2, none⟩ (.int .i64 ((ctP 2 l : Int) + 1))) w1.heap.size ((ctP 0 l : Int)) ((ctP 1 l : Int)) ((ctP 2 l : Int) + 1) ∧ Below w.heap.size w (w3.setCell ⟨w1.heap.size, 2, none⟩ (.int .i64 ((ctP 2 l : Int) + 1)))) := ⟨HN3.out.put2 _, HB3.out.setCell (by show w.heap.size ≤ w1.heap.size; omega) _⟩
    have HFH : Hid (∀ W, Mst W → Calls Tryd.prog 27 #[.agg #[.int .i64 ((ctP 0 l : Int)), .int .i64 ((ctP 1 l : Int)), .int .i64 ((ctP 2 l : Int) + 1)]] W fun e w' => e = .returned (.bool R) ∧ Below W.heap.size W w') := fun W hW => HF.out W hW (ctP 0 l) (ctP 1 l) (ctP 2 l + 1) (by omega) (by omega) (by omega) rfl rfl rfl
    have k00 : (0 : Int) ≤ (ctP 0 l : Int) := by omega
    have k01 : (ctP 0 l : Int) ≤ 100000 := by omega
    have k10 : (0 : Int) ≤ (ctP 1 l : Int) := by omega
    have k11 : (ctP 1 l : Int) ≤ 100000 := by omega
    have k20 : (0 : Int) ≤ (ctP 2 l : Int) := by omega
    have k21 : (ctP 2 l : Int) ≤ 100000 := by omega
    clear b0 b1 b2
    clear HF HN3 HB3
    generalize (ctP 0 l : Int) = k0 at *
    generalize (ctP 1 l : Int) = k1 at *
    generalize (ctP 2 l : Int) = k2 at *
    go_upto_region 3 with fail
    generalize w3.setCell ⟨w1.heap.size, 2, none⟩ (.int .i64 (k2 + 1)) = V4 at *
    obtain ⟨⟨q0, q1, q2, qf⟩, B4⟩ := R2.out
    have zq4 := World.block_lt_of_cell? _ _ q0
    have hfit := HFH.out V4 (MH.out.stays B4)
    have HB4 : Hid (Below w.heap.size w V4) := B4
    clear HFH R2 B4
    go_wp2_with fail
    refine hfit.mono ?_
    rintro e w5 ⟨rfl, hb5⟩
    have HB5 : Hid (Below w.heap.size w w5) := HB4.out.trans (hb5.mono HB4.out.size)
    clear hb5 hfit
    go_wp2
    go_ret
    exact ⟨rfl, HB5.out⟩
end Go.Proofs.YtidagpanknhaaaaDoor
