/-
  The document's memory: words in a slice; made.
-/
import Derived.Test.YtckcbnfobjmhpaaDoorRgC
namespace Go.Proofs.YtckcbnfobjmhpaaDoor
open Go.RowKit Go.Maps
open Num
set_option linter.unusedVariables false
/-- block rb is the document's memory: its words in row gb; no page is watched (row kb) -/
structure DRam (w : World) (rb gb kb : Nat) (m : Nat → Int) : Prop where
  c0 : w.cell? ⟨rb, 0, none⟩ = some (.slice (some ⟨gb, 0, none⟩) 4096 4096)
  c1 : w.cell? ⟨rb, 1, none⟩ = some (.slice (some ⟨kb, 0, none⟩) 64 64)
  row : w.heap[gb]? = some (.cells (wl m 4096).toArray 23)
  wt : ∀ p : Nat, p < 64 → w.cell? ⟨kb, p, none⟩ = some (.bool false)
  nr : rb ≠ gb
  nk : kb ≠ gb
  mb : ∀ i, 0 ≤ m i ∧ m i < 4294967296
theorem DRam.cell {w : World} {rb gb kb : Nat} {m : Nat → Int} (D : DRam w rb gb kb m) (i : Nat) (h : i < 4096) : w.cell? ⟨gb, i, none⟩ = some (.int .u32 (m i)) := by
  rw [cell_of_row _ _ _ _ _ _ D.row, List.getElem?_toArray]; exact wl_get m 4096 i h
theorem DRam.blocks {w w' : World} {rb gb kb : Nat} {m : Nat → Int} (D : DRam w rb gb kb m) (h : ∀ k, k = rb ∨ k = gb ∨ k = kb → w'.heap[k]? = w.heap[k]?) : DRam w' rb gb kb m := by
  have c : ∀ (k j : Nat) (v : Value), k = rb ∨ k = gb ∨ k = kb → w.cell? ⟨k, j, none⟩ = some v → w'.cell? ⟨k, j, none⟩ = some v := fun k j v hk e => (World.cell?_of_block (a := ⟨k, j, none⟩) (h k hk)).trans e
  exact ⟨c _ _ _ (by simp) D.c0, c _ _ _ (by simp) D.c1, (h gb (by simp)).trans D.row, fun p hp => c _ _ _ (by simp) (D.wt p hp), D.nr, D.nk, D.mb⟩
theorem DRam.lt {w : World} {rb gb kb : Nat} {m : Nat → Int} (D : DRam w rb gb kb m) {k : Nat} (h : k = rb ∨ k = gb ∨ k = kb) : k < w.heap.size := by
  rcases h with rfl | rfl | rfl
  · exact World.block_lt_of_cell? _ _ D.c0
  · exact (Array.getElem?_eq_some_iff.1 D.row).1
  · exact World.block_lt_of_cell? _ _ (D.wt 0 (by omega))
theorem DRam.congr {w : World} {rb gb kb : Nat} {m m' : Nat → Int} (D : DRam w rb gb kb m) (h : ∀ i, i < 4096 → m i = m' i) (mb : ∀ i, 0 ≤ m' i ∧ m' i < 4294967296) : DRam w rb gb kb m' := by
  have e : wl m 4096 = wl m' 4096 := by
    unfold wl
    apply List.map_congr_left
    intro i hi
    rw [h i (List.mem_range.1 hi)]
  exact ⟨D.c0, D.c1, by rw [← e]; exact D.row, D.wt, D.nr, D.nk, mb⟩
theorem DRam.stays {w w' : World} {rb gb kb : Nat} {m : Nat → Int} (D : DRam w rb gb kb m) (h : Below w.heap.size w w') : DRam w' rb gb kb m := D.blocks fun k hk => h.block k (D.lt hk)
theorem wl_set (m : Nat → Int) (i : Nat) (x : Int) (m' : Nat → Int) (hx : m' i = x) (ho : ∀ j, j ≠ i → m' j = m j) : (wl m 4096).toArray.setIfInBounds i (.int .u32 x) = (wl m' 4096).toArray := by
  apply Array.ext_getElem?
  intro k
  rw [show (wl m' 4096).toArray[k]? = (wl m' 4096)[k]? by simp]
  by_cases hk : k < 4096
  · rw [wl_get m' 4096 k hk]
    by_cases e : i = k
    · subst e; rw [Array.getElem?_setIfInBounds_self, if_pos (by simp [wl_len]; exact hk), hx]
    · rw [Array.getElem?_setIfInBounds_ne e, List.getElem?_toArray, wl_get m 4096 k hk, ho k (Ne.symm e)]
  · rw [Array.getElem?_eq_none (by simp [wl_len]; omega), List.getElem?_eq_none (by rw [wl_len]; omega)]
theorem info4 : (Tryd.prog.info? 4).map (fun i => (i.zero, i.size, i.bytes)) = some (some (.bool false), 1, 1) := by kernel_rfl
def F64 : Array Value := madeCells #[.bool false] 64
theorem F64_get (p : Nat) (h : p < 64) : F64[p]? = some (.bool false) := by
  simp [F64, madeCells, h, Nat.mod_one]
theorem made_words : madeCells #[.int .u32 0] 4096 = (wl (fun _ => 0) 4096).toArray := by
  apply Array.ext_getElem?
  intro k
  rw [show (wl (fun _ => 0) 4096).toArray[k]? = (wl (fun _ => 0) 4096)[k]? by simp]
  by_cases hk : k < 4096
  · rw [wl_get _ 4096 k hk]; simp [madeCells, hk, Nat.mod_one]
  · rw [Array.getElem?_eq_none (by rw [size_madeCells]; omega), List.getElem?_eq_none (by rw [wl_len]; omega)]
theorem make64 (W : World) : (Instr.makeSlice 102 (.int .i64 64) (.int .i64 64)).run Tryd.prog W = .ok (.slice (some ⟨W.heap.size, 0, none⟩) 64 64) (W.alloc (.cells F64 4)) := by
  obtain ⟨i0, hi, hz0, hz1, hz2⟩ := info_parts info4
  have := run_make (P := Tryd.prog) W 102 4 i0 (.bool false) Tryd.underlying102 hi hz0 .i64 .i64 64 64 (by omega) (by omega) (by rw [hz2]; decide) (by omega)
  rw [hz1] at this
  exact this
theorem make4096 (W : World) : (Instr.makeSlice 22 (.int .i64 4096) (.int .i64 4096)).run Tryd.prog W = .ok (.slice (some ⟨W.heap.size, 0, none⟩) 4096 4096) (W.alloc (.cells (wl (fun _ => 0) 4096).toArray 23)) := by
  obtain ⟨i0, hi, hz0, hz1, hz2⟩ := info_parts info23
  have := run_make (P := Tryd.prog) W 22 23 i0 (.int .u32 0) Tryd.underlying22 hi hz0 .i64 .i64 4096 4096 (by omega) (by omega) (by rw [hz2]; decide) (by omega)
  rw [hz1, show (Value.int .u32 0).cells = #[.int .u32 0] from rfl, show (4096 : Int).toNat * 1 = 4096 by decide, made_words, show (4096 : Int).toNat = 4096 by decide] at this
  exact this
def mwN (xs : List Int) (n : Nat) (k : Nat) : Int := if k < n then mw xs k else 0
theorem mwN_zero (xs : List Int) : mwN xs 0 = fun _ => 0 := by funext k; unfold mwN; rw [if_neg (by omega)]
theorem mwN_all (xs : List Int) : mwN xs xs.length = mw xs := by
  funext k; unfold mwN
  split
  · rfl
  · unfold mw; rw [List.getD_eq_getElem?_getD, List.getElem?_eq_none (by omega)]; rfl
/-- a word that is copied -/
theorem dput_word {w wr : World} {rb gb kb j : Nat} {xs : List Int} {x : Int} (D : DRam wr rb gb kb (mwN xs j)) (B : Below w.heap.size w wr) (hg : w.heap.size ≤ gb) (hx : mw xs j = x) (hj2 : j < 4096) (wf : ∀ i, 0 ≤ mw xs i ∧ mw xs i < 4294967296) :
    DRam (wr.setCell ⟨gb, j, none⟩ (.int .u32 x)).drew rb gb kb (mwN xs (j + 1)) ∧ Below w.heap.size w (wr.setCell ⟨gb, j, none⟩ (.int .u32 x)).drew := by
  have oth : ∀ (k i : Nat) (v : Value), k ≠ gb → wr.cell? ⟨k, i, none⟩ = some v → (wr.setCell ⟨gb, j, none⟩ (.int .u32 x)).drew.cell? ⟨k, i, none⟩ = some v := fun k i v hk e => by
    show (wr.setCell ⟨gb, j, none⟩ (.int .u32 x)).cell? ⟨k, i, none⟩ = some v
    rw [World.cell?_setCell_other _ _ _ _ (by intro e; injection e with e1 e2; exact hk e1.symm)]; exact e
  have ho : ∀ k, k ≠ j → mwN xs (j + 1) k = mwN xs j k := by
    intro k hk
    unfold mwN
    by_cases h : k < j
    · rw [if_pos h, if_pos (by omega)]
    · rw [if_neg h, if_neg (by omega)]
  have hrow : (wr.setCell ⟨gb, j, none⟩ (.int .u32 x)).heap[gb]? = some (.cells (wl (mwN xs (j + 1)) 4096).toArray 23) := by
    rw [heap_setCell_same wr gb j (wl (mwN xs j) 4096).toArray 23 _ D.row]
    rw [wl_set (mwN xs j) j _ (mwN xs (j + 1)) (by unfold mwN; rw [if_pos (by omega)]; exact hx) ho]
  refine ⟨⟨oth _ _ _ D.nr D.c0, oth _ _ _ D.nr D.c1, hrow, fun p hp => oth _ _ _ D.nk (D.wt p hp), D.nr, D.nk, fun i => ?_⟩, ?_⟩
  · unfold mwN
    split
    · exact wf i
    · omega
  · exact below_drew (B.setCell hg _)
theorem dmade (w : World) (k1 k2 : Nat) (hk : k1 = w.heap.size ∨ k1 = w.heap.size + 1) :
    DRam (((((w.alloc (.cells F64 4)).alloc (.cells F64 4)).alloc (.cells #[.slice (some ⟨w.heap.size + 1 + 1 + 1, 0, none⟩) 4096 4096, .slice (some ⟨k1, 0, none⟩) 64 64, .slice (some ⟨k2, 0, none⟩) 64 64] 104)).alloc (.cells (wl (fun _ => 0) 4096).toArray 23)).drew) (w.heap.size + 1 + 1) (w.heap.size + 1 + 1 + 1) k1 (fun _ => 0) ∧
    Below w.heap.size w (((((w.alloc (.cells F64 4)).alloc (.cells F64 4)).alloc (.cells #[.slice (some ⟨w.heap.size + 1 + 1 + 1, 0, none⟩) 4096 4096, .slice (some ⟨k1, 0, none⟩) 64 64, .slice (some ⟨k2, 0, none⟩) 64 64] 104)).alloc (.cells (wl (fun _ => 0) 4096).toArray 23)).drew) := by
  obtain ⟨R0, hR⟩ : ∃ R0, R0 = (wl (fun _ => 0) 4096).toArray := ⟨_, rfl⟩
  rw [← hR]
  have z1 : (w.alloc (.cells F64 4)).heap.size = w.heap.size + 1 := by simp
  have r0 : (w.alloc (.cells F64 4)).heap[w.heap.size]? = some (.cells F64 4) := heap_alloc_new w _
  have r1 : ((w.alloc (.cells F64 4)).alloc (.cells F64 4)).heap[w.heap.size + 1]? = some (.cells F64 4) := by have := heap_alloc_new (w.alloc (.cells F64 4)) (.cells F64 4); rwa [z1] at this
  have r0' : ((w.alloc (.cells F64 4)).alloc (.cells F64 4)).heap[w.heap.size]? = some (.cells F64 4) := (Below.heap_alloc _ _ _ (by simp)).trans r0
  generalize hW2 : (w.alloc (.cells F64 4)).alloc (.cells F64 4) = W2 at *
  have z2 : W2.heap.size = w.heap.size + 1 + 1 := by rw [← hW2]; simp
  have b2 : Below w.heap.size w W2 := by rw [← hW2]; exact ((Below.refl _ _).alloc (Nat.le_refl _) _).alloc (by simp) _
  generalize hC : (#[.slice (some ⟨w.heap.size + 1 + 1 + 1, 0, none⟩) 4096 4096, .slice (some ⟨k1, 0, none⟩) 64 64, .slice (some ⟨k2, 0, none⟩) 64 64] : Array Value) = C
  have r2 : (W2.alloc (.cells C 104)).heap[w.heap.size + 1 + 1]? = some (.cells C 104) := by have := heap_alloc_new W2 (.cells C 104); rwa [z2] at this
  have rk : (W2.alloc (.cells C 104)).heap[k1]? = some (.cells F64 4) := by
    rcases hk with rfl | rfl
    · exact (Below.heap_alloc _ _ _ (by omega)).trans r0'
    · exact (Below.heap_alloc _ _ _ (by omega)).trans r1
  have z3 : (W2.alloc (.cells C 104)).heap.size = w.heap.size + 1 + 1 + 1 := by simp [z2]
  have b3 : Below w.heap.size w (W2.alloc (.cells C 104)) := b2.alloc (by omega) _
  generalize W2.alloc (.cells C 104) = W3 at *
  have r3 : (W3.alloc (.cells R0 23)).drew.heap[w.heap.size + 1 + 1 + 1]? = some (.cells R0 23) := by have := heap_alloc_new W3 (.cells R0 23); rwa [z3] at this
  have r2' : (W3.alloc (.cells R0 23)).drew.heap[w.heap.size + 1 + 1]? = some (.cells C 104) := (Below.heap_alloc W3 _ _ (by omega)).trans r2
  have rk' : (W3.alloc (.cells R0 23)).drew.heap[k1]? = some (.cells F64 4) := (Below.heap_alloc W3 _ _ (by omega)).trans rk
  have c : ∀ (j : Nat), (W3.alloc (.cells R0 23)).drew.cell? ⟨w.heap.size + 1 + 1, j, none⟩ = C[j]? := fun j => cell_of_row _ _ _ _ _ _ r2'
  refine ⟨⟨by rw [c, ← hC]; rfl, by rw [c, ← hC]; rfl, by rw [r3, hR], fun p hp => by rw [cell_of_row _ _ _ _ _ _ rk']; exact F64_get p hp, by omega, by omega, fun i => by simp⟩, ?_⟩
  exact below_drew (b3.alloc (by omega) _)
set_option maxRecDepth 100000 in
set_option maxHeartbeats 1000000 in
theorem dnew_any {w : World} {v : Value} {xs : List Int} (X : WordsIn w v xs) (hx : xs.length ≤ 5000) :
    Calls Tryd.prog 26 #[v] w fun e w' => ∃ rb gb kb : Nat, e = .returned (.pointer (some ⟨rb, 0, none⟩)) ∧ DRam w' rb gb kb (mw xs) ∧ Below w.heap.size w w' ∧ w.heap.size ≤ rb ∧ w.heap.size ≤ gb ∧ w.heap.size ≤ kb := by
  obtain ⟨⟨ao, cap, rfl, hcap, hao⟩, wf⟩ := X
  have h64 := make64
  have h4k := make4096
  have HA : Hid (0 < xs.length → ∃ b off : Nat, ao = some ⟨b, off, none⟩ ∧ ∀ i, i < xs.length → w.cell? ⟨b, off + i, none⟩ = some (.int .u32 (xs.getD i 0))) := hao
  clear hao
  generalize hR : (wl (fun _ => 0) 4096).toArray = R0 at h4k
  go_enter Tryd.func26, Tryd.ntmps26
  go_upto_region 1 with fail
  go_region
  · go_wp2_with fail
    have M := dmade w w.heap.size (w.heap.size + 1) (Or.inl rfl)
    obtain ⟨D0, B0⟩ := M
    rw [hR] at D0 B0
    have D0H := D0
    clear D0 h64 h4k hR
    generalize ((((w.alloc (.cells F64 4)).alloc (.cells F64 4)).alloc (.cells #[.slice (some ⟨w.heap.size + 1 + 1 + 1, 0, none⟩) 4096 4096, .slice (some ⟨w.heap.size, 0, none⟩) 64 64, .slice (some ⟨(w.heap.size + 1), 0, none⟩) 64 64] 104)).alloc (.cells R0 23)).drew = w1 at *
    generalize hrb : w.heap.size + 1 + 1 = rb at *
    generalize hgb : rb + 1 = gb at *
    obtain ⟨kb, hkb⟩ : ∃ kb, kb = w.heap.size := ⟨_, rfl⟩
    rw [← hkb] at D0H
    have L1 : Hid (w.heap.size ≤ rb ∧ w.heap.size ≤ gb ∧ w.heap.size ≤ kb) := by show _ ∧ _; omega
    clear hrb hgb hkb
    go_loopw [4] (fun i wr => ∃ j : Nat, j ≤ xs.length ∧ j ≤ 4096 ∧ i = .int .i64 j ∧ Hid (DRam wr rb gb kb (mwN xs j)) ∧ Hid (Below w.heap.size w wr)) (fun i _ => xs.length - (intOf i).toNat)
    case atStart => exact ⟨0, Nat.zero_le _, Nat.zero_le _, rfl, by show DRam _ _ _ _ _; rw [mwN_zero]; exact D0H, B0⟩
    case round =>
      clear D0H B0
      obtain ⟨j, hj, hj4, rfl, DR, BR⟩ := hrel
      have c0 := DR.out.c0
      by_cases hfull : j = 4096
      · have hd4 : decide ((j : Int) < 4096) = false := by simp; omega
        have hfin : DRam wr rb gb kb (mw xs) := DR.out.congr (fun i hi => by unfold mwN; rw [if_pos (by omega)]) wf
        by_cases hlt : j < xs.length
        · have hlt' : (j : Int) < xs.length := by omega
          go_wp2
          go_ret
          first | exact ⟨rb, rfl, gb, kb, hfin, BR.out, L1.out⟩ | exact ⟨rb, gb, kb, rfl, hfin, BR.out, L1.out⟩
        · have hlt' : ¬ (j : Int) < xs.length := by omega
          go_wp2
          go_ret
          first | exact ⟨rb, rfl, gb, kb, hfin, BR.out, L1.out⟩ | exact ⟨rb, gb, kb, rfl, hfin, BR.out, L1.out⟩
      by_cases hlt : j < xs.length
      · have hlt' : (j : Int) < xs.length := by omega
        have hlt2 : (j : Int) < 4096 := by omega
        obtain ⟨b, off, rfl, hc⟩ := HA.out (by omega)
        obtain ⟨x, hx⟩ : ∃ x, mw xs j = x := ⟨_, rfl⟩
        have hcell : wr.cell? ⟨b, off + j, none⟩ = some (.int .u32 x) := by
          have := hc j hlt
          rw [show xs.getD j 0 = x from hx] at this
          rw [BR.out.cell (World.block_lt_of_cell? _ _ this)]; exact this
        have hold := DR.out.cell j (by omega)
        have hfz : wr.frozen? ⟨gb, j, none⟩ = false := by unfold World.frozen?; rw [DR.out.row]; simp
        have key := dput_word DR.out BR.out L1.out.2.1 hx (by omega) wf
        clear hx
        clear hc
        go_wp2_with fail
        go_region
        all_goals
          go_wp2
          go_roundw
          case rel => exact ⟨j + 1, by omega, by omega, by go_num, key.1, key.2⟩
          case measure => simp [intOf]; omega
      · have hlt' : ¬ (j : Int) < xs.length := by omega
        obtain rfl : j = xs.length := by omega
        go_wp2
        go_ret
        exact ⟨rb, rfl, gb, kb, by rw [← mwN_all]; exact DR.out, BR.out, L1.out⟩
  · go_wp2_with fail
    have M := dmade w (w.heap.size + 1) w.heap.size (Or.inr rfl)
    obtain ⟨D0, B0⟩ := M
    rw [hR] at D0 B0
    have D0H := D0
    clear D0 h64 h4k hR
    generalize ((((w.alloc (.cells F64 4)).alloc (.cells F64 4)).alloc (.cells #[.slice (some ⟨w.heap.size + 1 + 1 + 1, 0, none⟩) 4096 4096, .slice (some ⟨(w.heap.size + 1), 0, none⟩) 64 64, .slice (some ⟨w.heap.size, 0, none⟩) 64 64] 104)).alloc (.cells R0 23)).drew = w1 at *
    generalize hrb : w.heap.size + 1 + 1 = rb at *
    generalize hgb : rb + 1 = gb at *
    obtain ⟨kb, hkb⟩ : ∃ kb, kb = (w.heap.size + 1) := ⟨_, rfl⟩
    rw [← hkb] at D0H
    have L1 : Hid (w.heap.size ≤ rb ∧ w.heap.size ≤ gb ∧ w.heap.size ≤ kb) := by show _ ∧ _; omega
    clear hrb hgb hkb
    go_loopw [4] (fun i wr => ∃ j : Nat, j ≤ xs.length ∧ j ≤ 4096 ∧ i = .int .i64 j ∧ Hid (DRam wr rb gb kb (mwN xs j)) ∧ Hid (Below w.heap.size w wr)) (fun i _ => xs.length - (intOf i).toNat)
    case atStart => exact ⟨0, Nat.zero_le _, Nat.zero_le _, rfl, by show DRam _ _ _ _ _; rw [mwN_zero]; exact D0H, B0⟩
    case round =>
      clear D0H B0
      obtain ⟨j, hj, hj4, rfl, DR, BR⟩ := hrel
      have c0 := DR.out.c0
      by_cases hfull : j = 4096
      · have hd4 : decide ((j : Int) < 4096) = false := by simp; omega
        have hfin : DRam wr rb gb kb (mw xs) := DR.out.congr (fun i hi => by unfold mwN; rw [if_pos (by omega)]) wf
        by_cases hlt : j < xs.length
        · have hlt' : (j : Int) < xs.length := by omega
          go_wp2
          go_ret
          first | exact ⟨rb, rfl, gb, kb, hfin, BR.out, L1.out⟩ | exact ⟨rb, gb, kb, rfl, hfin, BR.out, L1.out⟩
        · have hlt' : ¬ (j : Int) < xs.length := by omega
          go_wp2
          go_ret
          first | exact ⟨rb, rfl, gb, kb, hfin, BR.out, L1.out⟩ | exact ⟨rb, gb, kb, rfl, hfin, BR.out, L1.out⟩
      by_cases hlt : j < xs.length
      · have hlt' : (j : Int) < xs.length := by omega
        have hlt2 : (j : Int) < 4096 := by omega
        obtain ⟨b, off, rfl, hc⟩ := HA.out (by omega)
        obtain ⟨x, hx⟩ : ∃ x, mw xs j = x := ⟨_, rfl⟩
        have hcell : wr.cell? ⟨b, off + j, none⟩ = some (.int .u32 x) := by
          have := hc j hlt
          rw [show xs.getD j 0 = x from hx] at this
          rw [BR.out.cell (World.block_lt_of_cell? _ _ this)]; exact this
        have hold := DR.out.cell j (by omega)
        have hfz : wr.frozen? ⟨gb, j, none⟩ = false := by unfold World.frozen?; rw [DR.out.row]; simp
        have key := dput_word DR.out BR.out L1.out.2.1 hx (by omega) wf
        clear hx
        clear hc
        go_wp2_with fail
        go_region
        all_goals
          go_wp2
          go_roundw
          case rel => exact ⟨j + 1, by omega, by omega, by go_num, key.1, key.2⟩
          case measure => simp [intOf]; omega
      · have hlt' : ¬ (j : Int) < xs.length := by omega
        obtain rfl : j = xs.length := by omega
        go_wp2
        go_ret
        exact ⟨rb, rfl, gb, kb, by rw [← mwN_all]; exact DR.out, BR.out, L1.out⟩
end Go.Proofs.YtckcbnfobjmhpaaDoor
