/-
  The document's memory, made.
-/
import Derived.Test.YtmfhimphlackiaaDoorDocMem
import Derived.Laws.MakeOwn
import Derived.OwnWalk
namespace Go.Proofs.YtmfhimphlackiaaDoor
open Go.RowKit Go.Maps
open Num
set_option linter.unusedVariables false
def mw (xs : List Int) (i : Nat) : Int := xs.getD i 0
/-- a slice of words that came in -/
structure WordsIn (w : World) (v : Value) (xs : List Int) : Prop where
  sh : ∃ ao cap, v = .slice ao xs.length cap ∧ xs.length ≤ cap ∧ (0 < xs.length → ∃ b off, ao = some ⟨b, off, none⟩ ∧ ∀ i, i < xs.length → w.cell? ⟨b, off + i, none⟩ = some (.int .u32 (xs.getD i 0)))
  wf : ∀ i, 0 ≤ mw xs i ∧ mw xs i < 4294967296
/-- the document's memory with the pages that were hit in row hb -/
structure DMem (w : World) (rb gb kb hb : Nat) (m : Nat → Int) (wt ht : Int → Bool) : Prop where
  d : DRam w rb gb kb m wt
  c2 : w.cell? ⟨rb, 2, none⟩ = some (.slice (some ⟨hb, 0, none⟩) 64 64)
  hc : ∀ p : Nat, p < 64 → w.cell? ⟨hb, p, none⟩ = some (.bool (ht p))
  fk : ∀ p : Nat, w.frozen? ⟨kb, p, none⟩ = false
  fh : ∀ p : Nat, w.frozen? ⟨hb, p, none⟩ = false
  ng : hb ≠ gb
  nr : hb ≠ rb
  nk : hb ≠ kb
  kr : kb ≠ rb
  fr : ∀ p : Nat, w.frozen? ⟨rb, p, none⟩ = false
theorem infoU : (Tryd.prog.info? 23).map (fun i => (i.zero, i.size, i.bytes)) = some (some (.int .u32 0), 1, 4) := by kernel_rfl
theorem DRam.congr {w : World} {rb gb kb : Nat} {m m' : Nat → Int} {wt : Int → Bool} (D : DRam w rb gb kb m wt) (h : ∀ i, i < 4096 → m i = m' i) (mb : ∀ i, 0 ≤ m' i ∧ m' i < 4294967296) : DRam w rb gb kb m' wt := by
  have e : wl m 4096 = wl m' 4096 := by
    unfold wl
    apply List.map_congr_left
    intro i hi
    rw [h i (List.mem_range.1 hi)]
  exact ⟨D.c0, D.c1, by rw [← e]; exact D.row, D.wc, D.nr, D.nk, mb⟩
theorem DMem.congr {w : World} {rb gb kb hb : Nat} {m m' : Nat → Int} {wt ht : Int → Bool} (D : DMem w rb gb kb hb m wt ht) (h : ∀ i, i < 4096 → m i = m' i) (mb : ∀ i, 0 ≤ m' i ∧ m' i < 4294967296) : DMem w rb gb kb hb m' wt ht := { D with d := D.d.congr h mb }
theorem info4 : (Tryd.prog.info? 4).map (fun i => (i.zero, i.size, i.bytes)) = some (some (.bool false), 1, 1) := by kernel_rfl
def F64 : Array Value := madeCells #[.bool false] 64
theorem F64_get (p : Nat) (h : p < 64) : F64[p]? = some (.bool false) := by
  simp [F64, madeCells, h, Nat.mod_one]
theorem made_words : madeCells #[.int .u32 0] 4096 = (wl (fun _ => 0) 4096).toArray := by
  apply Array.ext_getElem?
  intro k
  rw [show (wl (fun _ => 0) 4096).toArray[k]? = (wl (fun _ => 0) 4096)[k]? by simp]
  by_cases hk : k < 4096
  · rw [wl_get _ 4096 k hk]; simp [madeCells, hk, Nat.mod_one]
  · rw [Array.getElem?_eq_none (by rw [size_madeCells]; omega), List.getElem?_eq_none (by rw [wl_len]; omega)]
theorem make64 (W : World) : (Instr.makeSlice 47 (.int .i64 64) (.int .i64 64)).run Tryd.prog W = .ok (.slice (some ⟨W.heap.size, 0, none⟩) 64 64) (W.alloc (.cells F64 4)) := by
  obtain ⟨i0, hi, hz0, hz1, hz2⟩ := info_parts info4
  have := run_make (P := Tryd.prog) W 47 4 i0 (.bool false) Tryd.underlying47 hi hz0 .i64 .i64 64 64 (by omega) (by omega) (by rw [hz2]; decide) (by omega)
  rw [hz1] at this
  exact this
theorem make4096 (W : World) : (Instr.makeSlice 22 (.int .i64 4096) (.int .i64 4096)).run Tryd.prog W = .ok (.slice (some ⟨W.heap.size, 0, none⟩) 4096 4096) (W.alloc (.cells (wl (fun _ => 0) 4096).toArray 23)) := by
  obtain ⟨i0, hi, hz0, hz1, hz2⟩ := info_parts infoU
  have := run_make (P := Tryd.prog) W 22 23 i0 (.int .u32 0) Tryd.underlying22 hi hz0 .i64 .i64 4096 4096 (by omega) (by omega) (by rw [hz2]; decide) (by omega)
  rw [hz1, show (Value.int .u32 0).cells = #[.int .u32 0] from rfl, show (4096 : Int).toNat * 1 = 4096 by decide, made_words, show (4096 : Int).toNat = 4096 by decide] at this
  exact this
def mwN (xs : List Int) (n : Nat) (k : Nat) : Int := if k < n then mw xs k else 0
theorem mwN_zero (xs : List Int) : mwN xs 0 = fun _ => 0 := by funext k; unfold mwN; rw [if_neg (by omega)]
theorem mwN_all (xs : List Int) : mwN xs xs.length = mw xs := by
  funext k; unfold mwN
  split
  · rfl
  · unfold mw; rw [List.getD_eq_getElem?_getD, List.getElem?_eq_none (by omega)]; rfl
/-- a word that is copied -/
theorem dput_word {w wr : World} {rb gb kb hb j : Nat} {xs : List Int} {x : Int} (D : DMem wr rb gb kb hb (mwN xs j) (fun _ => false) (fun _ => false)) (B : Below w.heap.size w wr) (hg : w.heap.size ≤ gb) (hx : mw xs j = x) (hj2 : j < 4096) (wf : ∀ i, 0 ≤ mw xs i ∧ mw xs i < 4294967296) :
    DMem (wr.setCell ⟨gb, j, none⟩ (.int .u32 x)).drew rb gb kb hb (mwN xs (j + 1)) (fun _ => false) (fun _ => false) ∧ Below w.heap.size w (wr.setCell ⟨gb, j, none⟩ (.int .u32 x)).drew := by
  have oth : ∀ (k i : Nat) (v : Value), k ≠ gb → wr.cell? ⟨k, i, none⟩ = some v → (wr.setCell ⟨gb, j, none⟩ (.int .u32 x)).drew.cell? ⟨k, i, none⟩ = some v := fun k i v hk e => by
    show (wr.setCell ⟨gb, j, none⟩ (.int .u32 x)).cell? ⟨k, i, none⟩ = some v
    rw [World.cell?_setCell_other _ _ _ _ (by intro e; injection e with e1 e2; exact hk e1.symm)]; exact e
  have ho : ∀ k, k ≠ j → mwN xs (j + 1) k = mwN xs j k := by
    intro k hk
    unfold mwN
    by_cases h : k < j
    · rw [if_pos h, if_pos (by omega)]
    · rw [if_neg h, if_neg (by omega)]
  have hrow : (wr.setCell ⟨gb, j, none⟩ (.int .u32 x)).heap[gb]? = some (.cells (wl (mwN xs (j + 1)) 4096).toArray 23) := by
    rw [heap_setCell_same wr gb j (wl (mwN xs j) 4096).toArray 23 _ D.d.row]
    rw [wl_set (mwN xs j) j _ (mwN xs (j + 1)) (by unfold mwN; rw [if_pos (by omega)]; exact hx) ho]
  have fz : ∀ (k p : Nat), k ≠ gb → wr.frozen? ⟨k, p, none⟩ = false → (wr.setCell ⟨gb, j, none⟩ (.int .u32 x)).drew.frozen? ⟨k, p, none⟩ = false := fun k p hk e => (World.frozen?_of_block (Below.heap_setCell wr ⟨gb, j, none⟩ (.int .u32 x) k hk)).trans e
  refine ⟨⟨⟨oth _ _ _ D.d.nr D.d.c0, oth _ _ _ D.d.nr D.d.c1, hrow, fun p hp => oth _ _ _ D.d.nk (D.d.wc p hp), D.d.nr, D.d.nk, fun i => ?_⟩, oth _ _ _ D.d.nr D.c2, fun p hp => oth _ _ _ D.ng (D.hc p hp), fun p => fz _ _ D.d.nk (D.fk p), fun p => fz _ _ D.ng (D.fh p), D.ng, D.nr, D.nk, D.kr, fun p => fz _ _ D.d.nr (D.fr p)⟩, ?_⟩
  · unfold mwN
    split
    · exact wf i
    · omega
  · exact below_drew (B.setCell hg _)
theorem dmade (w : World) (k1 k2 : Nat) (hk : (k1 = w.heap.size ∧ k2 = w.heap.size + 1) ∨ (k1 = w.heap.size + 1 ∧ k2 = w.heap.size)) :
    DMem (((((w.alloc (.cells F64 4)).alloc (.cells F64 4)).alloc (.cells #[.slice (some ⟨w.heap.size + 1 + 1 + 1, 0, none⟩) 4096 4096, .slice (some ⟨k1, 0, none⟩) 64 64, .slice (some ⟨k2, 0, none⟩) 64 64] 49)).alloc (.cells (wl (fun _ => 0) 4096).toArray 23)).drew) (w.heap.size + 1 + 1) (w.heap.size + 1 + 1 + 1) k1 k2 (fun _ => 0) (fun _ => false) (fun _ => false) ∧
    Below w.heap.size w (((((w.alloc (.cells F64 4)).alloc (.cells F64 4)).alloc (.cells #[.slice (some ⟨w.heap.size + 1 + 1 + 1, 0, none⟩) 4096 4096, .slice (some ⟨k1, 0, none⟩) 64 64, .slice (some ⟨k2, 0, none⟩) 64 64] 49)).alloc (.cells (wl (fun _ => 0) 4096).toArray 23)).drew) := by
  obtain ⟨R0, hR⟩ : ∃ R0, R0 = (wl (fun _ => 0) 4096).toArray := ⟨_, rfl⟩
  rw [← hR]
  have z1 : (w.alloc (.cells F64 4)).heap.size = w.heap.size + 1 := by simp
  have r0 : (w.alloc (.cells F64 4)).heap[w.heap.size]? = some (.cells F64 4) := heap_alloc_new w _
  have r1 : ((w.alloc (.cells F64 4)).alloc (.cells F64 4)).heap[w.heap.size + 1]? = some (.cells F64 4) := by have := heap_alloc_new (w.alloc (.cells F64 4)) (.cells F64 4); rwa [z1] at this
  have r0' : ((w.alloc (.cells F64 4)).alloc (.cells F64 4)).heap[w.heap.size]? = some (.cells F64 4) := (Below.heap_alloc _ _ _ (by simp)).trans r0
  generalize hW2 : (w.alloc (.cells F64 4)).alloc (.cells F64 4) = W2 at *
  have z2 : W2.heap.size = w.heap.size + 1 + 1 := by rw [← hW2]; simp
  have b2 : Below w.heap.size w W2 := by rw [← hW2]; exact ((Below.refl _ _).alloc (Nat.le_refl _) _).alloc (by simp) _
  generalize hC : (#[.slice (some ⟨w.heap.size + 1 + 1 + 1, 0, none⟩) 4096 4096, .slice (some ⟨k1, 0, none⟩) 64 64, .slice (some ⟨k2, 0, none⟩) 64 64] : Array Value) = C
  have r2 : (W2.alloc (.cells C 49)).heap[w.heap.size + 1 + 1]? = some (.cells C 49) := by have := heap_alloc_new W2 (.cells C 49); rwa [z2] at this
  have rk : (W2.alloc (.cells C 49)).heap[k1]? = some (.cells F64 4) := by
    rcases hk with ⟨rfl, _⟩ | ⟨rfl, _⟩
    · exact (Below.heap_alloc _ _ _ (by omega)).trans r0'
    · exact (Below.heap_alloc _ _ _ (by omega)).trans r1
  have rh : (W2.alloc (.cells C 49)).heap[k2]? = some (.cells F64 4) := by
    rcases hk with ⟨_, rfl⟩ | ⟨_, rfl⟩
    · exact (Below.heap_alloc _ _ _ (by omega)).trans r1
    · exact (Below.heap_alloc _ _ _ (by omega)).trans r0'
  have z3 : (W2.alloc (.cells C 49)).heap.size = w.heap.size + 1 + 1 + 1 := by simp [z2]
  have b3 : Below w.heap.size w (W2.alloc (.cells C 49)) := b2.alloc (by omega) _
  generalize W2.alloc (.cells C 49) = W3 at *
  have r3 : (W3.alloc (.cells R0 23)).drew.heap[w.heap.size + 1 + 1 + 1]? = some (.cells R0 23) := by have := heap_alloc_new W3 (.cells R0 23); rwa [z3] at this
  have r2' : (W3.alloc (.cells R0 23)).drew.heap[w.heap.size + 1 + 1]? = some (.cells C 49) := (Below.heap_alloc W3 _ _ (by omega)).trans r2
  have rk' : (W3.alloc (.cells R0 23)).drew.heap[k1]? = some (.cells F64 4) := (Below.heap_alloc W3 _ _ (by omega)).trans rk
  have rh' : (W3.alloc (.cells R0 23)).drew.heap[k2]? = some (.cells F64 4) := (Below.heap_alloc W3 _ _ (by omega)).trans rh
  have c : ∀ (j : Nat), (W3.alloc (.cells R0 23)).drew.cell? ⟨w.heap.size + 1 + 1, j, none⟩ = C[j]? := fun j => cell_of_row _ _ _ _ _ _ r2'
  refine ⟨⟨⟨by rw [c, ← hC]; rfl, by rw [c, ← hC]; rfl, by rw [r3, hR], fun p hp => by rw [cell_of_row _ _ _ _ _ _ rk']; exact F64_get p hp, by omega, by omega, fun i => by simp⟩, by rw [c, ← hC]; rfl, fun p hp => by rw [cell_of_row _ _ _ _ _ _ rh']; exact F64_get p hp, fun p => by unfold World.frozen?; rw [rk']; simp, fun p => by unfold World.frozen?; rw [rh']; simp, by omega, by omega, by omega, by omega, fun p => by unfold World.frozen?; rw [r2']; simp⟩, ?_⟩
  exact below_drew (b3.alloc (by omega) _)
set_option maxRecDepth 100000 in
set_option maxHeartbeats 1000000 in
theorem dnew_any {w : World} {v : Value} {xs : List Int} (X : WordsIn w v xs) (hx : xs.length ≤ 5000) :
    Calls Tryd.prog 16 #[v] w fun e w' => ∃ rb gb kb hb : Nat, e = .returned (.pointer (some ⟨rb, 0, none⟩)) ∧ DMem w' rb gb kb hb (mw xs) (fun _ => false) (fun _ => false) ∧ Below w.heap.size w w' ∧ w.heap.size ≤ rb ∧ w.heap.size ≤ gb ∧ w.heap.size ≤ kb ∧ w.heap.size ≤ hb := by
  obtain ⟨⟨ao, cap, rfl, hcap, hao⟩, wf⟩ := X
  have h64 := make64
  have h4k := make4096
  have HA : Hid (0 < xs.length → ∃ b off : Nat, ao = some ⟨b, off, none⟩ ∧ ∀ i, i < xs.length → w.cell? ⟨b, off + i, none⟩ = some (.int .u32 (xs.getD i 0))) := hao
  clear hao
  generalize hR : (wl (fun _ => 0) 4096).toArray = R0 at h4k
  go_enter Tryd.func16, Tryd.ntmps16
  go_upto_region 1 with fail
  go_region
  · go_wp2_with fail
    have M := dmade w w.heap.size (w.heap.size + 1) (Or.inl ⟨rfl, rfl⟩)
    obtain ⟨D0, B0⟩ := M
    rw [hR] at D0 B0
    have D0H := D0
    clear D0 h64 h4k hR
    generalize ((((w.alloc (.cells F64 4)).alloc (.cells F64 4)).alloc (.cells #[.slice (some ⟨w.heap.size + 1 + 1 + 1, 0, none⟩) 4096 4096, .slice (some ⟨w.heap.size, 0, none⟩) 64 64, .slice (some ⟨(w.heap.size + 1), 0, none⟩) 64 64] 49)).alloc (.cells R0 23)).drew = w1 at *
    generalize hrb : w.heap.size + 1 + 1 = rb at *
    generalize hgb : rb + 1 = gb at *
    obtain ⟨kb, hkb⟩ : ∃ kb, kb = w.heap.size := ⟨_, rfl⟩
    obtain ⟨hb, hhb⟩ : ∃ hb, hb = w.heap.size + 1 := ⟨_, rfl⟩
    rw [← hhb, ← hkb] at D0H
    have L1 : Hid (w.heap.size ≤ rb ∧ w.heap.size ≤ gb ∧ w.heap.size ≤ kb ∧ w.heap.size ≤ hb) := by show _ ∧ _; omega
    clear hrb hgb hkb hhb
    go_loopw [4] (fun i wr => ∃ j : Nat, j ≤ xs.length ∧ j ≤ 4096 ∧ i = .int .i64 j ∧ Hid (DMem wr rb gb kb hb (mwN xs j) (fun _ => false) (fun _ => false)) ∧ Hid (Below w.heap.size w wr)) (fun i _ => xs.length - (intOf i).toNat)
    case atStart => exact ⟨0, Nat.zero_le _, Nat.zero_le _, rfl, by show DMem _ _ _ _ _ _ _ _; rw [mwN_zero]; exact D0H, B0⟩
    case round =>
      clear D0H B0
      obtain ⟨j, hj, hj4, rfl, DR, BR⟩ := hrel
      have c0 := DR.out.d.c0
      by_cases hfull : j = 4096
      · have hd4 : decide ((j : Int) < 4096) = false := by simp; omega
        have hfin : DMem wr rb gb kb hb (mw xs) (fun _ => false) (fun _ => false) := DR.out.congr (fun i hi => by unfold mwN; rw [if_pos (by omega)]) wf
        by_cases hlt : j < xs.length
        · have hlt' : (j : Int) < xs.length := by omega
          go_wp2
          go_ret
          first | exact ⟨rb, rfl, gb, kb, hb, hfin, BR.out, L1.out⟩ | exact ⟨rb, gb, kb, hb, rfl, hfin, BR.out, L1.out⟩
        · have hlt' : ¬ (j : Int) < xs.length := by omega
          go_wp2
          go_ret
          first | exact ⟨rb, rfl, gb, kb, hb, hfin, BR.out, L1.out⟩ | exact ⟨rb, gb, kb, hb, rfl, hfin, BR.out, L1.out⟩
      by_cases hlt : j < xs.length
      · have hlt' : (j : Int) < xs.length := by omega
        have hlt2 : (j : Int) < 4096 := by omega
        obtain ⟨b, off, rfl, hc⟩ := HA.out (by omega)
        obtain ⟨x, hx⟩ : ∃ x, mw xs j = x := ⟨_, rfl⟩
        have hcell : wr.cell? ⟨b, off + j, none⟩ = some (.int .u32 x) := by
          have := hc j hlt
          rw [show xs.getD j 0 = x from hx] at this
          rw [BR.out.cell (World.block_lt_of_cell? _ _ this)]; exact this
        have hold := DR.out.d.cell j (by omega)
        have hfz : wr.frozen? ⟨gb, j, none⟩ = false := by unfold World.frozen?; rw [DR.out.d.row]; simp
        have key := dput_word DR.out BR.out L1.out.2.1 hx (by omega) wf
        clear hx
        clear hc
        go_wp2_with fail
        go_region
        all_goals
          go_wp2
          go_roundw
          case rel => exact ⟨j + 1, by omega, by omega, by go_num, key.1, key.2⟩
          case measure => simp [intOf]; omega
      · have hlt' : ¬ (j : Int) < xs.length := by omega
        obtain rfl : j = xs.length := by omega
        go_wp2
        go_ret
        first | exact ⟨rb, rfl, gb, kb, hb, by rw [← mwN_all]; exact DR.out, BR.out, L1.out⟩ | exact ⟨rb, gb, kb, hb, rfl, by rw [← mwN_all]; exact DR.out, BR.out, L1.out⟩
  · go_wp2_with fail
    have M := dmade w (w.heap.size + 1) w.heap.size (Or.inr ⟨rfl, rfl⟩)
    obtain ⟨D0, B0⟩ := M
    rw [hR] at D0 B0
    have D0H := D0
    clear D0 h64 h4k hR
    generalize ((((w.alloc (.cells F64 4)).alloc (.cells F64 4)).alloc (.cells #[.slice (some ⟨w.heap.size + 1 + 1 + 1, 0, none⟩) 4096 4096, .slice (some ⟨(w.heap.size + 1), 0, none⟩) 64 64, .slice (some ⟨w.heap.size, 0, none⟩) 64 64] 49)).alloc (.cells R0 23)).drew = w1 at *
    generalize hrb : w.heap.size + 1 + 1 = rb at *
    generalize hgb : rb + 1 = gb at *
    obtain ⟨kb, hkb⟩ : ∃ kb, kb = (w.heap.size + 1) := ⟨_, rfl⟩
    obtain ⟨hb, hhb⟩ : ∃ hb, hb = w.heap.size := ⟨_, rfl⟩
    rw [← hkb, ← hhb] at D0H
    have L1 : Hid (w.heap.size ≤ rb ∧ w.heap.size ≤ gb ∧ w.heap.size ≤ kb ∧ w.heap.size ≤ hb) := by show _ ∧ _; omega
    clear hrb hgb hkb hhb
    go_loopw [4] (fun i wr => ∃ j : Nat, j ≤ xs.length ∧ j ≤ 4096 ∧ i = .int .i64 j ∧ Hid (DMem wr rb gb kb hb (mwN xs j) (fun _ => false) (fun _ => false)) ∧ Hid (Below w.heap.size w wr)) (fun i _ => xs.length - (intOf i).toNat)
    case atStart => exact ⟨0, Nat.zero_le _, Nat.zero_le _, rfl, by show DMem _ _ _ _ _ _ _ _; rw [mwN_zero]; exact D0H, B0⟩
    case round =>
      clear D0H B0
      obtain ⟨j, hj, hj4, rfl, DR, BR⟩ := hrel
      have c0 := DR.out.d.c0
      by_cases hfull : j = 4096
      · have hd4 : decide ((j : Int) < 4096) = false := by simp; omega
        have hfin : DMem wr rb gb kb hb (mw xs) (fun _ => false) (fun _ => false) := DR.out.congr (fun i hi => by unfold mwN; rw [if_pos (by omega)]) wf
        by_cases hlt : j < xs.length
        · have hlt' : (j : Int) < xs.length := by omega
          go_wp2
          go_ret
          first | exact ⟨rb, rfl, gb, kb, hb, hfin, BR.out, L1.out⟩ | exact ⟨rb, gb, kb, hb, rfl, hfin, BR.out, L1.out⟩
        · have hlt' : ¬ (j : Int) < xs.length := by omega
          go_wp2
          go_ret
          first | exact ⟨rb, rfl, gb, kb, hb, hfin, BR.out, L1.out⟩ | exact ⟨rb, gb, kb, hb, rfl, hfin, BR.out, L1.out⟩
      by_cases hlt : j < xs.length
      · have hlt' : (j : Int) < xs.length := by omega
        have hlt2 : (j : Int) < 4096 := by omega
        obtain ⟨b, off, rfl, hc⟩ := HA.out (by omega)
        obtain ⟨x, hx⟩ : ∃ x, mw xs j = x := ⟨_, rfl⟩
        have hcell : wr.cell? ⟨b, off + j, none⟩ = some (.int .u32 x) := by
          have := hc j hlt
          rw [show xs.getD j 0 = x from hx] at this
          rw [BR.out.cell (World.block_lt_of_cell? _ _ this)]; exact this
        have hold := DR.out.d.cell j (by omega)
        have hfz : wr.frozen? ⟨gb, j, none⟩ = false := by unfold World.frozen?; rw [DR.out.d.row]; simp
        have key := dput_word DR.out BR.out L1.out.2.1 hx (by omega) wf
        clear hx
        clear hc
        go_wp2_with fail
        go_region
        all_goals
          go_wp2
          go_roundw
          case rel => exact ⟨j + 1, by omega, by omega, by go_num, key.1, key.2⟩
          case measure => simp [intOf]; omega
      · have hlt' : ¬ (j : Int) < xs.length := by omega
        obtain rfl : j = xs.length := by omega
        go_wp2
        go_ret
        first | exact ⟨rb, rfl, gb, kb, hb, by rw [← mwN_all]; exact DR.out, BR.out, L1.out⟩ | exact ⟨rb, gb, kb, hb, rfl, by rw [← mwN_all]; exact DR.out, BR.out, L1.out⟩
end Go.Proofs.YtmfhimphlackiaaDoor
