/-
  The walk of RamKeeps.
-/
import Derived.Test.YtmfhimphlackiaaDoorKeepsPure
import Derived.Test.YtmfhimphlackiaaDoorCopy
import Derived.Test.YtmfhimphlackiaaDoorParts
namespace Go.Proofs.YtmfhimphlackiaaDoor
open Go.RowKit Go.Maps
open Num
set_option linter.unusedVariables false
set_option maxRecDepth 100000 in
set_option maxHeartbeats 1000000 in
theorem ramKeeps_any (ps pa pf : Addr) {w : World} (E : Er ps pa pf w) {v : Value} {xs : List Int} (X : WordsIn w v xs) (hlen : (xs.length : Int) ≤ 9223372036854775807) (a s u : Int) (h0 : 0 ≤ a) (h1 : a < 4294967296) (s0 : -9223372036854775808 ≤ s) (s1 : s ≤ 9223372036854775807) (u0 : 0 ≤ u) (u1 : u < 4294967296) :
    Calls Tryd.prog 3 #[v, .int .u32 a, .int .i64 s, .int .u32 u] w fun e w' => e = .returned (.bool true) ∧ Below w.heap.size w w' := by
  obtain ⟨ao, cap, rfl, hcap, _⟩ := X.sh
  have hst := stored_any w
  have XH : Hid (WordsIn w (.slice ao xs.length cap) xs) := X
  have EH : Hid (Er ps pa pf w) := E
  clear X E
  go_enter Tryd.func3, Tryd.ntmps3
  go_wp2_with fail
  refine hst.mono ?_
  rintro e w1 ⟨rfl, hb1⟩
  clear hst
  by_cases hl : 5000 < (xs.length : Int)
  · go_wp2
    go_ret
    exact ⟨rfl, hb1⟩
  have hl' : (xs.length : Int) ≤ 5000 := by omega
  clear hl
  go_wp2_with fail
  refine (new_ex (XH.out.stays hb1) (by omega)).mono ?_
  rintro e w2 ⟨sb, bp, bw, bh, rfl, R, hb2, hp, hh⟩
  have B2 : Hid (Below w.heap.size w w2) := hb1.trans (hb2.mono hb1.size)
  have E2 : Hid (Er ps pa pf w2) := EH.out.stays B2.out
  have hp : w.heap.size ≤ bp := Nat.le_trans hb1.size hp
  have hh : w.heap.size ≤ bh := Nat.le_trans hb1.size hh
  have RH : Hid (RamIs w2 sb bp bw bh 64 (mw xs) (fun _ => false) (fun _ => false)) := R
  have lp := R.ps.lt
  have lh := R.hs.lt
  clear R hb1 hb2 XH EH
  go_wp2_with fail
  refine (words_at RH.out).mono ?_
  rintro e w3 ⟨g, rfl, W3, hb3, hg⟩
  have R3 := RH.out.stays hb3 (Nat.le_refl _)
  have B3 : Hid (Below w.heap.size w w3) := B2.out.trans (hb3.mono B2.out.size)
  have E3 : Hid (Er ps pa pf w3) := E2.out.stays hb3
  have lp3 := R3.ps.lt
  have lh3 := R3.hs.lt
  have RH3 : Hid (RamIs w3 sb bp bw bh 64 (mw xs) (fun _ => false) (fun _ => false)) := R3
  have WH3 : Hid (WordsAt w3 g (mw xs)) := W3
  have ngp : g ≠ bp := by omega
  have ngh : g ≠ bh := by omega
  clear R3 W3 RH hb3 B2 E2 hg lp lh
  go_wp2_with fail
  refine (copy_any RH3.out).mono ?_
  rintro e w4 ⟨sb', bp', bw', bh', rfl, Rx, hb4, q1, q2, q3, q4⟩
  have R4 : Hid (RamIs w4 sb bp bw bh 64 (mw xs) (fun _ => false) (fun _ => false)) := RH3.out.stays hb4 (Nat.le_refl _)
  have RX : Hid (RamIs w4 sb' bp' bw' bh' 64 (mw xs) (fun _ => false) (fun _ => false)) := Rx
  have W4 : Hid (WordsAt w4 g (mw xs)) := WH3.out.stays hb4
  have B4 : Hid (Below w.heap.size w w4) := B3.out.trans (hb4.mono B3.out.size)
  have E4 : Hid (Er ps pa pf w4) := E3.out.stays hb4
  have NE : Hid ((sb' ≠ bp ∧ sb' ≠ bh) ∧ (bp' ≠ bp ∧ bp' ≠ bh) ∧ (bw' ≠ bp ∧ bw' ≠ bh) ∧ (bh' ≠ bp ∧ bh' ≠ bh)) := by
    refine ⟨⟨?_, ?_⟩, ⟨?_, ?_⟩, ⟨?_, ?_⟩, ⟨?_, ?_⟩⟩ <;> omega
  clear Rx hb4 RH3 WH3 B3 E3 q1 q2 q3 q4 lp3 lh3
  by_cases hc : chk a s = 0
  · have hok := store_ok R4.out a s u h0 h1 u0 u1 (by unfold maxLen; omega) hc
    obtain ⟨hs, hm, hf⟩ := chk_ok hc
    have hgot := ld_upd (mw xs) a s u hc
    have HC : Hid (chk a s = 0) := hc
    clear R4 E4 hc
    rcases hs with rfl | rfl | rfl
    all_goals
      first
        | rw [show u % 2 ^ (8 * (1 : Int)).toNat = u % 256 from rfl] at hgot
        | rw [show u % 2 ^ (8 * (2 : Int)).toNat = u % 65536 from rfl] at hgot
        | rw [show u % 2 ^ (8 * (4 : Int)).toNat = u from Int.emod_eq_of_lt u0 u1] at hgot
      go_wp2_with fail
      refine hok.mono ?_
      rintro e w5 ⟨rfl, R5, T5⟩
      have RX5 : Hid (RamIs w5 sb' bp' bw' bh' 64 (mw xs) (fun _ => false) (fun _ => false)) := RX.out.turned T5 NE.out.1.1 NE.out.1.2 NE.out.2.1.1 NE.out.2.1.2 NE.out.2.2.1.1 NE.out.2.2.1.2 NE.out.2.2.2.1 NE.out.2.2.2.2
      have W5 : Hid (WordsAt w5 g (mw xs)) := W4.out.turned T5 ngp ngh
      have B5 : Hid (Below w.heap.size w w5) := T5.below B4.out (Nat.le_refl _) hp hh
      have RH5 : Hid (RamIs w5 sb bp bw bh (64 + 2) (upd (mw xs) a _ u) _ _) := R5
      have hl5 := load_ok RH5.out a _ false h0 h1 HC.out
      rw [hgot] at hl5
      clear R5 T5 hok hgot RX W4 B4 NE HC
      go_wp2_with fail
      refine hl5.mono ?_
      rintro e w6 ⟨rfl, k, rfl⟩
      clear hl5
      go_wp2_with fail
      refine (words_at (RX5.out.drewN k)).mono ?_
      rintro e w7 ⟨g7, rfl, W7, hb7, _⟩
      have W7' : Hid (WordsAt w7 g (mw xs)) := (W5.out.drewN k).stays hb7
      have hal := alike_at W7 W7'.out
      have R7 : Hid (RamIs w7 sb bp bw bh (64 + 2) (upd (mw xs) a _ u) _ _) := (RH5.out.drewN k).stays hb7 (Nat.le_refl _)
      have B7 : Hid (Below w.heap.size w w7) := (below_drewN B5.out k).trans (hb7.mono (below_drewN B5.out k).size)
      clear RH5 W5 B5 RX5 W7 hb7
      go_wp2_with fail
      refine hal.mono ?_
      rintro e w8 ⟨rfl, k8, rfl⟩
      clear hal
      go_wp2_with fail
      refine (words_at (R7.out.drewN k8)).mono ?_
      rintro e w9 ⟨g9, rfl, W9, hb9, _⟩
      have W9' := (W7'.out.drewN k8).stays hb9
      have B9 : Hid (Below w.heap.size w w9) := (below_drewN B7.out k8).trans (hb9.mono (below_drewN B7.out k8).size)
      clear R7 B7 W7' hb9
      go_wp2_with fail
      go_loopw [17] (fun i wr => ∃ j q : Nat, j ≤ 4096 ∧ i = .int .i64 j ∧ wr = w9.drewN q) (fun i _ => 4096 - (intOf i).toNat)
      case atStart => exact ⟨0, 0, by omega, rfl, rfl⟩
      case round =>
        obtain ⟨j, q, hj, rfl, rfl⟩ := hrel
        by_cases hlt : j < 4096
        · have hlt' : (j : Int) < 4096 := by omega
          by_cases hja : j = (a / 4).toNat
          · have hd : ((j : Int) != a / 4) = false := by
              have : (j : Int) = a / 4 := by omega
              simp [this]
            clear W9 W9' hja
            go_wp2_with fail
            go_quiet (fail)
            go_wp2
            go_roundw
            case rel => exact ⟨j + 1, q + nq, by omega, by go_num, by simp⟩
            case measure => simp [intOf]; omega
          · have hd : ((j : Int) != a / 4) = true := by
              have : ¬ (j : Int) = a / 4 := by omega
              simp [this]
            have x1 := W9 j hlt
            rw [upd_other _ _ _ _ _ hja, Nat.zero_add] at x1
            have x2 := W9' j hlt
            rw [Nat.zero_add] at x2
            clear W9 W9' hja
            go_wp2_with fail
            go_quiet (fail)
            go_wp2
            go_roundw
            case rel => exact ⟨j + 1, q + nq, by omega, by go_num, by simp⟩
            case measure => simp [intOf]; omega
        · clear W9 W9'
          go_wp2
          go_ret
          exact ⟨rfl, below_drewN B9.out _⟩
  · have hno := store_no ps pa pf E4.out (.pointer (some ⟨sb, 0, none⟩)) a s u h0 h1 s0 s1 hc
    clear E4 hc NE RX
    go_wp2_with fail
    refine hno.mono ?_
    rintro e w5 ⟨rfl, rfl⟩
    clear hno
    go_wp2_with fail
    refine (words_at R4.out).mono ?_
    rintro e w6 ⟨g6, rfl, W6, hb6, _⟩
    have hal := alike_at (W4.out.stays hb6) W6
    have B6 : Hid (Below w.heap.size w w6) := B4.out.trans (hb6.mono B4.out.size)
    clear W6 hb6 W4
    go_wp2_with (go_at_call 13; refine hal.mono ?_; rintro e w7 ⟨rfl, k, rfl⟩)
    go_ret
    exact ⟨rfl, below_drewN B6.out _⟩
end Go.Proofs.YtmfhimphlackiaaDoor
