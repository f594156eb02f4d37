/-
  The walk of CodeKinds: every word is of one kind; a word with one bit turned is another instruction, or none.
-/
import Derived.Test.YtnbinljgfipboabDoorKinds
namespace Go.Proofs.YtnbinljgfipboabDoor
open Go.RowKit Go.Extern.Stop Go.Stop Go.Extern
open Num Tab
set_option linter.unusedVariables false
theorem shf_1 (n : Int) : shf 60 1 n = pw n := by
  have := pw_bd n
  unfold shf; rw [if_pos rfl, Int.one_mul]; exact lo_of (by omega) (by omega)
set_option maxHeartbeats 8000000 in
theorem codeKinds_any (pk pb : Addr) (v turn : Int) (h0 : 0 ≤ v) (h1 : v < 4294967296) (w : World) (T : Tb pk pb w) :
    Calls Tryd.prog 5 #[.int .u32 v, .int .i64 turn] w fun e w' => e = .returned (.bool true) ∧ Below w.heap.size w w' := by
  have HT : Hid (Tb pk pb w) := T
  clear T
  by_cases ht : turn < 0 ∨ 31 < turn
  · rcases ht with ht | ht
    · go_enter Tryd.func5, Tryd.ntmps5
      go_wp2_with (go_at_call 6; refine (coding_any pk pb _ HT.out).mono ?_; rintro e w1 ⟨rfl, hb1⟩)
      go_ret
      exact ⟨rfl, hb1⟩
    · have ht0 : 0 ≤ turn := by omega
      go_enter Tryd.func5, Tryd.ntmps5
      go_wp2_with (go_at_call 6; refine (coding_any pk pb _ HT.out).mono ?_; rintro e w1 ⟨rfl, hb1⟩)
      go_ret
      exact ⟨rfl, hb1⟩
  have t0 : 0 ≤ turn := by omega
  have t1 : turn ≤ 31 := by omega
  clear ht
  have hp := pw_bd turn
  obtain ⟨hp0, hp1⟩ := hp
  have e1 := shf_1 turn
  go_enter Tryd.func5, Tryd.ntmps5
  go_wp2_with (go_at_call 6; refine (coding_any pk pb _ HT.out).mono ?_; rintro e w1 ⟨rfl, hb1⟩)
  have T1 := HT.out.stays hb1 (Nat.le_refl _)
  refine (decode_ins pk pb v h0 h1 _ T1).mono ?_
  rintro e w2 ⟨k, s, t, d, m, HI, rfl, hb2⟩
  have hk := ins_lt HI.out
  have HM : Hid (∀ x, ((v - pw turn) % 4294967296 = x ∨ (v + pw turn) % 4294967296 = x) → x ≠ v ∧ 0 ≤ x ∧ x < 4294967296) := fun x hx => by
    rcases hx with hx | hx <;> omega
  have b2 : Below w.heap.size w w2 := hb1.trans (hb2.mono hb1.size)
  have bA : Below w.heap.size w (w2.alloc (.cells #[.int .i64 k, .int .i64 s, .int .i64 t, .int .i64 d, .int .u32 m] 24)) := b2.alloc b2.size _
  have TA := HT.out.stays bA (Nat.le_refl _)
  rcases kind_lit k hk with hl | hl | hl | hl | hl
  all_goals
    have HL : Hid (kind k = _) := hl
    clear hl
    go_wp2_with (first | (go_at_call 14; refine (kind_nat k hk _ HL.out _).mono ?_; rintro e w' ⟨rfl, rfl⟩) | (go_at_call 16; refine (shift_any _ _ _ (by omega) (by omega) (by omega) _).mono ?_; rintro e w' ⟨rfl, rfl⟩) | (go_at_call 17; refine (part_any _ _ _ (by omega) (by omega) (by omega) (by omega) (by omega) (by omega) _).mono ?_; rintro e w' ⟨rfl, rfl⟩))
  all_goals
    clear HL
    first
    | (obtain ⟨u, hu, hm⟩ : ∃ x, (v - pw turn) % 4294967296 = x ∧ (x ≠ v ∧ 0 ≤ x ∧ x < 4294967296) := ⟨_, rfl, HM.out _ (Or.inl rfl)⟩; rw [hu])
    | (obtain ⟨u, hu, hm⟩ : ∃ x, (v + pw turn) % 4294967296 = x ∧ (x ≠ v ∧ 0 ≤ x ∧ x < 4294967296) := ⟨_, rfl, HM.out _ (Or.inr rfl)⟩; rw [hu])
    obtain ⟨une, u0, u1⟩ := hm
    clear hu HM e1 hp0 hp1
    refine (decode_ins pk pb u u0 u1 _ TA).mono ?_
    rintro e w3 ⟨j, s', t', d', m', HJ, rfl, hb3⟩
    have NE : Hid (u ≠ v) := une
    clear une
    have c : ∀ q, w3.cell? ⟨w2.heap.size, q, none⟩ = _ := fun q => hb3.cell (p := ⟨w2.heap.size, q, none⟩) (by simp)
    have c0 := c 0
    have c1 := c 1
    have c2 := c 2
    have c3 := c 3
    have c4 := c 4
    clear c
    simp at c0 c1 c2 c3 c4
    have b3 : Below w.heap.size w w3 := bA.trans (hb3.mono bA.size)
    have hz3 : w2.heap.size < w3.heap.size := by have := hb3.size; simp at this; omega
    have fin : ∀ o, Below w.heap.size w (w3.alloc o) := fun o => b3.alloc b3.size _
    clear hb3 bA TA hb2 hb1 T1 b2
    by_cases hk0 : (k : Int) = 0
    · have hI := HI.out
      rw [show k = 0 by omega] at hI
      obtain ⟨rfl, rfl, rfl, rfl⟩ := ins_zero hI
      clear hI HI
      go_wp2
      go_ret
      exact ⟨rfl, fin _⟩
    · by_cases a1 : (j : Int) = k
      · by_cases a2 : s' = s
        · by_cases a3 : t' = t
          · by_cases a4 : d' = d
            · by_cases a5 : m' = m
              · exact (ins_ne NE.out HI.out HJ.out hk0 a1 a2 a3 a4 a5).elim
              · go_wp2
                go_ret
                exact ⟨rfl, fin _⟩
            · go_wp2
              go_ret
              exact ⟨rfl, fin _⟩
          · go_wp2
            go_ret
            exact ⟨rfl, fin _⟩
        · go_wp2
          go_ret
          exact ⟨rfl, fin _⟩
      · go_wp2
        go_ret
        exact ⟨rfl, fin _⟩
end Go.Proofs.YtnbinljgfipboabDoor
