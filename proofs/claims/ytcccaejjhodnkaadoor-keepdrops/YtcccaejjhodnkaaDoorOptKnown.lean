/-
  Package opt: Known; ops that are told.
-/
import Derived.Test.YtcccaejjhodnkaaDoorOptFacts
import Derived.Test.YtcccaejjhodnkaaDoorIrChk3
import Derived.Test.YtcccaejjhodnkaaDoorOptNeeds
namespace Go.Proofs.YtcccaejjhodnkaaDoor
open Go.RowKit Go.Maps
open Num
set_option linter.unusedVariables false
theorem check_ok (pe : Nat → Addr) {w : World} (E : Eg pe w) {v : Value} {l : List Opx} (A : OpsIn w v l) (hl : (l.length : Int) ≤ 1000000) (pc many : Int) (m0 : -9223372036854775808 ≤ many) (m1 : many ≤ 9223372036854775807) (hf : codeF many l = (0, -1)) :
    Calls Tryd.prog 37 #[.agg #[.int .u32 pc, .int .i64 many, v]] w fun e w' => e = .returned .nilIface ∧ Below w.heap.size w w' := by
  refine (check_any pe E A hl pc many m0 m1).mono ?_
  rintro e w' ⟨⟨x, rfl, hC⟩, hb⟩
  rw [hf] at hC
  rcases hC with ⟨_, h⟩ | ⟨h, _⟩
  · exact ⟨by rw [h]; rfl, hb⟩
  · omega
theorem check_bad (pe : Nat → Addr) {w : World} (E : Eg pe w) {v : Value} {l : List Opx} (A : OpsIn w v l) (hl : (l.length : Int) ≤ 1000000) (pc many : Int) (m0 : -9223372036854775808 ≤ many) (m1 : many ≤ 9223372036854775807) (hf : codeF many l ≠ (0, -1)) :
    Calls Tryd.prog 37 #[.agg #[.int .u32 pc, .int .i64 many, v]] w fun e w' => (∃ t p, e = .returned (.iface t (.pointer p)) ∧ CErr pe w' (codeF many l) (.iface t (.pointer p))) ∧ Below w.heap.size w w' := by
  refine (check_any pe E A hl pc many m0 m1).mono ?_
  rintro e w' ⟨⟨x, rfl, hC⟩, hb⟩
  refine ⟨?_, hb⟩
  have hC' := hC
  rcases hC with ⟨h1, h2⟩ | ⟨_, _, fb, h, _⟩
  · have h3 : (codeF many l).1 ≠ 0 := by
      intro h3; exact hf (Prod.ext h3 h1)
    rw [erV_some h3] at h2
    subst h2
    exact ⟨_, _, rfl, hC'⟩
  · subst h
    exact ⟨_, _, rfl, hC'⟩
set_option maxRecDepth 100000 in
set_option maxHeartbeats 4000000 in
theorem known_bad (pe : Nat → Addr) {w : World} (E : Eg pe w) {v : Value} {l : List Opx} (A : OpsIn w v l) (hl : (l.length : Int) ≤ 1000000) (pc many : Int) (m0 : -9223372036854775808 ≤ many) (m1 : many ≤ 9223372036854775807) (hf : codeF many l ≠ (0, -1)) :
    Calls Tryd.prog 22 #[.agg #[.int .u32 pc, .int .i64 many, v]] w fun e w' => e = .returned (.int .i64 0) ∧ Below w.heap.size w w' := by
  have hB0 : Below w.heap.size w (w.alloc (.cells #[.int .u32 pc, .int .i64 many, v] 35)) := (Below.refl _ _).alloc (Nat.le_refl _) _
  have hck := check_bad pe (E.stays hB0) (A.stays hB0) hl pc many m0 m1 hf
  obtain ⟨ao, cap, rfl, _⟩ := A.sh
  clear E A hf
  go_enter Tryd.func22, Tryd.ntmps22
  go_wp2_with fail
  refine hck.mono ?_
  rintro e w1 ⟨⟨t, p, rfl, _⟩, hb1⟩
  have HB : Hid (Below w.heap.size w w1) := hB0.trans (hb1.mono (by simp))
  clear hck hb1
  go_wp2
  go_ret
  exact ⟨rfl, HB.out⟩
set_option maxRecDepth 100000 in
set_option maxHeartbeats 4000000 in
theorem known_ok (pe : Nat → Addr) {w : World} (E : Eg pe w) {v : Value} {l : List Opx} (A : OpsIn w v l) (hl : (l.length : Int) ≤ 1000000) (pc many : Int) (m0 : -9223372036854775808 ≤ many) (m1 : many ≤ 9223372036854775807) (hf : codeF many l = (0, -1)) :
    Calls Tryd.prog 22 #[.agg #[.int .u32 pc, .int .i64 many, v]] w fun e w' => e = .returned (.int .i64 (knownC fx0 l)) ∧ Below w.heap.size w w' := by
  have hB0 : Below w.heap.size w (w.alloc (.cells #[.int .u32 pc, .int .i64 many, v] 35)) := (Below.refl _ _).alloc (Nat.le_refl _) _
  have hck := check_ok pe (E.stays hB0) (A.stays hB0) hl pc many m0 m1 hf
  have hne : l ≠ [] := (codeF_well.1 hf).ne
  have hpos : 0 < l.length := List.length_pos_iff.2 hne
  have hOk : Hid (∀ o ∈ l, o.ok) := A.ok
  obtain ⟨ao, cap, rfl, hc, hh⟩ := A.sh
  obtain ⟨b, off, rfl, hcell⟩ := hh hpos
  have hbl : b < w.heap.size := World.block_lt_of_cell? _ _ (hcell 0 _ (List.getElem?_eq_getElem hpos) 0 _ rfl)
  have HC : Hid (∀ (i : Nat) (o : Opx), l[i]? = some o → ∀ (j : Nat) (u : Value), (opC o)[j]? = some u → w.cell? ⟨b, off + i * 6 + j, none⟩ = some u) := hcell
  clear E A hf hne hh hcell
  go_enter Tryd.func22, Tryd.ntmps22
  go_wp2_with fail
  refine hck.mono ?_
  rintro e w1 ⟨rfl, hb1⟩
  obtain ⟨c, hfz⟩ := bcell6 hb1
  have HB1 : Hid (Below w.heap.size w w1) := hB0.trans (hb1.mono (by simp))
  have hz1 : w.heap.size < w1.heap.size := by have := hb1.size; simp at this; omega
  clear hck hb1
  go_wp2_with fail
  refine (newFacts_any _).mono ?_
  rintro e w2 ⟨fb, rfl, hF, hb2, hfb⟩
  have c2 : w2.cell? ⟨w.heap.size, 2, none⟩ = some (.slice (some ⟨b, off, none⟩) l.length cap) := by rw [hb2.cell (p := ⟨w.heap.size, 2, none⟩) hz1, c]; simp
  have HB2 : Hid (Below w.heap.size w w2) := HB1.out.trans (hb2.mono (by omega))
  have HF : Hid (FactsAt w2 fb 1 fx0) := hF
  have hz2 : w.heap.size < w2.heap.size := by have := hb2.size; omega
  have HFB : Hid (w.heap.size ≤ fb) := by show _ ≤ _; omega
  clear hb2 c hfz hF hfb HB1
  go_wp2
  go_loopw [3, 14] (fun n i wr => ∃ j : Nat, j ≤ l.length ∧ i = .int .i64 j ∧ n = .int .i64 (knownC fx0 (l.take j)) ∧ FactsAt wr fb (1 + j) (factsF fx0 (l.take j)) ∧ Below w.heap.size w wr) (fun _ i _ => l.length - (intOf i).toNat)
  case atStart => exact ⟨0, Nat.zero_le _, rfl, rfl, HF.out, HB2.out⟩
  case round =>
    obtain ⟨j, hj, rfl, rfl, hFr, hBr⟩ := hrel
    have HFr : Hid (FactsAt wr fb (1 + j) (factsF fx0 (l.take j))) := hFr
    have HBr : Hid (Below w.heap.size w wr) := hBr
    have hkl := knownC_le (l.take j) fx0
    have hkl2 : (l.take j).length ≤ j := List.length_take_le _ _
    clear hFr HF HB2
    by_cases hlt : j < l.length
    · obtain ⟨o, ho, hom⟩ : ∃ o, l[j]? = some o ∧ o ∈ l := ⟨l[j], List.getElem?_eq_getElem hlt, List.getElem_mem hlt⟩
      obtain ⟨x0, x1, x2, x3, x4, x5⟩ := op_cells (w := wr) (fun k u hk => by rw [hBr.cell (p := ⟨b, off + j * 6 + k, none⟩) hbl]; exact HC.out j o ho k u hk)
      have hbr : b < wr.heap.size := by have := hBr.size; omega
      have hok := hOk.out o hom
      have hBa : Below wr.heap.size wr (wr.alloc (.cells #[.string o.s, .int .i64 o.d, .int .i64 o.a, .int .i64 o.b, .int .u32 o.i, .int .i64 o.t] 60)) := (Below.refl _ _).alloc (Nat.le_refl _) _
      have htl := tell_any (HFr.out.stays hBa) o hok.rg
      have HS1 : Hid (knownC fx0 (l.take (j + 1)) = knownC fx0 (l.take j) + (if tellB (factsF fx0 (l.take j)) o = true then 1 else 0)) := by show _ = _; rw [take_snoc' ho, knownC_snoc]
      have HS2 : Hid (factsF fx0 (l.take (j + 1)) = learnF (factsF fx0 (l.take j)) o) := by show _ = _; rw [take_snoc' ho, factsF_snoc]
      have hlt' : (j : Int) < l.length := by omega
      have HOK : Hid o.ok := hok
      clear hBr ho hom hok
      generalize tellB (factsF fx0 (l.take j)) o = tb at *
      generalize knownC fx0 (l.take j) = kc at *
      unfold opV at htl
      go_wp2_with fail
      refine htl.mono ?_
      rintro e w3 ⟨rfl, hb3⟩
      obtain ⟨c3, f3⟩ := bcell6 hb3
      have HB3 : Hid (Below wr.heap.size wr w3) := hBa.trans (hb3.mono (by simp))
      have hz3 : wr.heap.size < w3.heap.size := by have := hb3.size; simp at this; omega
      have hln := learn_any (HFr.out.stays HB3.out) (by unfold maxLen; omega) o HOK.out
      unfold opV at hln
      clear htl hb3 hBa
      cases tb
      all_goals
        go_wp2_with fail
        refine hln.mono ?_
        rintro e w4 ⟨rfl, hF4, hg4⟩
        have HF4 : Hid _ := hF4
        have HB4 : Hid (Below w.heap.size w w4) := below_of_grown (HBr.out.trans (HB3.out.mono HBr.out.size)) hg4 (Nat.le_refl _) HFB.out
        clear hln hF4 hg4 c3 f3
        go_wp2
        go_roundw
        case rel =>
          refine ⟨j + 1, by omega, by go_num, ?_, by rw [HS2.out]; exact HF4.out, HB4.out⟩
          rw [HS1.out]; go_num
        case measure => simp [intOf]; omega
    · obtain rfl : j = l.length := by omega
      rw [List.take_length]
      go_wp2
      go_ret
      exact ⟨rfl, HBr.out⟩
end Go.Proofs.YtcccaejjhodnkaaDoor
