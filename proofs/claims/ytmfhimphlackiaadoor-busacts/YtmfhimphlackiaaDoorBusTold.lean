/-
  What a bus tells: its trace, its output.
-/
import Derived.Test.YtmfhimphlackiaaDoorBusMem
import Derived.Lib.SliceRun
import Derived.Laws.BytesArg
namespace Go.Proofs.YtmfhimphlackiaaDoor
open Go.RowKit Go.Maps
open Num
set_option linter.unusedVariables false
theorem acc_one (tr : List Acc) : ∀ u ∈ tr.flatMap accC, u.oneCell' = true := by
  intro u hu
  obtain ⟨x, _, hx⟩ := List.mem_flatMap.1 hu
  simp [accC] at hx
  rcases hx with rfl | rfl | rfl | rfl <;> rfl
set_option maxRecDepth 100000 in
set_option maxHeartbeats 1000000 in
theorem clone55 {w : World} {base n : Nat} {v : Value} {xs : List Value} (h : w.ownsRow base 98 4 v n xs) (hn : n ≤ 1000) (h1 : ∀ u ∈ xs, u.oneCell' = true) :
    Calls Tryd.prog 56 #[v] w fun e w' => ∃ ao cap, e = .returned (.slice ao n cap) ∧ w'.ownsRow w.heap.size 98 4 (.slice ao n cap) n xs ∧ Below w.heap.size w w' := by
  obtain ⟨i0, hi, hz0, hz1, hz2⟩ := info_parts info55
  have hq : ∀ (w : World) (a : Option Addr) (n c : Nat), (binOp .eql 63 (.slice a n c) (.slice none 0 0)).run Tryd.prog w = .ok (.bool a.isNone) w := fun w a n c => Lib.run_eql_slice_nil w 63 98 a n c 0 0 Tryd.underlying63
  rcases h.2 with ⟨rfl, rfl⟩ | ⟨g, cap, cur, rfl, hb, hg, hnc, hcm, hcs, htake⟩
  · have hx : xs = [] := List.eq_nil_of_length_eq_zero (by simpa using h.1)
    subst hx
    go_enter Tryd.func56, Tryd.ntmps56
    go_wp2
    go_ret
    exact ⟨none, 0, rfl, World.ownsRow_nil _ _ _ _, Below.refl _ _⟩
  · have hown : (w.alloc (.cells #[] 98)).ownsRow w.heap.size 98 4 (.slice (some ⟨w.heap.size, 0, none⟩) 0 0) 0 [] := World.ownsRow_made w #[] 0 (Nat.le_refl _) (by unfold maxLen; omega) rfl
    have hnews := (h.alloc (.cells #[] 98)).cells (g := g) rfl
    have hlen := h.1
    clear h hcs htake hg hcm
    go_enter Tryd.func56, Tryd.ntmps56
    go_wp2_with (at_builtin; refine wpList_append_own _ rfl _ _ 63 rfl w.heap.size 98 i0 (.agg #[.int .i64 0, .bool false, .int .u32 0, .int .u32 0]) 4 24 Tryd.underlying63 hi hz0 hz1 hz2 rfl (by decide) (.slice (some ⟨w.heap.size, 0, none⟩) 0 0) 0 [] rfl hown ⟨g, 0, none⟩ n cap xs rfl hlen hnews h1 (by unfold maxLen; omega) (by omega) (by simp) ?_; intro v' w1 ho hg1 hm)
    go_ret
    rw [Nat.zero_add, List.nil_append] at ho
    have hb1 : Below w.heap.size w w1 := ⟨hg1.os, hg1.tape, hg1.output, by have := hg1.size; simp at this; omega, fun k hk => (hg1.block k (by simp; omega) (by simp [Value.ownBlock]; omega)).trans (Below.heap_alloc w _ k hk)⟩
    rcases ho.2 with ⟨e, rfl⟩ | ⟨g', cap', cur', rfl, _⟩
    · subst e
      exact ⟨none, 0, rfl, ho, hb1⟩
    · exact ⟨_, cap', rfl, ho, hb1⟩
section
variable {w : World} {base bb sb bp bw bh N : Nat} {m : Nat → Int} {wt ht : Int → Bool} {out : List Int} {lamp : Int} {tr : List Acc} {vo vt : Value}
theorem trace_any (B : BusIs w base bb sb bp bw bh N m wt ht out lamp tr vo vt) (hn : tr.length ≤ 1000) :
    Calls Tryd.prog 29 #[.pointer (some ⟨bb, 0, none⟩)] w fun e w' => ∃ ao cap, e = .returned (.slice ao tr.length cap) ∧ w'.ownsRow w.heap.size 98 4 (.slice ao tr.length cap) tr.length (tr.flatMap accC) ∧ Below w.heap.size w w' := by
  have hcl := clone55 B.rt hn (acc_one tr)
  have c3 := B.c3
  obtain ⟨ao', cap', hv⟩ : ∃ ao' cap', vt = .slice ao' tr.length cap' := by
    rcases B.rt.2 with ⟨e, h⟩ | ⟨g, cap, cur, e, _⟩
    · exact ⟨none, 0, by rw [e, h]⟩
    · exact ⟨_, cap, e⟩
  subst hv
  clear B
  go_enter Tryd.func29, Tryd.ntmps29
  go_wp2_with fail
  refine hcl.mono ?_
  rintro e w1 ⟨ao, cap, rfl, ho, hb⟩
  clear hcl
  go_wp2
  go_ret
  exact ⟨ao, cap, rfl, ho, hb⟩
theorem lamp_any (B : BusIs w base bb sb bp bw bh N m wt ht out lamp tr vo vt) : Calls Tryd.prog 60 #[.pointer (some ⟨bb, 0, none⟩)] w fun e w' => e = .returned (.int .u32 lamp) ∧ w' = w := by
  have c2 := B.c2
  clear B
  go_enter Tryd.func60, Tryd.ntmps60
  go_wp2
  go_ret
  exact ⟨rfl, rfl⟩
/-- the output as a text -/
def outS (out : List Int) : ByteArray := strOfNums out
theorem outC_get (out : List Int) (i : Nat) (h : i < out.length) : (outC out)[i]? = some (.int .u8 (out.getD i 0)) := by
  simp [outC, List.getElem?_map, List.getD, List.getElem?_eq_getElem h]
theorem output_any (B : BusIs w base bb sb bp bw bh N m wt ht out lamp tr vo vt) : Calls Tryd.prog 52 #[.pointer (some ⟨bb, 0, none⟩)] w fun e w' => e = .returned (.string (outS out)) ∧ w' = w := by
  have c1 := B.c1
  have hcv : (convert 99 9 vo).run Tryd.prog w = .ok (.string (outS out)) w := by
    rcases B.ro.2 with ⟨e, h⟩ | ⟨g, cap, cur, e, _⟩
    · have : out = [] := List.eq_nil_of_length_eq_zero h
      subst this
      rw [e, run_convert_bytes_nil w 99 5 Tryd.underlying99 Tryd.underlying5 0 0 9 Tryd.underlying9]
      rfl
    · rw [e]
      refine run_convert_bytes_arg w 99 5 Tryd.underlying99 Tryd.underlying5 g 0 out.length cap out rfl (fun i hi => ?_) 9 Tryd.underlying9
      have := B.ro.cells (g := g) (by rw [e]; rfl) i _ (outC_get out i hi)
      rw [add_lit] at this
      rw [Nat.zero_add]; exact this
  obtain ⟨ao', n', cap', hv⟩ : ∃ ao' n' cap', vo = .slice ao' n' cap' := by
    rcases B.ro.2 with ⟨e, h⟩ | ⟨g, cap, cur, e, _⟩
    · exact ⟨none, 0, 0, by rw [e]⟩
    · exact ⟨_, _, cap, e⟩
  subst hv
  clear B
  generalize outS out = os at *
  go_enter Tryd.func52, Tryd.ntmps52
  go_wp2
  go_ret
  exact ⟨rfl, rfl⟩
end
end Go.Proofs.YtmfhimphlackiaaDoor
