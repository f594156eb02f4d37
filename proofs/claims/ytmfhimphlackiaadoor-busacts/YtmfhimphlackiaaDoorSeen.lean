/-
  What is to be seen of a bus.
-/
import Derived.Test.YtmfhimphlackiaaDoorTold
namespace Go.Proofs.YtmfhimphlackiaaDoor
open Go.RowKit Go.Maps
open Num
set_option linter.unusedVariables false
/-- the cells of the document's bus that are read -/
theorem DBus.told {w : World} {base db rb gb kb : Nat} {m : Nat → Int} {out : List Int} {lamp : Int} {tr : List Acc} {vt : Value} (B : DBus w base db rb gb kb m out lamp tr vt) :
    w.cell? ⟨db, 0, none⟩ = some (.pointer (some ⟨rb, 0, none⟩)) ∧ w.cell? ⟨db, 1, none⟩ = some (.string (outS out)) ∧ w.cell? ⟨db, 2, none⟩ = some (.int .u32 lamp) ∧ w.cell? ⟨db, 3, none⟩ = some vt ∧ w.cell? ⟨rb, 0, none⟩ = some (.slice (some ⟨gb, 0, none⟩) 4096 4096) :=
  ⟨B.c0, B.c1, B.c2, B.c3, B.D.c0⟩
theorem DRam.wordsAt {w : World} {rb gb kb : Nat} {m : Nat → Int} {wt : Int → Bool} (D : DRam w rb gb kb m wt) : WordsAt w gb m := fun i hi => by rw [Nat.zero_add]; exact D.cell i hi
/-- what is to be seen of a bus -/
structure BusSeen (w : World) (bx by_ bb sb bp bw bh N : Nat) (m : Nat → Int) (wt ht : Int → Bool) (out : List Int) (lamp : Int) (tr : List Acc) (vo vt : Value) : Prop where
  c0 : w.cell? ⟨bb, 0, none⟩ = some (.pointer (some ⟨sb, 0, none⟩))
  c1 : w.cell? ⟨bb, 1, none⟩ = some vo
  c2 : w.cell? ⟨bb, 2, none⟩ = some (.int .u32 lamp)
  c3 : w.cell? ⟨bb, 3, none⟩ = some vt
  ro : w.ownsRow bx 5 1 vo out.length (outC out)
  rt : w.ownsRow by_ 98 4 vt tr.length (tr.flatMap accC)
  R : RamIs w sb bp bw bh N m wt ht
theorem BusIs.seen {w : World} {base bb sb bp bw bh N : Nat} {m : Nat → Int} {wt ht : Int → Bool} {out : List Int} {lamp : Int} {tr : List Acc} {vo vt : Value} (B : BusIs w base bb sb bp bw bh N m wt ht out lamp tr vo vt) : BusSeen w base base bb sb bp bw bh N m wt ht out lamp tr vo vt := ⟨B.c0, B.c1, B.c2, B.c3, B.ro, B.rt, B.R⟩
theorem BusSeen.stays {w w' : World} {bx by_ bb sb bp bw bh N : Nat} {m : Nat → Int} {wt ht : Int → Bool} {out : List Int} {lamp : Int} {tr : List Acc} {vo vt : Value} (B : BusSeen w bx by_ bb sb bp bw bh N m wt ht out lamp tr vo vt) (h : Below w.heap.size w w') : BusSeen w' bx by_ bb sb bp bw bh N m wt ht out lamp tr vo vt := by
  have hs := h.block bb (World.block_lt_of_cell? _ _ B.c0)
  have c : ∀ (j : Nat) (v : Value), w.cell? ⟨bb, j, none⟩ = some v → w'.cell? ⟨bb, j, none⟩ = some v := fun j v e => (World.cell?_of_block (a := ⟨bb, j, none⟩) hs).trans e
  exact ⟨c _ _ B.c0, c _ _ B.c1, c _ _ B.c2, c _ _ B.c3, owns_blocks B.ro (fun k e => h.block k (B.ro.lt k e).2), owns_blocks B.rt (fun k e => h.block k (B.rt.lt k e).2), B.R.stays h (Nat.le_refl _)⟩
section
variable {w : World} {bx by_ bb sb bp bw bh N : Nat} {m : Nat → Int} {wt ht : Int → Bool} {out : List Int} {lamp : Int} {tr : List Acc} {vo vt : Value} {base' db rb gb kb : Nat} {vt' : Value}
theorem seenTrace_any (B : BusSeen w bx by_ bb sb bp bw bh N m wt ht out lamp tr vo vt) (hn : tr.length ≤ 1000) :
    Calls Tryd.prog 29 #[.pointer (some ⟨bb, 0, none⟩)] w fun e w' => ∃ ao cap, e = .returned (.slice ao tr.length cap) ∧ w'.ownsRow w.heap.size 98 4 (.slice ao tr.length cap) tr.length (tr.flatMap accC) ∧ Below w.heap.size w w' := by
  have hcl := clone55 B.rt hn (acc_one tr)
  have c3 := B.c3
  obtain ⟨ao', cap', hv⟩ : ∃ ao' cap', vt = .slice ao' tr.length cap' := by
    rcases B.rt.2 with ⟨e, h⟩ | ⟨g, cap, cur, e, _⟩
    · exact ⟨none, 0, by rw [e, h]⟩
    · exact ⟨_, cap, e⟩
  subst hv
  clear B
  go_enter Tryd.func29, Tryd.ntmps29
  go_wp2_with fail
  refine hcl.mono ?_
  rintro e w1 ⟨ao, cap, rfl, ho, hb⟩
  clear hcl
  go_wp2
  go_ret
  exact ⟨ao, cap, rfl, ho, hb⟩
theorem seenLamp_any (B : BusSeen w bx by_ bb sb bp bw bh N m wt ht out lamp tr vo vt) : Calls Tryd.prog 60 #[.pointer (some ⟨bb, 0, none⟩)] w fun e w' => e = .returned (.int .u32 lamp) ∧ w' = w := by
  have c2 := B.c2
  clear B
  go_enter Tryd.func60, Tryd.ntmps60
  go_wp2
  go_ret
  exact ⟨rfl, rfl⟩
theorem seenOut_any (B : BusSeen w bx by_ bb sb bp bw bh N m wt ht out lamp tr vo vt) : Calls Tryd.prog 52 #[.pointer (some ⟨bb, 0, none⟩)] w fun e w' => e = .returned (.string (outS out)) ∧ w' = w := by
  have c1 := B.c1
  have hcv : (convert 99 9 vo).run Tryd.prog w = .ok (.string (outS out)) w := by
    rcases B.ro.2 with ⟨e, h⟩ | ⟨g, cap, cur, e, _⟩
    · have : out = [] := List.eq_nil_of_length_eq_zero h
      subst this
      rw [e, run_convert_bytes_nil w 99 5 Tryd.underlying99 Tryd.underlying5 0 0 9 Tryd.underlying9]
      rfl
    · rw [e]
      refine run_convert_bytes_arg w 99 5 Tryd.underlying99 Tryd.underlying5 g 0 out.length cap out rfl (fun i hi => ?_) 9 Tryd.underlying9
      have := B.ro.cells (g := g) (by rw [e]; rfl) i _ (outC_get out i hi)
      rw [add_lit] at this
      rw [Nat.zero_add]; exact this
  obtain ⟨ao', n', cap', hv⟩ : ∃ ao' n' cap', vo = .slice ao' n' cap' := by
    rcases B.ro.2 with ⟨e, h⟩ | ⟨g, cap, cur, e, _⟩
    · exact ⟨none, 0, 0, by rw [e]⟩
    · exact ⟨_, _, cap, e⟩
  subst hv
  clear B
  generalize outS out = os at *
  go_enter Tryd.func52, Tryd.ntmps52
  go_wp2
  go_ret
  exact ⟨rfl, rfl⟩
theorem seenRam_any (B : BusSeen w bx by_ bb sb bp bw bh N m wt ht out lamp tr vo vt) : Calls Tryd.prog 30 #[.pointer (some ⟨bb, 0, none⟩)] w fun e w' => e = .returned (.pointer (some ⟨sb, 0, none⟩)) ∧ w' = w := by
  have c0 := B.c0
  clear B
  go_enter Tryd.func30, Tryd.ntmps30
  go_wp2
  go_ret
  exact ⟨rfl, rfl⟩
end
end Go.Proofs.YtmfhimphlackiaaDoor
