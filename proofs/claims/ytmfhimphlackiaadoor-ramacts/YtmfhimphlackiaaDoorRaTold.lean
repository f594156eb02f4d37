/-
  What the statement asks of an error; of two lists of whole numbers; memory's loads and stores, whatever they come to.
-/
import Derived.Test.YtmfhimphlackiaaDoorRaHits
import Derived.Test.YtmfhimphlackiaaDoorRaWatch
import Derived.Test.YtmfhimphlackiaaDoorCode
import Derived.Test.YtmfhimphlackiaaDoorPartsWalk
import Derived.BigQuiet
namespace Go.Proofs.YtmfhimphlackiaaDoor
open Go.RowKit Go.Maps
open Num
set_option linter.unusedVariables false
theorem er_of {S : Nat → Addr} {w : World} (E : Errs S w) : Er (S 2) (S 8) (S 9) w := ⟨E.c2, E.c8, E.c9⟩
theorem erA_which (S : Nat → Addr) (a s : Int) (h : chk a s ≠ 0) : ∃ k, k < 10 ∧ erA (S 2) (S 8) (S 9) (chk a s) = S k ∧ rc a s = (k : Int) + 1 := by
  unfold rc chk at *
  by_cases h1 : s ≠ 1 ∧ s ≠ 2 ∧ s ≠ 4
  · exact ⟨2, by omega, by simp [h1, erA], by simp [h1]⟩
  · by_cases h2 : a % s ≠ 0
    · exact ⟨8, by omega, by simp [h1, h2, erA], by simp [h1, h2]⟩
    · by_cases h3 : 16384 ≤ a
      · exact ⟨9, by omega, by simp [h1, h2, h3, erA], by simp [h1, h2, h3]⟩
      · exact absurd (by simp [h1, h2, h3]) h
set_option maxRecDepth 100000 in
set_option maxHeartbeats 1000000 in
theorem coded_nil (w : World) : Calls Tryd.prog 18 #[.nilIface, .int .i64 0] w fun e w' => e = .returned (.bool true) ∧ w' = w := by
  have hc := code_nil w
  go_enter Tryd.func18, Tryd.ntmps18
  go_wp2_with fail
  refine hc.mono ?_
  rintro e w' ⟨rfl, rfl⟩
  clear hc
  go_wp2
  go_ret
  exact ⟨rfl, rfl⟩
set_option maxRecDepth 100000 in
set_option maxHeartbeats 1000000 in
theorem coded_at {S : Nat → Addr} {w : World} (E : Errs S w) (k : Nat) (hk : k < 10) : Calls Tryd.prog 18 #[.iface 174 (.pointer (some (S k))), .int .i64 ((k : Int) + 1)] w fun e w' => e = .returned (.bool true) ∧ Below w.heap.size w w' := by
  have hc := code_bare S (S k) k w E (Or.inl ⟨hk, rfl⟩) (E.row k hk)
  rw [show num k = (k : Int) + 1 by unfold num; rw [if_pos hk]] at hc
  clear E
  generalize S k = ad at *
  go_enter Tryd.func18, Tryd.ntmps18
  go_wp2_with fail
  refine hc.mono ?_
  rintro e w' ⟨rfl, hb⟩
  clear hc
  go_wp2
  go_ret
  exact ⟨rfl, hb⟩
/-- the error that an access tells -/
def erM (S : Nat → Addr) (a s : Int) : Value := if chk a s = 0 then .nilIface else .iface 174 (.pointer (some (erA (S 2) (S 8) (S 9) (chk a s))))
def rcM (a s : Int) : Int := if chk a s = 0 then 0 else rc a s
theorem coded_all {S : Nat → Addr} {w : World} (E : Errs S w) (a s : Int) : Calls Tryd.prog 18 #[erM S a s, .int .i64 (rcM a s)] w fun e w' => e = .returned (.bool true) ∧ Below w.heap.size w w' := by
  unfold erM rcM
  by_cases h : chk a s = 0
  · rw [if_pos h, if_pos h]
    exact (coded_nil w).mono fun e w' ⟨h1, h2⟩ => ⟨h1, by rw [h2]; exact Below.refl _ _⟩
  · rw [if_neg h, if_neg h]
    obtain ⟨k, hk, e1, e2⟩ := erA_which S a s h
    rw [e1, e2]
    exact coded_at E k hk
/-- a list of whole numbers in memory -/
def IntsV (w : World) (v : Value) (l : List Int) : Prop := ∃ (ao : Option Addr) (cap : Nat), v = .slice ao l.length cap ∧ (0 < l.length → ∃ g : Nat, ao = some ⟨g, 0, none⟩ ∧ ∀ (i : Nat) (x : Int), l[i]? = some x → w.cell? ⟨g, i, none⟩ = some (.int .i64 x))
theorem IntsV.of_own {w : World} {base : Nat} {v : Value} {l : List Int} (h : w.ownsRow base 3 1 v l.length (l.map Go.encZ)) : IntsV w v l := by
  rcases h.2 with ⟨e, h0⟩ | ⟨g, cap, cur, e, _⟩
  · exact ⟨none, 0, by rw [e, h0], fun hp => by omega⟩
  · refine ⟨_, cap, e, fun _ => ⟨g, rfl, fun i x hx => ?_⟩⟩
    subst e
    have := h.cells (g := g) rfl i (.int .i64 x) (by rw [List.getElem?_map, hx]; rfl)
    rwa [add_lit] at this
theorem IntsV.kept {w w' : World} {v : Value} {l : List Int} {X : Nat → Prop} (h : IntsV w v l) (k : Kept w w' X) (hx : ∀ b, v.ownBlock = some b → ¬ X b) : IntsV w' v l := by
  obtain ⟨ao, cap, rfl, hh⟩ := h
  refine ⟨ao, cap, rfl, fun hp => ?_⟩
  obtain ⟨g, rfl, hg⟩ := hh hp
  exact ⟨g, rfl, fun i x hi => k.cell (hg i x hi) (hx g rfl)⟩
set_option maxRecDepth 100000 in
set_option maxHeartbeats 2000000 in
/-- two slices of the same whole numbers -/
theorem sameInts_any {w : World} {u v : Value} {L : List Int} (hA : IntsV w u L) (hB : IntsV w v L) (hl : (L.length : Int) ≤ 1000000) :
    Calls Tryd.prog 21 #[u, v] w fun e w' => e = .returned (.bool true) ∧ Below w.heap.size w w' := by
  obtain ⟨ao, ca, rfl, HA'⟩ := hA
  obtain ⟨bo, cb, rfl, HB'⟩ := hB
  have HA : Hid (0 < L.length → ∃ g : Nat, ao = some ⟨g, 0, none⟩ ∧ ∀ (i : Nat) (x : Int), L[i]? = some x → w.cell? ⟨g, i, none⟩ = some (.int .i64 x)) := HA'
  have HB : Hid (0 < L.length → ∃ g : Nat, bo = some ⟨g, 0, none⟩ ∧ ∀ (i : Nat) (x : Int), L[i]? = some x → w.cell? ⟨g, i, none⟩ = some (.int .i64 x)) := HB'
  clear HA' HB'
  go_enter Tryd.func21, Tryd.ntmps21
  go_wp2
  go_loopw [5] (fun i wr => ∃ (j n : Nat), j ≤ L.length ∧ i = .int .i64 j ∧ wr = w.drewN n) (fun i _ => L.length - (intOf i).toNat)
  case atStart => exact ⟨0, 0, Nat.zero_le _, rfl, rfl⟩
  case round =>
    obtain ⟨j, n, hj, rfl, rfl⟩ := hrel
    by_cases hlt : j < L.length
    · obtain ⟨y, hy⟩ : ∃ y, L[j]? = some y := ⟨_, List.getElem?_eq_getElem hlt⟩
      obtain ⟨g, rfl, hg⟩ := HA.out (by omega)
      obtain ⟨h, rfl, hh⟩ := HB.out (by omega)
      have yg := hg j y hy
      have yh := hh j y hy
      have zg := World.block_lt_of_cell? _ _ yg
      have zh := World.block_lt_of_cell? _ _ yh
      have hlt' : (j : Int) < L.length := by omega
      clear hg hh hy HA HB
      go_wp2
      go_quiet (fail)
      go_wp2
      go_roundw
      case rel => exact ⟨j + 1, n + nq, by omega, by go_num, by first | rfl | (rw [World.drewN_drewN]; done) | (simp; done)⟩
      case measure => simp [intOf]; omega
    · obtain rfl : j = L.length := by omega
      go_wp2
      go_ret
      exact ⟨rfl, below_drewN (Below.refl _ _) n⟩
end Go.Proofs.YtmfhimphlackiaaDoor
