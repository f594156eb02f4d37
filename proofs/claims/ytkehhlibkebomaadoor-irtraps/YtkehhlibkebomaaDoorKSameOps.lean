/-
  sameOps, of two slices that hold the same ops.
-/
import Derived.Test.YtkehhlibkebomaaDoorKOptPure2
import Derived.Test.YtkehhlibkebomaaDoorKApp
import Derived.Test.YtkehhlibkebomaaDoorKDoc5a
namespace Go.Proofs.YtkehhlibkebomaaDoor
open Go.RowKit Go.Maps
open Num
set_option linter.unusedVariables false
end Go.Proofs.YtkehhlibkebomaaDoor
/-
  each: rows of one op.
-/
namespace Go.Proofs.YtkehhlibkebomaaDoor
open Go.RowKit Go.Maps
open Num
set_option linter.unusedVariables false
/-- rows of ops -/
structure RowsIn (w : World) (v : Value) (ll : List (List Opx)) : Prop where
  sh : ∃ ao cap, v = .slice ao ll.length cap ∧ ll.length ≤ cap ∧ (0 < ll.length → ∃ b, ao = some ⟨b, 0, none⟩ ∧ ∀ i l, ll[i]? = some l → ∃ u, w.cell? ⟨b, i, none⟩ = some u ∧ OpsIn w u l)
theorem RowsIn.stays {w w' : World} {v : Value} {ll : List (List Opx)} (R : RowsIn w v ll) (h : Below w.heap.size w w') : RowsIn w' v ll := by
  obtain ⟨ao, cap, e, hcp, hh⟩ := R.sh
  exact ⟨ao, cap, e, hcp, fun hp => let ⟨b, eb, hc⟩ := hh hp; ⟨b, eb, fun i l hi => let ⟨u, hu, hO⟩ := hc i l hi; ⟨u, (h.cell (World.block_lt_of_cell? _ _ hu)).trans hu, hO.stays h⟩⟩⟩
/-- rows of one op: each in a block of its own, apart from the row vo that holds them -/
def Ones (w : World) (vo : Value) (us : List Value) (l : List Opx) : Prop := us.length = l.length ∧ ∀ (k : Nat) (u : Value) (o : Opx), us[k]? = some u → l[k]? = some o → ∃ g, u = .slice (some ⟨g, 0, none⟩) 1 1 ∧ OpsIn w u [o] ∧ vo.ownBlock ≠ some g ∧ g < w.heap.size
theorem OpsIn.block1 {w w' : World} {g : Nat} {o : Opx} (A : OpsIn w (.slice (some ⟨g, 0, none⟩) 1 1) [o]) (h : w'.heap[g]? = w.heap[g]?) : OpsIn w' (.slice (some ⟨g, 0, none⟩) 1 1) [o] := by
  obtain ⟨ao, cap, e, hc, hh⟩ := A.sh
  injection e with e1 e2 e3
  subst e1
  subst e3
  refine ⟨⟨some ⟨g, 0, none⟩, 1, rfl, hc, fun hp => ?_⟩, A.ok⟩
  obtain ⟨b, off, e, hcell⟩ := hh hp
  injection e with e
  injection e with e1 e2
  subst e1
  subst e2
  exact ⟨g, 0, rfl, fun i o hi j u hu => (World.cell?_of_block (a := ⟨g, 0 + i * 6 + j, none⟩) h).trans (hcell i o hi j u hu)⟩
/-- one row more: first its own block, then the row's place, then the row that holds them -/
theorem Ones.snoc {w W w' : World} {vo vo' : Value} {us : List Value} {l : List Opx} {o : Opx} (H : Ones w vo us l) (hv : ∀ k, vo.ownBlock = some k → k < w.heap.size) (hW : Below w.heap.size w W) (g : Nat) (hg : w.heap.size ≤ g) (hg2 : g < W.heap.size) (hO : OpsIn W (.slice (some ⟨g, 0, none⟩) 1 1) [o]) (hgr : W.grownBy w' vo.ownBlock) (hm : Moved W vo vo') :
    Ones w' vo' (us ++ [.slice (some ⟨g, 0, none⟩) 1 1]) (l ++ [o]) := by
  have hsz := hgr.size
  have blk : ∀ k, k < W.heap.size → vo.ownBlock ≠ some k → w'.heap[k]? = W.heap[k]? := fun k hk hne => hgr.block k hk (Ne.symm hne)
  have nv : ∀ k, k < W.heap.size → vo.ownBlock ≠ some k → vo'.ownBlock ≠ some k := fun k hk hne h => by
    rcases hm k h with h | h
    · exact hne h
    · omega
  have hgo : vo.ownBlock ≠ some g := fun h => by have := hv g h; omega
  refine ⟨by simp [H.1], fun k u o' hu ho => ?_⟩
  by_cases hk : k < us.length
  · rw [List.getElem?_append_left hk] at hu
    rw [List.getElem?_append_left (by rw [← H.1]; exact hk)] at ho
    obtain ⟨a, ea, hA, hn, hl⟩ := H.2 k u o' hu ho
    subst ea
    have hl2 : a < W.heap.size := by have := hW.size; omega
    exact ⟨a, rfl, (hA.stays hW).block1 (blk a hl2 hn), nv a hl2 hn, by omega⟩
  · rw [List.getElem?_append_right (by omega)] at hu
    rw [List.getElem?_append_right (by rw [← H.1]; omega), ← H.1] at ho
    have h0 : k - us.length = 0 := by
      rcases Nat.eq_zero_or_pos (k - us.length) with h | h
      · exact h
      · rw [List.getElem?_eq_none (by simp; omega)] at hu; cases hu
    rw [h0] at hu ho
    obtain rfl : Value.slice (some ⟨g, 0, none⟩) 1 1 = u := by simpa using hu
    obtain rfl : o = o' := by simpa using ho
    exact ⟨g, rfl, hO.block1 (blk g hg2 hgo), nv g hg2 hgo, by omega⟩
/-- the rows at the end -/
theorem Ones.rows {w : World} {base : Nat} {vo : Value} {us : List Value} {l : List Opx} (H : Ones w vo us l) (ho : w.ownsRow base 22 1 vo us.length us) : RowsIn w vo (eachL l) := by
  have hlen : (eachL l).length = us.length := by unfold eachL; rw [List.length_map, H.1]
  obtain ⟨h1, h2⟩ := ho
  rcases h2 with ⟨hv, hn⟩ | ⟨g, cap, cur, hv, hb, hg, hr⟩
  · exact ⟨none, 0, by rw [hv, hlen, hn], by omega, fun hp => by omega⟩
  · obtain ⟨r1, r2, r3, r4⟩ := hr
    refine ⟨some ⟨g, 0, none⟩, cap, by rw [hv, hlen], by omega, fun _ => ⟨g, rfl, fun i row hi => ?_⟩⟩
    have hil : i < us.length := by rw [← hlen]; exact (List.getElem?_eq_some_iff.1 hi).1
    obtain ⟨o, ho, rfl⟩ : ∃ o, l[i]? = some o ∧ [o] = row := by
      unfold eachL at hi
      rw [List.getElem?_map] at hi
      cases hx : l[i]? with
      | none => rw [hx] at hi; cases hi
      | some o => rw [hx] at hi; exact ⟨o, rfl, by simpa using hi⟩
    obtain ⟨u, hu⟩ : ∃ u, us[i]? = some u := ⟨_, List.getElem?_eq_getElem hil⟩
    obtain ⟨a, rfl, hA, _, _⟩ := H.2 i u o hu ho
    refine ⟨_, ?_, hA⟩
    rw [cell_of_row _ _ _ _ _ _ hg]
    have : (cur.toList.take (us.length * 1))[i]? = some (.slice (some ⟨a, 0, none⟩) 1 1) := by rw [r4]; exact hu
    rw [List.getElem?_take, if_pos (by omega)] at this
    rw [← Array.getElem?_toList]; exact this
end Go.Proofs.YtkehhlibkebomaaDoor
/-
  The document's CodeFault, walked.
-/
namespace Go.Proofs.YtkehhlibkebomaaDoor
open Go.RowKit Go.Maps
open Num
set_option linter.unusedVariables false
end Go.Proofs.YtkehhlibkebomaaDoor
