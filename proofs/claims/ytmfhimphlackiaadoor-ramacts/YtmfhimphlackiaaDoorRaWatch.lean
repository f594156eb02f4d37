/-
  Watch: a page is watched, or no longer; one that is none is told.
-/
import Derived.Test.YtmfhimphlackiaaDoorStore
import Derived.Test.YtmfhimphlackiaaDoorKeptW
namespace Go.Proofs.YtmfhimphlackiaaDoor
open Go.RowKit Go.Maps
open Num
set_option linter.unusedVariables false
/-- the pages that are watched, one turned -/
def wtS (wt : Int → Bool) (n : Int) (on : Bool) : Int → Bool := fun x => if x = n then on else wt x
theorem SetAt.del {w' : World} {b N : Nat} {n : Int} {s : Int → Bool} {D : DataW Unit} (h2 : ∀ x : Int, Maps.has D (.int .i64 x) = s x) (h1 : w'.ownsMap Tryd.prog 3 unitElem b N (D.del (.int .i64 n))) : SetAt w' b N (wtS s n false) := by
  refine ⟨_, h1, fun x => ?_⟩
  unfold wtS
  by_cases e : x = n
  · subst e; rw [if_pos rfl]; exact has_del_same
  · rw [if_neg e, has_del_other (lit_ne e), h2]
set_option maxRecDepth 100000 in
set_option maxHeartbeats 2000000 in
theorem watch_no {w : World} (pb : Addr) (E : w.cell? ⟨0, 0, none⟩ = some (.iface 174 (.pointer (some pb)))) (v : Value) (n : Int) (on : Bool) (hn : n < 0 ∨ 64 ≤ n) :
    Calls Tryd.prog 20 #[v, .int .i64 n, .bool on] w fun e w' => e = .returned (.iface 174 (.pointer (some pb))) ∧ w' = w := by
  rcases hn with hn | hn
  · go_enter Tryd.func20, Tryd.ntmps20
    go_wp2
    go_ret
    exact ⟨rfl, rfl⟩
  · have h0 : ¬ n < 0 := by omega
    go_enter Tryd.func20, Tryd.ntmps20
    go_wp2
    go_ret
    exact ⟨rfl, rfl⟩
set_option maxRecDepth 100000 in
set_option maxHeartbeats 2000000 in
theorem watch_in {w : World} {sb bp bw bh N : Nat} {m : Nat → Int} {wt ht : Int → Bool} (R : RamIs w sb bp bw bh N m wt ht) (hsw : sb ≠ bw) (n : Int) (h0 : 0 ≤ n) (h1 : n < 64) (on : Bool) (hN : N < maxLen) :
    Calls Tryd.prog 20 #[.pointer (some ⟨sb, 0, none⟩), .int .i64 n, .bool on] w fun e w' => e = .returned .nilIface ∧ RamIs w' sb bp bw bh (N + 1) m (wtS wt n on) ht ∧ w.grownBy w' (some bw) := by
  have c1 := R.c1
  have RH : Hid (RamIs w sb bp bw bh N m wt ht) := R
  obtain ⟨D, hD1, hD2⟩ := R.ws
  have hk := key3 (n := n) (by omega) (by omega)
  have g0 : ¬ n < 0 := by omega
  have g1 : ¬ 64 ≤ n := by omega
  clear R
  cases on with
  | true =>
    go_enter Tryd.func20, Tryd.ntmps20
    go_wp2_with (first | (go_at_call 36; refine (ready_old RH.out).mono ?_; rintro e w' ⟨rfl, rfl⟩) | (at_mapUpdate; refine wpList_mapUpdate_own _ rfl _ _ _ 73 rfl 3 80 law3 Tryd.underlying73 unitElem bw N D rfl hD1 hN _ _ _ rfl rfl hk (.agg []) [] unitElem_mk ?_; intro w4 hown4 hg4))
    go_ret
    have r := RH.out
    have hs4 : SetAt w4 bw (N + 1) (wtS wt n true) := SetAt.put hD2 hD1.isMap hown4
    refine ⟨rfl, ?_, hg4⟩
    exact ⟨hg4.cell r.c0 (by simp [hsw]), hg4.cell r.c1 (by simp [hsw]), hg4.cell r.c2 (by simp [hsw]), r.pw, r.ph, r.wh, r.sp, r.sh, (r.ps.kept hg4 (by simp [r.pw])).mono (by omega), hs4, (r.hs.kept hg4 (by simp [Ne.symm r.wh])).mono (by omega), r.mb⟩
  | false =>
    go_enter Tryd.func20, Tryd.ntmps20
    go_wp2_with (first | (go_at_call 36; refine (ready_old RH.out).mono ?_; rintro e w' ⟨rfl, rfl⟩) | (at_delete; refine wpList_delete_own _ rfl _ _ 73 3 rfl 80 law3 Tryd.underlying73 _ bw N D rfl hD1 _ _ rfl hk ?_; intro w4 hown4 ht4; have hg4 := ht4.grown))
    go_ret
    have r := RH.out
    have hs4 : SetAt w4 bw N (wtS wt n false) := SetAt.del hD2 hown4
    refine ⟨rfl, ?_, hg4⟩
    exact ⟨hg4.cell r.c0 (by simp [hsw]), hg4.cell r.c1 (by simp [hsw]), hg4.cell r.c2 (by simp [hsw]), r.pw, r.ph, r.wh, r.sp, r.sh, (r.ps.kept hg4 (by simp [r.pw])).mono (by omega), hs4.mono (by omega), (r.hs.kept hg4 (by simp [Ne.symm r.wh])).mono (by omega), r.mb⟩
end Go.Proofs.YtmfhimphlackiaaDoor
