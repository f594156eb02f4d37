/-
  Watched.
-/
import Derived.Deep.RegionWith
import Derived.Deep.Cut
import Derived.Test.YtkehhlibkebomaaDoorKLoad
namespace Go.Proofs.YtkehhlibkebomaaDoor
open Go.RowKit Go.Maps
open Num
set_option linter.unusedVariables false
theorem below_drew {B : Nat} {w w' : World} (h : Below B w w') : Below B w w'.drew := ⟨h.os, h.tape, h.output, h.size, h.block⟩
set_option maxRecDepth 100000 in
set_option maxHeartbeats 4000000 in
theorem watched_any {w : World} {sb bp bw bh N : Nat} {m : Nat → Int} {wt ht : Int → Bool} (R : RamIs w sb bp bw bh N m wt ht) (a : Int) (h0 : 0 ≤ a) (h1 : a < 4294967296) :
    Calls Tryd.prog 44 #[.pointer (some ⟨sb, 0, none⟩), .int .u32 a] w fun e w' => e = .returned (.bool (wt (a / 256))) ∧ Below w.heap.size w w' := by
  have c1 := R.c1
  have hz : sb < w.heap.size := World.block_lt_of_cell? _ _ c1
  have hlook : (Instr.lookup 71 (.map (some bw)) (.int .i64 (a / 256)) true).run Tryd.prog w.drew = .ok (.tuple #[.agg #[], .bool (wt (a / 256))]) w.drew := by
    have hp : SetAt w.drew bw N wt := R.ws
    exact hp.look (a / 256) (by omega) (by omega)
  have hlook2 : (Instr.lookup 71 (.map (some bw)) (.int .i64 (a / 256)) true).run Tryd.prog (w.alloc (.cells #[] 78)).drew = .ok (.tuple #[.agg #[], .bool (wt (a / 256))]) (w.alloc (.cells #[] 78)).drew := by
    have hp : SetAt (w.alloc (.cells #[] 78)) bw N wt := R.ws.kept (World.grownBy_alloc w _ none) (by simp)
    have hp : SetAt (w.alloc (.cells #[] 78)).drew bw N wt := hp
    exact hp.look (a / 256) (by omega) (by omega)
  clear R
  go_enter Tryd.func44, Tryd.ntmps44
  go_wp2_with fail
  go_region_with ((go_at_call 52; refine (pageOf_any _ h0 h1 _).mono ?_; rintro e w' ⟨rfl, rfl⟩))
  all_goals
    go_wp2
    go_ret
    exact ⟨rfl, below_drew ((Below.refl _ _).alloc (Nat.le_refl _) _)⟩
end Go.Proofs.YtkehhlibkebomaaDoor
