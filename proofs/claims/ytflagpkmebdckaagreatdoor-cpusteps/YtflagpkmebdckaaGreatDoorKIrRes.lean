/-
  Package ir's gate, within a Guest: load, admits, hold.
-/
import Derived.Maps.OwnSet
import Derived.WalkSpells
import Derived.Test.YtflagpkmebdckaaGreatDoorKNum
import Derived.Test.YtflagpkmebdckaaGreatDoorJDocW
import Derived.Test.YtflagpkmebdckaaGreatDoorKIrChk
import Derived.Test.YtflagpkmebdckaaGreatDoorKSerial
import Derived.Test.YtflagpkmebdckaaGreatDoorKOptFns
import Derived.Test.YtflagpkmebdckaaGreatDoorKSt0
namespace Go.Proofs.YtflagpkmebdckaaGreatDoor
open Go.RowKit Go.Maps
open Num
set_option linter.unusedVariables false
theorem wpPlanZ_skipG {P : Program} {ops : Array Oper} {Q : Exit → Act → World → Prop} {C : World → Prop} {z : Nat} {on : Bool} {i k : Nat} {rest : List (Nat × Nat)} {a : Act} {w : World} {o : Oper} (ho : ops[i]? = some o) (hwt : Region.wanted o (yielded ops a.tmps) = false) (h : ∀ K : Act → Prop, (∀ a', wpPlanZ P ops C z Q (on && i != z) rest a' w → K a') → K (a.put o.dst undef)) : wpPlanZ P ops C z Q on ((i, k) :: rest) a w :=
  ⟨o, ho, by unfold oneZ; rw [if_neg (by simp [hwt])]; exact h _ (fun _ h => h)⟩
section
variable {w w' : World} {base mb stb sb : Nat} {X : Nat → Int} {p : List Pq} {vi : Value}
end
section
variable {w : World} {base mb stb sb bp bw bh N : Nat} {X : Nat → Int} {p : List Pq} {vi : Value} {m : Nat → Int} {wt ht : Int → Bool}
end
end Go.Proofs.YtflagpkmebdckaaGreatDoor
/-
  Package ir: what a kind makes of two registers.
-/
namespace Go.Proofs.YtflagpkmebdckaaGreatDoor
open Go.RowKit
open Num
set_option linter.unusedVariables false
end Go.Proofs.YtflagpkmebdckaaGreatDoor
/-
  A Guest's registers, an op in its box, an effect in its box.
-/
namespace Go.Proofs.YtflagpkmebdckaaGreatDoor
open Go.RowKit Go.Maps
open Num
set_option linter.unusedVariables false
section
variable {w : World} {base mb stb sb bp bw bh N : Nat} {X : Nat → Int} {p : List Pq} {vi : Value} {m : Nat → Int} {wt ht : Int → Bool}
end
end Go.Proofs.YtflagpkmebdckaaGreatDoor
/-
  Package ir's gate: open: memory takes what waits.
-/
namespace Go.Proofs.YtflagpkmebdckaaGreatDoor
open Go.RowKit Go.Maps
open Num
set_option linter.unusedVariables false
section
variable {w : World} {base mb stb sb bp bw bh N : Nat} {X : Nat → Int} {p : List Pq} {vi : Value} {m : Nat → Int} {wt ht : Int → Bool}
theorem Turned.refl (w : World) (b c : Nat) : Turned w w b c := ⟨rfl, rfl, rfl, Nat.le_refl _, fun _ _ _ _ => rfl⟩
theorem Turned.trans {w w1 w2 : World} {b c : Nat} (h : Turned w w1 b c) (g : Turned w1 w2 b c) : Turned w w2 b c :=
  ⟨g.os.trans h.os, g.tape.trans h.tape, g.output.trans h.output, Nat.le_trans h.size g.size, fun k hk n1 n2 => (g.block k (Nat.lt_of_lt_of_le hk h.size) n1 n2).trans (h.block k hk n1 n2)⟩
theorem RamIs.drew (R : RamIs w sb bp bw bh N m wt ht) : RamIs w.drew sb bp bw bh N m wt ht := ⟨R.c0, R.c1, R.c2, R.pw, R.ph, R.wh, R.sp, R.sh, R.ps, R.ws, R.hs, R.mb⟩
end
end Go.Proofs.YtflagpkmebdckaaGreatDoor
/-
  Package opt: what is known of registers, in a map.
-/
namespace Go.Proofs.YtflagpkmebdckaaGreatDoor
open Go.RowKit Go.Maps
open Num
set_option linter.unusedVariables false
end Go.Proofs.YtflagpkmebdckaaGreatDoor
