/-
  The nine errors of package api that package asm names, where they lie.
-/
import Derived.Test.YtccnliihdhnckaaGreatDoorCode
namespace Go.Proofs.YtccnliihdhnckaaGreatDoor
open Go.RowKit
set_option linter.unusedVariables false
structure Er9 (S : Nat → Addr) (w : World) : Prop where
  c0 : w.cell? ⟨2, 0, none⟩ = some (.iface 210 (.pointer (some (S 0))))
  c1 : w.cell? ⟨3, 0, none⟩ = some (.iface 210 (.pointer (some (S 1))))
  c3 : w.cell? ⟨6, 0, none⟩ = some (.iface 210 (.pointer (some (S 3))))
  c4 : w.cell? ⟨1, 0, none⟩ = some (.iface 210 (.pointer (some (S 4))))
  c5 : w.cell? ⟨9, 0, none⟩ = some (.iface 210 (.pointer (some (S 5))))
  c6 : w.cell? ⟨10, 0, none⟩ = some (.iface 210 (.pointer (some (S 6))))
  c7 : w.cell? ⟨4, 0, none⟩ = some (.iface 210 (.pointer (some (S 7))))
  c8 : w.cell? ⟨5, 0, none⟩ = some (.iface 210 (.pointer (some (S 8))))
  c9 : w.cell? ⟨11, 0, none⟩ = some (.iface 210 (.pointer (some (S 9))))
theorem Er9.stays {S : Nat → Addr} {w w' : World} (E : Er9 S w) (h : Below w.heap.size w w') : Er9 S w' :=
  ⟨cell_stays h (Nat.le_refl _) E.c0, cell_stays h (Nat.le_refl _) E.c1, cell_stays h (Nat.le_refl _) E.c3, cell_stays h (Nat.le_refl _) E.c4, cell_stays h (Nat.le_refl _) E.c5, cell_stays h (Nat.le_refl _) E.c6, cell_stays h (Nat.le_refl _) E.c7, cell_stays h (Nat.le_refl _) E.c8, cell_stays h (Nat.le_refl _) E.c9⟩
theorem Errs.nine {S : Nat → Addr} {w : World} (E : Errs S w) : Er9 S w := ⟨E.c0, E.c1, E.c3, E.c4, E.c5, E.c6, E.c7, E.c8, E.c9⟩
end Go.Proofs.YtccnliihdhnckaaGreatDoor
