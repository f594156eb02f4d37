/-
  What the verifier's EncodeOf answers: what its texts share.
-/
import Derived.Test.YtccnliihdhnckaaGreatDoorMatches
import Derived.Test.YtccnliihdhnckaaGreatDoorBack
import Derived.Test.YtccnliihdhnckaaGreatDoorOper
namespace Go.Proofs.YtccnliihdhnckaaGreatDoor
open Go.RowKit Go.Extern.Stop Go.Stop Go.Extern
open Num Tab Fm
set_option linter.unusedVariables false
/-- what EncodeOf answers of an operation's fields -/
def encO (k : Nat) (s t d m : Int) : Value := if okB (sh k) s t d m then .tuple #[.int .u32 (enc k s t d m), .int .i64 0] else .tuple #[.int .u32 0, .int .i64 2]
theorem encO_ok {k : Nat} {s t d m : Int} (h : okB (sh k) s t d m = true) : encO k s t d m = .tuple #[.int .u32 (enc k s t d m), .int .i64 0] := by unfold encO; rw [if_pos h]
theorem encO_bad {k : Nat} {s t d m : Int} (h : okB (sh k) s t d m = false) : encO k s t d m = .tuple #[.int .u32 0, .int .i64 2] := by unfold encO; rw [if_neg (by rw [h]; decide)]
/-- what the middle of EncodeOf reads: the instruction, its row -/
structure QF (B C : Nat) (w W : World) (o s t d m : Int) (x : ByteArray) (M R : Int) (l y z : ByteArray) : Prop where
  c0 : W.cell? ⟨B, 0, none⟩ = some (.int .i64 o)
  c1 : W.cell? ⟨B, 1, none⟩ = some (.int .i64 s)
  c2 : W.cell? ⟨B, 2, none⟩ = some (.int .i64 t)
  c3 : W.cell? ⟨B, 3, none⟩ = some (.int .i64 d)
  c4 : W.cell? ⟨B, 4, none⟩ = some (.int .u32 m)
  e0 : W.cell? ⟨C, 0, none⟩ = some (.string x)
  e1 : W.cell? ⟨C, 1, none⟩ = some (.int .i64 M)
  e2 : W.cell? ⟨C, 2, none⟩ = some (.int .i64 R)
  e3 : W.cell? ⟨C, 3, none⟩ = some (.string l)
  e4 : W.cell? ⟨C, 4, none⟩ = some (.string y)
  e5 : W.cell? ⟨C, 5, none⟩ = some (.string z)
  bel : Below w.heap.size w W
theorem QF.drewN {B C : Nat} {w W : World} {o s t d m : Int} {x : ByteArray} {M R : Int} {l y z : ByteArray} (q : QF B C w W o s t d m x M R l y z) (n : Nat) : QF B C w (W.drewN n) o s t d m x M R l y z :=
  ⟨by simpa using q.c0, by simpa using q.c1, by simpa using q.c2, by simpa using q.c3, by simpa using q.c4, by simpa using q.e0, by simpa using q.e1, by simpa using q.e2, by simpa using q.e3, by simpa using q.e4, by simpa using q.e5, below_drewN q.bel n⟩
theorem ret_oo {a b c d : Int} (h : a = b) (g : c = d) : Ending.returned (.tuple #[.int .u32 a, .int .i64 c]) = .returned (.tuple #[.int .u32 b, .int .i64 d]) := by rw [h, g]
end Go.Proofs.YtccnliihdhnckaaGreatDoor
