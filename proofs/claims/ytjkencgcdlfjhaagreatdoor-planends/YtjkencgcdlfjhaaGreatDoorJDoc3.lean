/-
  The document's isKnown and KnownOf.
-/
import Derived.Test.YtjkencgcdlfjhaaGreatDoorQIrChk2
import Derived.Test.YtjkencgcdlfjhaaGreatDoorJPhase
import Derived.Test.YtjkencgcdlfjhaaGreatDoorJPass
import Derived.Test.YtjkencgcdlfjhaaGreatDoorJDoc1
namespace Go.Proofs.YtjkencgcdlfjhaaGreatDoor
open Go.RowKit Go.Maps
open Num
set_option linter.unusedVariables false
theorem OpsIn.take {w : World} {b off cap : Nat} {l : List Opx} (C : ∀ (i : Nat) (o : Opx), l[i]? = some o → ∀ (j : Nat) (u : Value), (opC o)[j]? = some u → w.cell? ⟨b, off + i * 6 + j, none⟩ = some u) (ok : ∀ o ∈ l, o.ok) (j : Nat) (hj : j ≤ l.length) (hc : l.length ≤ cap) : OpsIn w (.slice (some ⟨b, off, none⟩) j cap) (l.take j) := by
  have hlen : (l.take j).length = j := by rw [List.length_take]; omega
  refine ⟨⟨some ⟨b, off, none⟩, cap, by rw [hlen], by omega, fun _ => ⟨b, off, rfl, fun i o hi k u hk => C i o ?_ k u hk⟩⟩, fun o ho => ok o (List.mem_of_mem_take ho)⟩
  rw [List.getElem?_take] at hi
  split at hi
  · exact hi
  · cases hi
end Go.Proofs.YtjkencgcdlfjhaaGreatDoor
/-
  The document's isDead and DeadOf.
-/
namespace Go.Proofs.YtjkencgcdlfjhaaGreatDoor
open Go.RowKit Go.Maps
open Num
set_option linter.unusedVariables false
theorem BoxO.drewN {W : World} {x : Nat} {o : Opx} (B : BoxO W x o) (n : Nat) : BoxO (W.drewN n) x o := ⟨B.c0, B.c1, B.c2, B.c3, B.c4, B.c5⟩
theorem BoxO.stays {W W' : World} {x : Nat} {o : Opx} (B : BoxO W x o) (h : Below W.heap.size W W') : BoxO W' x o := B.block (h.block _ B.lt)
/-- what a slice's whole numbers are -/
def IntsC (W : World) (ao : Option Addr) (l : List Int) : Prop := 0 < l.length → ∃ g, ao = some ⟨g, 0, none⟩ ∧ ∀ (i : Nat) (x : Int), l[i]? = some x → W.cell? ⟨g, i, none⟩ = some (.int .i64 x)
theorem IntsC.drewN {W : World} {ao : Option Addr} {l : List Int} (C : IntsC W ao l) (n : Nat) : IntsC (W.drewN n) ao l := fun h => let ⟨g, e, c⟩ := C h; ⟨g, e, fun i x hx => c i x hx⟩
theorem scanD_cons (d : Int) (f : Bool) (x : Opx) (l : List Opx) : scanD d f (x :: l) = if d ∈ rdX x then false else if wrX x = d then decide (33 < d) || !f else scanD d (f || decide (x.k = 25)) l := rfl
/-- the six cells of each op of a slice -/
def OpsCx (W : World) (b off : Nat) (l : List Opx) : Prop := ∀ (i : Nat) (o : Opx), l[i]? = some o → ∀ (j : Nat) (u : Value), (opC o)[j]? = some u → W.cell? ⟨b, off + i * 6 + j, none⟩ = some u
/-- two ops, one in its box -/
structure Two1 (W : World) (b a bx : Nat) (x : Opx) (d : Int) : Prop where
  x0 : W.cell? ⟨b, a, none⟩ = some (.string x.s)
  x1 : W.cell? ⟨b, a + 1, none⟩ = some (.int .i64 x.d)
  x2 : W.cell? ⟨b, a + 2, none⟩ = some (.int .i64 x.a)
  x3 : W.cell? ⟨b, a + 3, none⟩ = some (.int .i64 x.b)
  x4 : W.cell? ⟨b, a + 4, none⟩ = some (.int .u32 x.i)
  x5 : W.cell? ⟨b, a + 5, none⟩ = some (.int .i64 x.t)
  d1 : W.cell? ⟨bx, 1, none⟩ = some (.int .i64 d)
end Go.Proofs.YtjkencgcdlfjhaaGreatDoor
