/-
  Errors of ir.Eval.
-/
import Derived.Test.YtkehhlibkebomaaDoorKOptPure2
import Derived.Test.YtkehhlibkebomaaDoorKSameOps
import Derived.Test.YtkehhlibkebomaaDoorQGEval
import Derived.Test.YtkehhlibkebomaaDoorKGMem
namespace Go.Proofs.YtkehhlibkebomaaDoor
open Go.RowKit Go.Maps
open Num
set_option linter.unusedVariables false
section
variable {w : World}
theorem enE (w : World) (pc many : Int) (v : Value) : ∀ j, ((w.alloc (.cells #[.int .u32 pc, .int .i64 many, v] 35)).alloc (.cells #[.bool false, .int .i64 0] 40)).frozen? ⟨w.heap.size + 1, j, none⟩ = false := fun j => by
  rw [show w.heap.size + 1 = (w.alloc (.cells #[.int .u32 pc, .int .i64 many, v] 35)).heap.size by simp]; exact World.frozen?_alloc_at _ _ _ _ rfl
set_option maxRecDepth 100000 in
set_option maxHeartbeats 4000000 in
theorem ieval_bad (pe : Nat → Addr) (E : Eg pe w) {v : Value} {l : List Opx} (A : OpsIn w v l) (hl : (l.length : Int) ≤ 1000000) (pc many : Int) (m0 : -9223372036854775808 ≤ many) (m1 : many ≤ 9223372036854775807) (hpf : codeF many l ≠ (0, -1)) (stb sb : Nat) :
    Calls Tryd.prog 10 #[.agg #[.int .u32 pc, .int .i64 many, v], .pointer (some ⟨stb, 0, none⟩), .pointer (some ⟨sb, 0, none⟩)] w fun e w' => (∃ t a, e = .returned (.tuple #[.agg #[.bool false, .int .i64 0], .iface t (.pointer (some a))]) ∧ CErr pe w' (codeF many l) (.iface t (.pointer (some a)))) ∧ Below w.heap.size w w' := by
  have B0 : Below w.heap.size w ((w.alloc (.cells #[.int .u32 pc, .int .i64 many, v] 35)).alloc (.cells #[.bool false, .int .i64 0] 40)) := ((Below.refl _ _).alloc (Nat.le_refl _) _).alloc (by simp) _
  have k0 : ((w.alloc (.cells #[.int .u32 pc, .int .i64 many, v] 35)).alloc (.cells #[.bool false, .int .i64 0] 40)).cell? ⟨w.heap.size, 0, none⟩ = some (.int .u32 pc) := by simp
  have k1 : ((w.alloc (.cells #[.int .u32 pc, .int .i64 many, v] 35)).alloc (.cells #[.bool false, .int .i64 0] 40)).cell? ⟨w.heap.size, 1, none⟩ = some (.int .i64 many) := by simp
  have k2 : ((w.alloc (.cells #[.int .u32 pc, .int .i64 many, v] 35)).alloc (.cells #[.bool false, .int .i64 0] 40)).cell? ⟨w.heap.size, 2, none⟩ = some v := by simp
  have e0 : ((w.alloc (.cells #[.int .u32 pc, .int .i64 many, v] 35)).alloc (.cells #[.bool false, .int .i64 0] 40)).cell? ⟨w.heap.size + 1, 0, none⟩ = some (.bool false) := by simp
  have e1 : ((w.alloc (.cells #[.int .u32 pc, .int .i64 many, v] 35)).alloc (.cells #[.bool false, .int .i64 0] 40)).cell? ⟨w.heap.size + 1, 1, none⟩ = some (.int .i64 0) := by simp
  have ef := enE w pc many v
  have hsz0 : ((w.alloc (.cells #[.int .u32 pc, .int .i64 many, v] 35)).alloc (.cells #[.bool false, .int .i64 0] 40)).heap.size = w.heap.size + 2 := by simp
  have hck := check_any pe (E.stays B0) (A.stays B0) hl pc many m0 m1
  have HPF : Hid (codeF many l ≠ (0, -1)) := hpf
  have HB0 : Hid (Below w.heap.size w ((w.alloc (.cells #[.int .u32 pc, .int .i64 many, v] 35)).alloc (.cells #[.bool false, .int .i64 0] 40))) := B0
  obtain ⟨ra, rc, hv, _⟩ := A.sh
  subst hv
  generalize codeF many l = f at *
  clear E A B0 hpf
  go_enter Tryd.func10, Tryd.ntmps10
  go_upto_region 3 with fail
  generalize ((w.alloc (.cells #[.int .u32 pc, .int .i64 many, .slice ra l.length rc] 35)).alloc (.cells #[.bool false, .int .i64 0] 40)) = V at *
  go_wp2_with fail
  refine hck.mono ?_
  rintro e w1 ⟨⟨x, rfl, hC⟩, hb1⟩
  obtain ⟨t, a, rfl⟩ := cerr_some hC HPF.out
  have q0 := (hb1.cell (p := ⟨w.heap.size + 1, 0, none⟩) (show w.heap.size + 1 < V.heap.size by omega)).trans e0
  have q1 := (hb1.cell (p := ⟨w.heap.size + 1, 1, none⟩) (show w.heap.size + 1 < V.heap.size by omega)).trans e1
  have qf : ∀ j, w1.frozen? ⟨w.heap.size + 1, j, none⟩ = false := fun j => (hb1.frozen (p := ⟨w.heap.size + 1, j, none⟩) (show w.heap.size + 1 < V.heap.size by omega)).trans (ef j)
  have hBw : Hid (Below w.heap.size w w1) := HB0.out.trans (hb1.mono (by omega))
  have zz : w.heap.size + 1 < w1.heap.size := by have := hb1.size; omega
  have HCE : Hid (CErr pe ((w1.setCell ⟨w.heap.size + 1, 0, none⟩ (.bool false)).setCell ⟨w.heap.size + 1, 1, none⟩ (.int .i64 0)) f (.iface t (.pointer (some a)))) := by
    rcases hC with h | ⟨h1, h2, fb, h3, h4, h5⟩
    · exact .inl h
    · have hne : fb ≠ w.heap.size + 1 := by
        intro e
        subst e
        rw [q0] at h4
        cases h4
      have hbk : ((w1.setCell ⟨w.heap.size + 1, 0, none⟩ (.bool false)).setCell ⟨w.heap.size + 1, 1, none⟩ (.int .i64 0)).heap[fb]? = w1.heap[fb]? := (Below.heap_setCell _ ⟨w.heap.size + 1, 1, none⟩ _ fb hne).trans (Below.heap_setCell _ ⟨w.heap.size + 1, 0, none⟩ _ fb hne)
      exact .inr ⟨h1, h2, fb, h3, (World.cell?_of_block (a := ⟨fb, 0, none⟩) hbk).trans h4, (World.cell?_of_block (a := ⟨fb, 1, none⟩) hbk).trans h5⟩
  clear hck hb1 hC e0 e1 ef k0 k1 k2
  go_wp2
  obtain ⟨j0, j1⟩ := end_putG q0 q1 (.bool false) (.int .i64 0)
  refine bodyPost_ret (results_cell1G (A := ⟨w.heap.size + 1, 0, none⟩) rfl _ _ _ rfl (end_loadG j0 j1)) rfl ?_
  exact ⟨⟨t, a, rfl, HCE.out⟩, (hBw.out.setCell (p := ⟨w.heap.size + 1, 0, none⟩) (by show w.heap.size ≤ w.heap.size + 1; omega) _).setCell (p := ⟨w.heap.size + 1, 1, none⟩) (by show w.heap.size ≤ w.heap.size + 1; omega) _⟩
end
end Go.Proofs.YtkehhlibkebomaaDoor
/-
  What OptEnds's walk wants of the pure side.
-/
namespace Go.Proofs.YtkehhlibkebomaaDoor
open Go.RowKit Go.Maps
open Num
set_option linter.unusedVariables false
theorem OzAlike.same {a b : Oz} (h : OzAlike a b) : OzSame b a := by
  cases a <;> cases b <;> simp only [OzAlike, OzSame] at h ⊢
  obtain ⟨h1, h2, h3⟩ := h
  exact ⟨h1.symm, fun i _ => by rw [h2], fun r r1 r2 => (h3 r r1 r2).symm⟩
end Go.Proofs.YtkehhlibkebomaaDoor
/-
  ir.Eval as the document has it; EvalOf.
-/
namespace Go.Proofs.YtkehhlibkebomaaDoor
open Go.RowKit Go.Maps
open Num
set_option linter.unusedVariables false
end Go.Proofs.YtkehhlibkebomaaDoor
