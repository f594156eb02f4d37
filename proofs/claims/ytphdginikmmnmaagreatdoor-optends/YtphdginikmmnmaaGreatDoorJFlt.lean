/-
  faulted.
-/
import Derived.Deep.Slices
import Derived.Test.YtphdginikmmnmaaGreatDoorCode
import Derived.Test.YtphdginikmmnmaaGreatDoorLaid
import Derived.Test.YtphdginikmmnmaaGreatDoorQIrChk
import Derived.Test.YtphdginikmmnmaaGreatDoorQIrChk3
namespace Go.Proofs.YtphdginikmmnmaaGreatDoor
open Go.RowKit Go.Maps
open Num
set_option linter.unusedVariables false
/-- the errors as the program's variables have them, by their numbers -/
def peS (S : Nat → Addr) (n : Nat) : Addr := S (n - 1)
theorem num_is (n : Nat) (h1 : 1 ≤ n) (h2 : n ≤ 10) : num (n - 1) = (n : Int) := by unfold num; rw [if_pos (by omega)]; omega
set_option maxRecDepth 100000 in
set_option maxHeartbeats 1000000 in
theorem faulted_any (S : Nat → Addr) {w : World} (EE : Errs S w) (f : Int × Int) (x : Value) (C : CErr (peS S) w f x) (hv : f = (0, -1) ∨ (1 ≤ f.1 ∧ f.1 ≤ 10)) :
    Calls Tryz.prog 12 #[x, .agg #[.int .i64 f.1, .int .i64 f.2]] w fun e w' => e = .returned (.bool true) ∧ Below w.heap.size w w' := by
  obtain ⟨a, b⟩ := f
  have B0 : Below w.heap.size w (w.alloc (.cells #[.int .i64 a, .int .i64 b] 41)) := (Below.refl _ _).alloc (Nat.le_refl _) _
  have c0 : (w.alloc (.cells #[.int .i64 a, .int .i64 b] 41)).cell? ⟨w.heap.size, 0, none⟩ = some (.int .i64 a) := by simp
  have c1 : (w.alloc (.cells #[.int .i64 a, .int .i64 b] 41)).cell? ⟨w.heap.size, 1, none⟩ = some (.int .i64 b) := by simp
  have E1 := EE.stays B0
  have hcode : ∃ y : Int, Calls Tryz.prog 34 #[x] (w.alloc (.cells #[.int .i64 a, .int .i64 b] 41)) (fun e w' => e = .returned (.tuple #[.int .i64 a, .int .i64 y]) ∧ Below (w.alloc (.cells #[.int .i64 a, .int .i64 b] 41)).heap.size (w.alloc (.cells #[.int .i64 a, .int .i64 b] 41)) w') ∧ (a = 0 ∨ y = b) := by
    rcases C with ⟨h1, h2⟩ | ⟨h1, h2, fb, h3, h4, h5⟩
    · have h1 : b = -1 := h1
      have h2 : x = erV (peS S) a := h2
      by_cases ha : a = 0
      · subst ha
        rw [show erV (peS S) 0 = .nilIface from rfl] at h2
        subst h2
        refine ⟨-1, (code_nil _).mono ?_, .inl rfl⟩
        rintro e w' ⟨rfl, hw⟩
        rw [hw]
        exact ⟨rfl, Below.refl _ _⟩
      · have hpos : 1 ≤ a := hv.elim (fun h => absurd (congrArg Prod.fst h) ha) (fun h => h.1)
        obtain ⟨n, rfl⟩ : ∃ n : Nat, a = n := ⟨a.toNat, by omega⟩
        have hn : 1 ≤ n ∧ n ≤ 10 := by
          rcases hv with hv | hv
          · injection hv with hv; exact absurd hv ha
          · have h5 : (1 : Int) ≤ (n : Int) := hv.1
            have h6 : (n : Int) ≤ 10 := hv.2
            omega
        rw [erV_some ha] at h2
        have hcb := code_bare S (S (n - 1)) (n - 1) _ E1 (.inl ⟨by omega, rfl⟩) (E1.row (n - 1) (by omega))
        rw [num_is n hn.1 hn.2] at hcb
        subst h2
        exact ⟨-1, hcb, .inr h1.symm⟩
    · have h2 : a ≠ 0 := h2
      have hpos : 1 ≤ a := hv.elim (fun h => absurd (congrArg Prod.fst h) h2) (fun h => h.1)
      obtain ⟨n, rfl⟩ : ∃ n : Nat, a = n := ⟨a.toNat, by omega⟩
      have hn : 1 ≤ n ∧ n ≤ 10 := by
        rcases hv with hv | hv
        · injection hv with hv; exact absurd hv h2
        · have h5 : (1 : Int) ≤ (n : Int) := hv.1
          have h6 : (n : Int) ≤ 10 := hv.2
          omega
      have h5' : w.cell? ⟨fb, 0 + 1, none⟩ = some (.iface 193 (.pointer (some (S (n - 1))))) := by rw [h5]; show some (erV (peS S) (n : Int)) = _; rw [erV_some h2]; rfl
      have hcf := code_fault S (S (n - 1)) (n - 1) fb 0 b _ E1 (.inl ⟨by omega, rfl⟩) (E1.row (n - 1) (by omega)) ((B0.cell (p := ⟨fb, 0, none⟩) (World.block_lt_of_cell? _ _ h4)).trans h4) ((B0.cell (p := ⟨fb, 0 + 1, none⟩) (World.block_lt_of_cell? _ _ h5')).trans h5')
      rw [num_is n hn.1 hn.2] at hcf
      subst h3
      exact ⟨b, hcf, .inr rfl⟩
  obtain ⟨y, hco, hay⟩ := hcode
  have hx : ∃ X, x = X := ⟨_, rfl⟩
  clear C E1 EE hv
  go_enter Tryz.func12, Tryz.ntmps12
  go_upto_region 1 with fail
  generalize w.alloc (.cells #[.int .i64 a, .int .i64 b] 41) = V at *
  have HB : Hid (Below w.heap.size w V) := B0
  have z0 := World.block_lt_of_cell? _ _ c0
  clear B0
  go_wp2_with fail
  refine hco.mono ?_
  rintro e w2 ⟨rfl, hb2⟩
  have HB2 : Hid (Below w.heap.size w w2) := HB.out.trans (hb2.mono HB.out.size)
  have d0 := (hb2.cell (p := ⟨w.heap.size, 0, none⟩) z0).trans c0
  have d1 := (hb2.cell (p := ⟨w.heap.size, 1, none⟩) z0).trans c1
  have z2 := World.block_lt_of_cell? _ _ d0
  clear hco hb2 HB c0 c1 z0
  by_cases ha : a = 0
  · subst ha
    go_wp2
    go_ret
    exact ⟨rfl, HB2.out⟩
  · have hy : y = b := hay.resolve_left ha
    subst hy
    have hab : (a == 0) = false := by simpa using ha
    clear hay ha
    go_wp2
    go_ret
    exact ⟨by first | rfl | simp, HB2.out⟩
end Go.Proofs.YtphdginikmmnmaaGreatDoor
/-
  From what the program's own text lays (the ten errors of package api, the handle of 'error') to what the walk asks.
-/
namespace Go.Proofs.YtphdginikmmnmaaGreatDoor
open Go.ChangeShapes Go.WideShapes Go.ChangeAt Go.RowKit
set_option linter.unusedVariables false
theorem Tryz.laidOut : laidOutB Tryz.prog = true := by kernel_rfl
theorem Tryz.c23 : Tryz.prog.cellsOf 22 = 1 := by kernel_rfl
theorem eg_of_ten {W : World} (h : laidMet Tryz.prog (ten.map fun x => (x.1, sentinel "*errors.errorString" x.2)) W)
    (hh : handlesMet Tryz.prog [("errors.errorType", .iface "internal/reflectlite.rtype" (.agg [.ptr (.lit (.string [101, 114, 114, 111, 114]))]))] W) : ∃ S, Errs S W ∧ Eg (peS S) W := by
  obtain ⟨S, E⟩ := errs_of_laid h hh
  exact ⟨S, E, ⟨E.c1, E.c2, E.c3, E.c7⟩⟩
theorem bd_i64 {n : Int} (h : (Lit.int .i64 n).wf = true) : -9223372036854775808 ≤ n ∧ n ≤ 9223372036854775807 := by
  simp [Lit.wf, IntKind.min, IntKind.max, IntKind.signed, IntKind.bits] at h; omega
theorem bd_u32 {n : Int} (h : (Lit.int .u32 n).wf = true) : 0 ≤ n ∧ n < 4294967296 := by
  simp [Lit.wf, IntKind.min, IntKind.max, IntKind.signed, IntKind.bits] at h; omega
end Go.Proofs.YtphdginikmmnmaaGreatDoor
/-
  A slice of ops that came in.
-/
namespace Go.Proofs.YtphdginikmmnmaaGreatDoor
open Go.ChangeShapes Go.WideShapes Go.ChangeAt Go.RowKit
set_option linter.unusedVariables false
theorem cOp6 : Tryz.prog.cellsOf 60 = 6 := by kernel_rfl
theorem cI3 : Tryz.prog.cellsOf 3 = 1 := by kernel_rfl
theorem cS9 : Tryz.prog.cellsOf 9 = 1 := by kernel_rfl
theorem cU23 : Tryz.prog.cellsOf 22 = 1 := by kernel_rfl
set_option maxRecDepth 100000 in
theorem ops_of {H : Type} {enc : TypeId × Value → H} {W : World} {base : Nat} {v : Value} {d : DataW H} {p : List MemPlace} (hv : Value.okWide Tryz.prog W .any base 23 v) (h : DataW.Trod enc Tryz.prog W 0 (fun _ => true) true 23 v d p) :
    ∃ l : List Opx, OpsIn W v l ∧ (l.length : Int) ≤ 9223372036854775807 ∧ ∀ o ∈ l, (o.s.size : Int) ≤ 9223372036854775807 := by
  obtain ⟨a0, len, cap, rfl⟩ := okWide_slice Tryz.underlying23 hv
  obtain ⟨fuel, hf⟩ := h
  rcases Go.Deep.open_slice Tryz.underlying23 hf with ⟨hcs, hx⟩ | ⟨a, len', cap', m, n, D, Pl, hcs, _, hl, hm, hmm, _, hx⟩
  · simp [Value.cells] at hcs
    obtain ⟨rfl, rfl, rfl⟩ := hcs
    exact ⟨[], ⟨⟨none, 0, rfl, Nat.le_refl _, fun h => absurd h (by simp)⟩, fun o ho => by cases ho⟩, by simp, fun o ho => by cases ho⟩
  · simp [Value.cells] at hcs
    obtain ⟨rfl, rfl, rfl⟩ := hcs
    simp only [if_true] at hmm
    subst hmm
    have each : ∀ i, ∃ x : Opx, i < len → (x.ok ∧ (x.s.size : Int) ≤ 9223372036854775807) ∧ ∀ (j : Nat) (u : Value), (opC x)[j]? = some u → W.cell? ((a.add (i * 6)).add j) = some u := by
      intro i
      by_cases hi : i < len
      · obtain ⟨cs', h1, h2⟩ := hx i (by omega)
        rw [cOp6] at h1
        obtain ⟨_, hlen, hcell⟩ := World.cells?_some h1
        obtain ⟨xs, k, hk, hxy, _, hxl, hg⟩ := DataW.trod_struct Tryz.underlying60 h2
        match xs, hxl, cs', hlen with
        | [y0, y1, y2, y3, y4, y5], _, [c0, c1, c2, c3, c4, c5], _ =>
          have g0 := hg 0 _ rfl
          have g1 := hg 1 _ rfl
          have g2 := hg 2 _ rfl
          have g3 := hg 3 _ rfl
          have g4 := hg 4 _ rfl
          have g5 := hg 5 _ rfl
          simp [cI3, cS9, cU23] at g0 g1 g2 g3 g4 g5
          obtain ⟨s0, e0, rfl, w0⟩ := DataW.trod_string Tryz.underlying9 g0
          obtain ⟨a1, e1, rfl, w1⟩ := DataW.trod_int Tryz.underlying3 g1
          obtain ⟨a2, e2, rfl, w2⟩ := DataW.trod_int Tryz.underlying3 g2
          obtain ⟨a3, e3, rfl, w3⟩ := DataW.trod_int Tryz.underlying3 g3
          obtain ⟨a4, e4, rfl, w4⟩ := DataW.trod_int Tryz.underlying22 g4
          obtain ⟨a5, e5, rfl, w5⟩ := DataW.trod_int Tryz.underlying3 g5
          simp at e0 e1 e2 e3 e4 e5
          subst e0 e1 e2 e3 e4 e5
          refine ⟨⟨s0, a1, a2, a3, a4, a5⟩, fun _ => ⟨⟨⟨(bd_i64 w1).1, (bd_i64 w1).2, (bd_i64 w2).1, (bd_i64 w2).2, (bd_i64 w3).1, (bd_i64 w3).2, (bd_u32 w4).1, (bd_u32 w4).2, (bd_i64 w5).1, (bd_i64 w5).2⟩, by unfold maxLen at w0; show (s0.size : Int) ≤ _; omega⟩, fun j u hj => ?_⟩⟩
          have hj6 : j < 6 := by
            rcases Nat.lt_or_ge j 6 with h | h
            · exact h
            · rw [List.getElem?_eq_none (by simpa [opC] using h)] at hj; cases hj
          rw [hcell j hj6]
          exact hj
      · exact ⟨⟨ByteArray.empty, 0, 0, 0, 0, 0⟩, fun h => absurd h hi⟩
    have hch := Classical.axiomOfChoice each
    obtain ⟨x, hxx⟩ := hch
    have hll : ((List.range len).map x).length = len := by simp
    have hget : ∀ (i : Nat) (o : Opx), ((List.range len).map x)[i]? = some o → i < len ∧ o = x i := by
      intro i o ho
      have hi : i < len := by have := (List.getElem?_eq_some_iff.1 ho).1; simpa using this
      rw [List.getElem?_map, List.getElem?_range hi] at ho
      exact ⟨hi, (Option.some.inj ho).symm⟩
    refine ⟨(List.range len).map x, ⟨⟨some a, _, by rw [hll], by rw [hll]; exact hl, fun hp => ?_⟩, fun o ho => ?_⟩, by rw [hll]; unfold maxLen at hm; omega, fun o ho => ?_⟩
    · obtain ⟨b, off, spot⟩ := a
      have hp' : 0 < len := by omega
      have hspot : spot = none := by
        have := (hxx 0 hp').2 0 _ rfl
        simpa [Addr.add] using World.cell?_spot this
      subst hspot
      refine ⟨b, off, rfl, fun i o ho j u hj => ?_⟩
      obtain ⟨hi, rfl⟩ := hget i o ho
      have := (hxx i hi).2 j u hj
      rwa [add_plain, add_plain] at this
    · obtain ⟨i, hi, rfl⟩ := List.mem_map.1 ho
      exact (hxx i (List.mem_range.1 hi)).1.1
    · obtain ⟨i, hi, rfl⟩ := List.mem_map.1 ho
      exact (hxx i (List.mem_range.1 hi)).1.2
end Go.Proofs.YtphdginikmmnmaaGreatDoor
