/-
  The document's CodeFault.
-/
import Derived.Test.YtcccaejjhodnkabGreatDoorKSerial
import Derived.Test.YtcccaejjhodnkabGreatDoorKIrChk3
import Derived.Test.YtcccaejjhodnkabGreatDoorQDoc5a
import Derived.Test.YtcccaejjhodnkabGreatDoorQDoc5b
import Derived.Test.YtcccaejjhodnkabGreatDoorQDoc5c
import Derived.Test.YtcccaejjhodnkabGreatDoorQDoc5d
namespace Go.Proofs.YtcccaejjhodnkabGreatDoor
open Go.RowKit Go.Maps
open Num
set_option linter.unusedVariables false
set_option maxHeartbeats 1000000 in
theorem opError_none (o : Opx) (many : Int) (w : World) (hk : kn o.s = 0) : Calls Tryz.prog 40 #[opV o, .int .i64 many] w fun e w' => e = .returned (.int .i64 (opE o many)) ∧ Below w.heap.size w w' := by
  have hf := fun w => fieldsOf_any o.s w
  have HE : Hid (opE o many = 4) := by show _ = _; unfold opE Opx.k; rw [if_pos hk]
  have e0 : (⟨(fldL (kn o.s)).toArray⟩ : ByteArray) = ⟨#[]⟩ := by rw [hk]; rfl
  rw [e0] at hf
  have OB : Hid (Below w.heap.size w (w.alloc (.cells #[.string o.s, .int .i64 o.d, .int .i64 o.a, .int .i64 o.b, .int .u32 o.i, .int .i64 o.t] 64))) := (Below.refl _ _).alloc (Nat.le_refl _) _
  clear hk e0
  unfold opV
  go_enter Tryz.func40, Tryz.ntmps40
  go_wp2_with fail
  refine (hf _).mono ?_
  rintro e w1 ⟨rfl, hw⟩
  rw [hw]
  clear hw w1
  go_wp2
  go_ret
  exact ⟨by rw [HE.out]; rfl, OB.out⟩
theorem opError_any (o : Opx) (ok : o.ok) (many : Int) (w : World) : Calls Tryz.prog 40 #[opV o, .int .i64 many] w fun e w' => e = .returned (.int .i64 (opE o many)) ∧ Below w.heap.size w w' := by
  have hl := kn_lt o.s
  have hk : kn o.s = 0 ∨ (1 ≤ kn o.s ∧ kn o.s ≤ 1) ∨ (2 ≤ kn o.s ∧ kn o.s ≤ 2) ∨ (3 ≤ kn o.s ∧ kn o.s ≤ 20) ∨ (21 ≤ kn o.s ∧ kn o.s ≤ 21) ∨ (22 ≤ kn o.s ∧ kn o.s ≤ 22) ∨ (23 ≤ kn o.s ∧ kn o.s ≤ 23) ∨ (24 ≤ kn o.s ∧ kn o.s ≤ 24) ∨ (25 ≤ kn o.s ∧ kn o.s ≤ 25) ∨ (26 ≤ kn o.s ∧ kn o.s ≤ 26) ∨ (27 ≤ kn o.s ∧ kn o.s ≤ 27) := by omega
  rcases hk with h | h | h | h | h | h | h | h | h | h | h
  · exact opError_none o many w h
  · exact opError_set o ok many w h
  · exact opError_copy o ok many w h
  · exact opError_sum o ok many w h
  · exact opError_over1 o ok many w h
  · exact opError_over2 o ok many w h
  · exact opError_load o ok many w h
  · exact opError_store o ok many w h
  · exact opError_if o ok many w h
  · exact opError_out o ok many w h
  · exact opError_outr o ok many w h
set_option maxHeartbeats 1000000 in
theorem isOutD_any (o : Opx) (w : World) : Calls Tryz.prog 42 #[opV o] w fun e w' => e = .returned (.bool (outB o)) ∧ Below w.heap.size w w' := by
  have h1 := kn_eq o.s 26 (by omega) (by omega)
  have h2 := kn_eq o.s 27 (by omega) (by omega)
  have e1 : Hid (outB o = ((o.s.toList == [111, 117, 116]) || (o.s.toList == [111, 117, 116, 114]))) := by
    show _ = _
    unfold outB
    rw [show (o.s.toList == [111, 117, 116]) = decide (kn o.s = 26) from h1, show (o.s.toList == [111, 117, 116, 114]) = decide (kn o.s = 27) from h2]
    simp
  clear h1 h2
  unfold opV
  go_enter Tryz.func42, Tryz.ntmps42
  go_wp2
  all_goals
    go_ret
    refine ⟨?_, (Below.refl _ _).alloc (Nat.le_refl _) _⟩
    rw [e1.out]
    first | (simp_all; done) | rfl
set_option maxRecDepth 100000 in
set_option maxHeartbeats 2000000 in
theorem storesD_any {w : World} {v : Value} {l : List Opx} (A : OpsIn w v l) (hl : (l.length : Int) ≤ 1000000) :
    Calls Tryz.prog 26 #[v] w fun e w' => e = .returned (.int .i64 (strs l)) ∧ w' = w := by
  obtain ⟨ao, cap, rfl, hc, hh⟩ := A.sh
  have HH : Hid (0 < l.length → ∃ b off : Nat, ao = some ⟨b, off, none⟩ ∧ ∀ (i : Nat) (o : Opx), l[i]? = some o → ∀ (j : Nat) (u : Value), (opC o)[j]? = some u → w.cell? ⟨b, off + i * 6 + j, none⟩ = some u) := hh
  clear hh A
  go_enter Tryz.func26, Tryz.ntmps26
  go_wp2
  go_loop [3, 4] (fun n i => ∃ j : Nat, j ≤ l.length ∧ i = .int .i64 j ∧ n = .int .i64 (strs (l.take j))) (fun _ i => l.length - (intOf i).toNat)
  case atStart => exact ⟨0, Nat.zero_le _, rfl, rfl⟩
  case round =>
    obtain ⟨j, hj, rfl, rfl⟩ := hrel
    by_cases hlt : j < l.length
    · have ho : l[j]? = some l[j] := List.getElem?_eq_getElem hlt
      obtain ⟨b, off, rfl, hcell⟩ := HH.out (by omega)
      obtain ⟨x0, x1, x2, x3, x4, x5⟩ := op_cells (hcell j _ ho)
      have hk := kn_eq l[j].s 24 (by omega) (by omega)
      have HS : Hid (strs (l.take (j + 1)) = strs (l.take j) + (if l[j].k = 24 then 1 else 0)) := by
        show _ = _; rw [take_snoc' ho, strs_snoc]
      have hb := strs_le (l.take j)
      have hb2 : (l.take j).length ≤ j := List.length_take_le _ _
      have hlt' : (j : Int) < l.length := by omega
      clear ho hcell
      generalize l[j] = o at *
      by_cases h24 : kn o.s = 24
      · have hk' : (o.s.toList == [115, 116, 111, 114, 101]) = true := by rw [show (o.s.toList == [115, 116, 111, 114, 101]) = _ from hk]; simpa using h24
        clear hk
        go_wp2
        go_round
        case rel => exact ⟨j + 1, by omega, by go_num, by rw [HS.out, if_pos h24]; go_num⟩
        case measure => simp [intOf]; omega
      · have hk' : (o.s.toList == [115, 116, 111, 114, 101]) = false := by rw [show (o.s.toList == [115, 116, 111, 114, 101]) = _ from hk]; simpa using h24
        clear hk
        go_wp2
        go_round
        case rel => exact ⟨j + 1, by omega, by go_num, by rw [HS.out, if_neg h24]; go_num⟩
        case measure => simp [intOf]; omega
    · obtain rfl : j = l.length := by omega
      go_wp2
      go_ret
      first | exact ⟨rfl, rfl⟩ | exact ⟨by rw [List.take_length]; rfl, rfl⟩ | (simp; done)
theorem results_one_cell {fn : Func} {p : Tmp} {ty : TypeId} {A : Addr} {x : Value} (h : fn.results = #[.cell p ty]) (tmps : Array Value) (P : Program) (w : World) (hp : tmps.getD p undef = .pointer (some A)) (hl : (loadVar ty A).run P w = .ok x w) :
    (results fn tmps).run P w = .ok x w := by
  simp only [results, h]
  simp only [asAddr, hp, Sem.run_bind, List.mapM_toArray, List.mapM_cons, List.mapM_nil, Sem.run_map, Sem.run_pure, Result.andThen, hl]
  simp
theorem fault_load {w : World} {B : Nat} {a b : Value} (z0 : w.cell? ⟨B, 0, none⟩ = some a) (z1 : w.cell? ⟨B, 1, none⟩ = some b) : (loadVar 42 ⟨B, 0, none⟩).run Tryz.prog w = .ok (.agg #[a, b]) w := by
  simp [go_sem, z0, z1]
theorem putF2 {w : World} {B : Nat} {u0 u1 v0 v1 : Value} (z0 : w.cell? ⟨B, 0, none⟩ = some u0) (z1 : w.cell? ⟨B, 1, none⟩ = some u1) : ((w.setCell ⟨B, 0, none⟩ v0).setCell ⟨B, 1, none⟩ v1).cell? ⟨B, 0, none⟩ = some v0 ∧ ((w.setCell ⟨B, 0, none⟩ v0).setCell ⟨B, 1, none⟩ v1).cell? ⟨B, 1, none⟩ = some v1 := by
  constructor
  · rw [World.cell?_setCell_other _ _ _ _ (by intro e; injection e with e1 e2; cases e2)]; exact World.cell?_setCell_same _ _ _ z0
  · exact World.cell?_setCell_same _ _ _ (by rw [World.cell?_setCell_other _ _ _ _ (by intro e; injection e with e1 e2; cases e2)]; exact z1)
set_option maxHeartbeats 1000000 in
theorem bare_any (n : Int) (w : World) : Calls Tryz.prog 24 #[.int .i64 n] w fun e w' => e = .returned (.agg #[.int .i64 n, .int .i64 (-1)]) ∧ Below w.heap.size w w' := by
  go_enter Tryz.func24, Tryz.ntmps24
  go_wp2
  refine bodyPost_ret (results_one_cell (A := ⟨w.heap.size, 0, none⟩) rfl _ _ _ rfl (fault_load (a := .int .i64 n) (b := .int .i64 (-1)) (by simp) (by simp))) rfl ?_
  exact ⟨rfl, (Below.refl _ _).alloc (Nat.le_refl _) _⟩
set_option maxHeartbeats 1000000 in
theorem fine_any (w : World) : Calls Tryz.prog 27 #[] w fun e w' => e = .returned (.agg #[.int .i64 0, .int .i64 (-1)]) ∧ Below w.heap.size w w' := by
  go_enter Tryz.func27, Tryz.ntmps27
  go_wp2
  refine bodyPost_ret (results_one_cell (A := ⟨w.heap.size, 0, none⟩) rfl _ _ _ rfl (fault_load (a := .int .i64 0) (b := .int .i64 (-1)) (by simp) (by simp))) rfl ?_
  exact ⟨rfl, (Below.refl _ _).alloc (Nat.le_refl _) _⟩
end Go.Proofs.YtcccaejjhodnkabGreatDoor
