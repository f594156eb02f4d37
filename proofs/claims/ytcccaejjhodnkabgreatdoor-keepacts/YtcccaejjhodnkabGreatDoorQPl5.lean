/-
  Package plan: rows of ops that came in; how many stores, how many ops, how wide; Check.
-/
import Derived.Test.YtcccaejjhodnkabGreatDoorKIrChk3
import Derived.Test.YtcccaejjhodnkabGreatDoorQPl4
namespace Go.Proofs.YtcccaejjhodnkabGreatDoor
open Go.RowKit Go.Maps
open Num
set_option linter.unusedVariables false
theorem strR_le {rs : List (List Opx)} : ∀ (h : ∀ r ∈ rs, r.length ≤ 1000), strR rs ≤ 1000 * rs.length := by
  unfold strR
  induction rs with
  | nil => intro _; simp
  | cons r rs ih =>
    intro h
    have h1 := h r (by simp)
    have h2 := ih fun q hq => h q (by simp [hq])
    have h3 := strs_le r
    simp only [List.map_cons, List.sum_cons, List.length_cons]
    omega
theorem Few.take {rs : List (List Opx)} (F : Few rs) (j : Nat) : ∀ r ∈ rs.take j, r.length ≤ 1000 := fun r hr => F.2 r (List.mem_of_mem_take hr)
set_option maxRecDepth 100000 in
set_option maxHeartbeats 2000000 in
theorem storesR_any {w : World} {v : Value} {rs : List (List Opx)} (R : RowsI w v rs) (F : Few rs) :
    Calls Tryz.prog 45 #[v] w fun e w' => e = .returned (.int .i64 (strR rs : Int)) ∧ Below w.heap.size w w' := by
  obtain ⟨ao, cap, rfl, hc, hh⟩ := R
  have HH : Hid (0 < rs.length → ∃ b off : Nat, ao = some ⟨b, off, none⟩ ∧ ∀ (i : Nat) (row : List Opx), rs[i]? = some row → ∃ u, w.cell? ⟨b, off + i, none⟩ = some u ∧ OpsIn w u row) := hh
  have FH : Hid (Few rs) := F
  have hF := F.1
  clear hh F
  go_enter Tryz.func45, Tryz.ntmps45
  go_wp2
  go_loopw [3, 10] (fun n i wr => ∃ j : Nat, j ≤ rs.length ∧ i = .int .i64 j ∧ n = .int .i64 (strR (rs.take j) : Int) ∧ Below w.heap.size w wr) (fun _ i _ => rs.length - (intOf i).toNat)
  case atStart => exact ⟨0, Nat.zero_le _, rfl, rfl, Below.refl _ _⟩
  case round =>
    obtain ⟨j, hj, rfl, rfl, hB⟩ := hrel
    by_cases hlt : j < rs.length
    · obtain ⟨row, hrow⟩ : ∃ r, rs[j]? = some r := ⟨_, List.getElem?_eq_getElem hlt⟩
      obtain ⟨b, off, rfl, hcell⟩ := HH.out (by omega)
      obtain ⟨u, hu, hO⟩ := hcell j row hrow
      have hr1 := FH.out.2 row (List.mem_of_getElem? hrow)
      have hk := strR_le (FH.out.take j)
      have hkt : (rs.take j).length ≤ j := List.length_take_le _ _
      have HS : Hid (strR (rs.take (j + 1)) = strR (rs.take j) + strs row) := by show _ = _; rw [take_snoc' hrow, strR_snoc]
      have hu2 : wr.cell? ⟨b, off + j, none⟩ = some u := (hB.cell (p := ⟨b, off + j, none⟩) (World.block_lt_of_cell? _ _ hu)).trans hu
      obtain ⟨a1, c1, rfl, hc1, hh1⟩ := (hO.stays (hB.mono (Nat.le_refl _))).sh
      have H1 : Hid (0 < row.length → ∃ b off : Nat, a1 = some ⟨b, off, none⟩ ∧ ∀ (i : Nat) (o : Opx), row[i]? = some o → ∀ (j : Nat) (u : Value), (opC o)[j]? = some u → wr.cell? ⟨b, off + i * 6 + j, none⟩ = some u) := hh1
      have zb : b < wr.heap.size := World.block_lt_of_cell? _ _ hu2
      have hlt' : (j : Int) < rs.length := by omega
      have HB : Hid (Below w.heap.size w wr) := hB
      have hsz := hB.size
      have hkk : strR (rs.take j) ≤ 1000000 := by omega
      clear hrow hcell hu hO hh1 hB hk hkt
      generalize strR (rs.take j) = base at *
      obtain ⟨wo, hwo⟩ : ∃ wo, wo = wr := ⟨_, rfl⟩
      subst hwo
      go_wp2
      go_loopw [3, 16] (fun n i wq => ∃ q : Nat, q ≤ row.length ∧ i = .int .i64 q ∧ n = .int .i64 ((base + strs (row.take q) : Nat) : Int) ∧ Below wo.heap.size wo wq) (fun _ i _ => row.length - (intOf i).toNat)
      case atStart => exact ⟨0, Nat.zero_le _, rfl, rfl, Below.refl _ _⟩
      case round =>
        obtain ⟨q, hq, rfl, rfl, hQ⟩ := hrel
        by_cases hlq : q < row.length
        · obtain ⟨o, ho⟩ : ∃ o, row[q]? = some o := ⟨_, List.getElem?_eq_getElem hlq⟩
          obtain ⟨b1, off1, rfl, hc2⟩ := H1.out (by omega)
          obtain ⟨x0, x1, x2, x3, x4, x5⟩ := op_cells (w := wr) (fun k u hk => by rw [hQ.cell (World.block_lt_of_cell? _ _ (hc2 q _ ho k u hk))]; exact hc2 q _ ho k u hk)
          have hk := kn_eq o.s 24 (by omega) (by omega)
          have HT : Hid (strs (row.take (q + 1)) = strs (row.take q) + (if o.k = 24 then 1 else 0)) := by
            show _ = _; rw [take_snoc' ho, strs_snoc]
          have hb := strs_le (row.take q)
          have hb2 : (row.take q).length ≤ q := List.length_take_le _ _
          have hlq' : (q : Int) < row.length := by omega
          clear ho
          by_cases h24 : kn o.s = 24
          · have hk' : (o.s.toList == [115, 116, 111, 114, 101]) = true := by rw [show (o.s.toList == [115, 116, 111, 114, 101]) = _ from hk]; simpa using h24
            clear hk
            go_wp2
            go_roundw
            case rel => exact ⟨q + 1, by omega, by go_num, by rw [HT.out, if_pos h24]; go_num, hQ.alloc (by have := hQ.size; omega) _⟩
            case measure => simp [intOf]; omega
          · have hk' : (o.s.toList == [115, 116, 111, 114, 101]) = false := by rw [show (o.s.toList == [115, 116, 111, 114, 101]) = _ from hk]; simpa using h24
            clear hk
            go_wp2
            go_roundw
            case rel => exact ⟨q + 1, by omega, by go_num, by rw [HT.out, if_neg h24]; go_num, hQ.alloc (by have := hQ.size; omega) _⟩
            case measure => simp [intOf]; omega
        · obtain rfl : q = row.length := by omega
          have HB2 : Hid (Below w.heap.size w wr) := HB.out.trans (hQ.mono hsz)
          clear hQ
          go_wp2
          go_roundw
          case rel => exact ⟨j + 1, by omega, by go_num, by rw [HS.out, List.take_length], HB2.out⟩
          case measure => simp [intOf]; omega
    · obtain rfl : j = rs.length := by omega
      go_wp2
      go_ret
      first | exact ⟨rfl, hB⟩ | exact ⟨by rw [List.take_length]; rfl, hB⟩
end Go.Proofs.YtcccaejjhodnkabGreatDoor
