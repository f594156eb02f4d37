/-
  Rows of ops.
-/
import Derived.Laws.StructEq
import Derived.Deep.MidRow
import Derived.ChangeKeysEq
import Derived.Test.YtflagpkmebdckaaGreatDoorKOptPure
import Derived.Test.YtflagpkmebdckaaGreatDoorKIrChk2
import Derived.Test.YtflagpkmebdckaaGreatDoorKPlPure
import Derived.Test.YtflagpkmebdckaaGreatDoorJPl1
import Derived.Test.YtflagpkmebdckaaGreatDoorJRes3
namespace Go.Proofs.YtflagpkmebdckaaGreatDoor
open Go.RowKit Go.Maps
set_option linter.unusedVariables false
/-- rows of ops -/
def RowsI (w : World) (v : Value) (rs : List (List Opx)) : Prop :=
  ∃ ao cap, v = .slice ao rs.length cap ∧ rs.length ≤ cap ∧ (0 < rs.length → ∃ b off : Nat, ao = some ⟨b, off, none⟩ ∧ ∀ (i : Nat) (row : List Opx), rs[i]? = some row → ∃ u, w.cell? ⟨b, off + i, none⟩ = some u ∧ OpsIn w u row)
theorem RowsI.stays {w w' : World} {v : Value} {rs : List (List Opx)} (R : RowsI w v rs) (h : Below w.heap.size w w') : RowsI w' v rs := by
  obtain ⟨ao, cap, e, hc, hh⟩ := R
  refine ⟨ao, cap, e, hc, fun hp => ?_⟩
  obtain ⟨b, off, eb, hcell⟩ := hh hp
  refine ⟨b, off, eb, fun i row hi => ?_⟩
  obtain ⟨u, hu, hO⟩ := hcell i row hi
  exact ⟨u, (h.cell (p := ⟨b, off + i, none⟩) (World.block_lt_of_cell? _ _ hu)).trans hu, hO.stays h⟩
/-- few rows, none too long -/
def Few (rs : List (List Opx)) : Prop := rs.length ≤ 1000 ∧ ∀ r ∈ rs, r.length ≤ 1000
end Go.Proofs.YtflagpkmebdckaaGreatDoor
/-
  Package plan: rows of ops that came in; how many stores, how many ops, how wide; Check.
-/
namespace Go.Proofs.YtflagpkmebdckaaGreatDoor
open Go.RowKit Go.Maps
open Num
set_option linter.unusedVariables false
theorem strR_le {rs : List (List Opx)} : ∀ (h : ∀ r ∈ rs, r.length ≤ 1000), strR rs ≤ 1000 * rs.length := by
  unfold strR
  induction rs with
  | nil => intro _; simp
  | cons r rs ih =>
    intro h
    have h1 := h r (by simp)
    have h2 := ih fun q hq => h q (by simp [hq])
    have h3 := strs_le r
    simp only [List.map_cons, List.sum_cons, List.length_cons]
    omega
theorem Few.take {rs : List (List Opx)} (F : Few rs) (j : Nat) : ∀ r ∈ rs.take j, r.length ≤ 1000 := fun r hr => F.2 r (List.mem_of_mem_take hr)
set_option maxRecDepth 100000 in
set_option maxHeartbeats 2000000 in
theorem storesR_any {w : World} {v : Value} {rs : List (List Opx)} (R : RowsI w v rs) (F : Few rs) :
    Calls Tryz.prog 152 #[v] w fun e w' => e = .returned (.int .i64 (strR rs : Int)) ∧ Below w.heap.size w w' := by
  obtain ⟨ao, cap, rfl, hc, hh⟩ := R
  have HH : Hid (0 < rs.length → ∃ b off : Nat, ao = some ⟨b, off, none⟩ ∧ ∀ (i : Nat) (row : List Opx), rs[i]? = some row → ∃ u, w.cell? ⟨b, off + i, none⟩ = some u ∧ OpsIn w u row) := hh
  have FH : Hid (Few rs) := F
  have hF := F.1
  clear hh F
  go_enter Tryz.func152, Tryz.ntmps152
  go_wp2
  go_loopw [3, 10] (fun n i wr => ∃ j : Nat, j ≤ rs.length ∧ i = .int .i64 j ∧ n = .int .i64 (strR (rs.take j) : Int) ∧ Below w.heap.size w wr) (fun _ i _ => rs.length - (intOf i).toNat)
  case atStart => exact ⟨0, Nat.zero_le _, rfl, rfl, Below.refl _ _⟩
  case round =>
    obtain ⟨j, hj, rfl, rfl, hB⟩ := hrel
    by_cases hlt : j < rs.length
    · obtain ⟨row, hrow⟩ : ∃ r, rs[j]? = some r := ⟨_, List.getElem?_eq_getElem hlt⟩
      obtain ⟨b, off, rfl, hcell⟩ := HH.out (by omega)
      obtain ⟨u, hu, hO⟩ := hcell j row hrow
      have hr1 := FH.out.2 row (List.mem_of_getElem? hrow)
      have hk := strR_le (FH.out.take j)
      have hkt : (rs.take j).length ≤ j := List.length_take_le _ _
      have HS : Hid (strR (rs.take (j + 1)) = strR (rs.take j) + strs row) := by show _ = _; rw [take_snoc' hrow, strR_snoc]
      have hu2 : wr.cell? ⟨b, off + j, none⟩ = some u := (hB.cell (p := ⟨b, off + j, none⟩) (World.block_lt_of_cell? _ _ hu)).trans hu
      obtain ⟨a1, c1, rfl, hc1, hh1⟩ := (hO.stays (hB.mono (Nat.le_refl _))).sh
      have H1 : Hid (0 < row.length → ∃ b off : Nat, a1 = some ⟨b, off, none⟩ ∧ ∀ (i : Nat) (o : Opx), row[i]? = some o → ∀ (j : Nat) (u : Value), (opC o)[j]? = some u → wr.cell? ⟨b, off + i * 6 + j, none⟩ = some u) := hh1
      have zb : b < wr.heap.size := World.block_lt_of_cell? _ _ hu2
      have hlt' : (j : Int) < rs.length := by omega
      have HB : Hid (Below w.heap.size w wr) := hB
      have hsz := hB.size
      have hkk : strR (rs.take j) ≤ 1000000 := by omega
      clear hrow hcell hu hO hh1 hB hk hkt
      generalize strR (rs.take j) = base at *
      obtain ⟨wo, hwo⟩ : ∃ wo, wo = wr := ⟨_, rfl⟩
      subst hwo
      go_wp2
      go_loopw [3, 16] (fun n i wq => ∃ q : Nat, q ≤ row.length ∧ i = .int .i64 q ∧ n = .int .i64 ((base + strs (row.take q) : Nat) : Int) ∧ Below wo.heap.size wo wq) (fun _ i _ => row.length - (intOf i).toNat)
      case atStart => exact ⟨0, Nat.zero_le _, rfl, rfl, Below.refl _ _⟩
      case round =>
        obtain ⟨q, hq, rfl, rfl, hQ⟩ := hrel
        by_cases hlq : q < row.length
        · obtain ⟨o, ho⟩ : ∃ o, row[q]? = some o := ⟨_, List.getElem?_eq_getElem hlq⟩
          obtain ⟨b1, off1, rfl, hc2⟩ := H1.out (by omega)
          obtain ⟨x0, x1, x2, x3, x4, x5⟩ := op_cells (w := wr) (fun k u hk => by rw [hQ.cell (World.block_lt_of_cell? _ _ (hc2 q _ ho k u hk))]; exact hc2 q _ ho k u hk)
          have hk := kn_eq o.s 24 (by omega) (by omega)
          have HT : Hid (strs (row.take (q + 1)) = strs (row.take q) + (if o.k = 24 then 1 else 0)) := by
            show _ = _; rw [take_snoc' ho, strs_snoc]
          have hb := strs_le (row.take q)
          have hb2 : (row.take q).length ≤ q := List.length_take_le _ _
          have hlq' : (q : Int) < row.length := by omega
          clear ho
          by_cases h24 : kn o.s = 24
          · have hk' : (o.s.toList == [115, 116, 111, 114, 101]) = true := by rw [show (o.s.toList == [115, 116, 111, 114, 101]) = _ from hk]; simpa using h24
            clear hk
            go_wp2
            go_roundw
            case rel => exact ⟨q + 1, by omega, by go_num, by rw [HT.out, if_pos h24]; go_num, hQ.alloc (by have := hQ.size; omega) _⟩
            case measure => simp [intOf]; omega
          · have hk' : (o.s.toList == [115, 116, 111, 114, 101]) = false := by rw [show (o.s.toList == [115, 116, 111, 114, 101]) = _ from hk]; simpa using h24
            clear hk
            go_wp2
            go_roundw
            case rel => exact ⟨q + 1, by omega, by go_num, by rw [HT.out, if_neg h24]; go_num, hQ.alloc (by have := hQ.size; omega) _⟩
            case measure => simp [intOf]; omega
        · obtain rfl : q = row.length := by omega
          have HB2 : Hid (Below w.heap.size w wr) := HB.out.trans (hQ.mono hsz)
          clear hQ
          go_wp2
          go_roundw
          case rel => exact ⟨j + 1, by omega, by go_num, by rw [HS.out, List.take_length], HB2.out⟩
          case measure => simp [intOf]; omega
    · obtain rfl : j = rs.length := by omega
      go_wp2
      go_ret
      first | exact ⟨rfl, hB⟩ | exact ⟨by rw [List.take_length]; rfl, hB⟩
end Go.Proofs.YtflagpkmebdckaaGreatDoor
/-
  A processor's state: its numbers, and how memory holds them.
-/
namespace Go.Proofs.YtflagpkmebdckaaGreatDoor
open Go.RowKit Go.Maps
open Num
set_option linter.unusedVariables false
/-- the state -/
structure St where
  r : Nat → Int
  hi : Int
  lo : Int
  pc : Int
  nx : Int
  sl : Bool
  st : Int
  ca : Int
  ep : Int
  bd : Int
  cm : Int
  ct : Int
structure St.ok (S : St) : Prop where
  r : ∀ i, u32 (S.r i)
  hi : u32 S.hi
  lo : u32 S.lo
  pc : u32 S.pc
  nx : u32 S.nx
  st : u32 S.st
  ca : u32 S.ca
  ep : u32 S.ep
  bd : u32 S.bd
  cm : u32 S.cm
  c0 : -9223372036854775808 ≤ S.ct
  c1 : S.ct < 9223372036854775807
/-- what each of its cells holds -/
def stV (S : St) (j : Nat) : Value :=
  if j < 32 then .int .u32 (S.r j) else if j = 32 then .int .u32 S.hi else if j = 33 then .int .u32 S.lo else if j = 34 then .int .u32 S.pc else if j = 35 then .int .u32 S.nx else if j = 36 then .bool S.sl else if j = 37 then .int .u32 S.st else if j = 38 then .int .u32 S.ca else if j = 39 then .int .u32 S.ep else if j = 40 then .int .u32 S.bd else if j = 41 then .int .u32 S.cm else .int .i64 S.ct
structure StAt (w : World) (sb : Nat) (S : St) : Prop where
  c : ∀ j, j < 43 → w.cell? ⟨sb, j, none⟩ = some (stV S j)
  fz : ∀ j, w.frozen? ⟨sb, j, none⟩ = false
theorem StAt.lt {w : World} {sb : Nat} {S : St} (h : StAt w sb S) : sb < w.heap.size := World.block_lt_of_cell? _ _ (h.c 0 (by omega))
theorem StAt.block {w w' : World} {sb : Nat} {S : St} (h : StAt w sb S) (hb : w'.heap[sb]? = w.heap[sb]?) : StAt w' sb S :=
  ⟨fun j hj => (World.cell?_of_block (a := ⟨sb, j, none⟩) hb).trans (h.c j hj), fun j => (World.frozen?_of_block (a := ⟨sb, j, none⟩) hb).trans (h.fz j)⟩
theorem StAt.stays {w w' : World} {sb : Nat} {S : St} (h : StAt w sb S) (hb : Below w.heap.size w w') : StAt w' sb S := h.block (hb.block _ h.lt)
theorem StAt.drew {w : World} {sb : Nat} {S : St} (h : StAt w sb S) : StAt w.drew sb S := ⟨h.c, h.fz⟩
theorem StAt.drewN {w : World} {sb : Nat} {S : St} (h : StAt w sb S) (n : Nat) : StAt (w.drewN n) sb S := ⟨h.c, h.fz⟩
theorem StAt.put {w : World} {sb : Nat} {S S' : St} {j : Nat} {v : Value} (h : StAt w sb S) (hj : j < 43) (hv : stV S' j = v) (ho : ∀ i, i < 43 → i ≠ j → stV S' i = stV S i) : StAt (w.setCell ⟨sb, j, none⟩ v) sb S' := by
  refine ⟨fun i hi => ?_, fun i => by rw [World.frozen?_setCell]; exact h.fz i⟩
  by_cases e : i = j
  · subst e; rw [World.cell?_setCell_same _ _ _ (h.c i hi), hv]
  · rw [World.cell?_setCell_other _ _ _ _ (by intro e'; injection e' with e1 e2; exact e e2.symm), h.c i hi, ho i hi e]
/-- the cells that are read by name -/
theorem StAt.told {w : World} {sb : Nat} {S : St} (h : StAt w sb S) : w.cell? ⟨sb, 32, none⟩ = some (.int .u32 S.hi) ∧ w.cell? ⟨sb, 33, none⟩ = some (.int .u32 S.lo) ∧ w.cell? ⟨sb, 34, none⟩ = some (.int .u32 S.pc) ∧ w.cell? ⟨sb, 35, none⟩ = some (.int .u32 S.nx) ∧ w.cell? ⟨sb, 36, none⟩ = some (.bool S.sl) ∧ w.cell? ⟨sb, 37, none⟩ = some (.int .u32 S.st) ∧ w.cell? ⟨sb, 38, none⟩ = some (.int .u32 S.ca) ∧ w.cell? ⟨sb, 39, none⟩ = some (.int .u32 S.ep) ∧ w.cell? ⟨sb, 40, none⟩ = some (.int .u32 S.bd) ∧ w.cell? ⟨sb, 41, none⟩ = some (.int .u32 S.cm) ∧ w.cell? ⟨sb, 42, none⟩ = some (.int .i64 S.ct) :=
  ⟨h.c 32 (by omega), h.c 33 (by omega), h.c 34 (by omega), h.c 35 (by omega), h.c 36 (by omega), h.c 37 (by omega), h.c 38 (by omega), h.c 39 (by omega), h.c 40 (by omega), h.c 41 (by omega), h.c 42 (by omega)⟩
theorem StAt.reg {w : World} {sb : Nat} {S : St} (h : StAt w sb S) {i : Nat} (hi : i < 32) : w.cell? ⟨sb, i, none⟩ = some (.int .u32 (S.r i)) := by
  rw [h.c i (by omega)]; unfold stV; rw [if_pos hi]
abbrev StRow (w : World) (b : Nat) (S : St) : Prop := RowIs w b 25 43 (stV S)
theorem StRow.at {w : World} {b : Nat} {S : St} (h : StRow w b S) : StAt w b S := ⟨fun j hj => h.cell hj, fun j => h.fz j⟩
end Go.Proofs.YtflagpkmebdckaaGreatDoor
/-
  A state, loaded whole; two that are one are equal.
-/
namespace Go.Proofs.YtflagpkmebdckaaGreatDoor
open Go.RowKit
set_option linter.unusedVariables false
def stL (S : St) : List Value := (List.range 43).map (stV S)
def stA (S : St) : Array Value := (stL S).toArray
theorem stA_get (S : St) {j : Nat} (h : j < 43) : (stA S)[j]? = some (stV S j) := by
  unfold stA stL; rw [List.getElem?_toArray, List.getElem?_map, List.getElem?_range h]; rfl
theorem load_st {w : World} {sb : Nat} {S : St} (A : StAt w sb S) : (loadVar 25 ⟨sb, 0, none⟩).run Tryz.prog w = .ok (.agg (stA S)) w :=
  run_loadVar_mid w sb 0 25 (stL S) _ (fun j v hv => by
    have hj : j < 43 := by have := (List.getElem?_eq_some_iff.1 hv).1; simpa [stL] using this
    have : (stL S)[j]? = some (stV S j) := by have := stA_get S hj; simpa [stA] using this
    rw [this] at hv
    rw [Nat.zero_add, A.c j hj]; exact hv) Tryz.underlying25 rfl (by show _ = some 43; kernel_rfl)
theorem part_one (t : TypeId) (ht : ∀ w, (isAgg t).run Tryz.prog w = .ok false w) (xs : Array Value) (off : Nat) (v : Value) (h : xs[off]? = some v) (w : World) : (part t xs off).run Tryz.prog w = .ok v w := by
  simp [part, ht, h, go_sem]
theorem agg23 (w : World) : (isAgg 22).run Tryz.prog w = .ok false w := by kernel_rfl
theorem agg4 (w : World) : (isAgg 4).run Tryz.prog w = .ok false w := by kernel_rfl
theorem agg3 (w : World) : (isAgg 3).run Tryz.prog w = .ok false w := by kernel_rfl
theorem items_eq (d : Nat) (xs : Array Value) (r : Nat → Int) (hx : ∀ i, i < 32 → xs[i]? = some (.int .u32 (r i))) (w : World) : ∀ is : List Nat, (∀ i ∈ is, i < 32) → (Op.eqItems (d + 1) 22 1 xs xs is).run Tryz.prog w = .ok true w
  | [], _ => by simp [Op.eqItems]
  | i :: is, h => by
    have hp := part_one 22 agg23 xs (i * 1) _ (by rw [Nat.mul_one]; exact hx i (h i (by simp))) w
    have ih := items_eq d xs r hx w is (fun j hj => h j (by simp [hj]))
    have he := run_equalIn_int (P := Tryz.prog) w d 22 .u32 .u32 (r i) (r i) Tryz.underlying22
    simp only [Op.eqItems, Sem.run_bind, hp, Result.andThen_ok, he]
    simpa using ih
theorem arr_eq (d : Nat) (xs : Array Value) (r : Nat → Int) (hx : ∀ i, i < 32 → xs[i]? = some (.int .u32 (r i))) (w : World) : (Op.equalIn (d + 2) 23 (.agg xs) (.agg xs)).run Tryz.prog w = .ok true w := by
  have hc : Tryz.prog.cellsOf 22 = 1 := by kernel_rfl
  obtain ⟨i23, hi⟩ : ∃ i, Tryz.prog.info? 22 = some i := by
    cases h : Tryz.prog.info? 22 with
    | some i => exact ⟨i, rfl⟩
    | none =>
      have : (Tryz.prog.info? 22).isSome = true := by kernel_rfl
      rw [h] at this; cases this
  rw [run_equalIn_array w (d + 1) xs xs Tryz.underlying23 hi, hc]
  exact items_eq d xs r hx w _ (fun i hi => List.mem_range.1 hi)
/-- a field of two that are one -/
def FieldEq (xs : Array Value) (t off : Nat) (w : World) : Prop := ∃ v, (part t xs off).run Tryz.prog w = .ok v w ∧ (Op.equalIn 9999 t v v).run Tryz.prog w = .ok true w
theorem fields_eq (xs : Array Value) (w : World) : ∀ fs : List Field, (∀ f ∈ fs, FieldEq xs f.type f.offset w) → (Op.eqFields 9999 xs xs fs).run Tryz.prog w = .ok true w
  | [], _ => by simp [Op.eqFields]
  | f :: fs, h => by
    obtain ⟨v, hp, he⟩ := h f (by simp)
    have ih := fields_eq xs w fs (fun g hg => h g (by simp [hg]))
    simp only [Op.eqFields]
    split
    · simp only [Sem.run_bind, hp, Result.andThen_ok, he]
      simpa using ih
    · exact ih
theorem fields32 : (Tryz.prog.fieldsOf 25).toList.map (fun f => (f.type, f.offset)) = [(23, 0), (22, 32), (22, 33), (22, 34), (22, 35), (4, 36), (22, 37), (22, 38), (22, 39), (22, 40), (22, 41), (3, 42)] := by kernel_rfl
theorem word_eq (S : St) (j : Nat) (hj : j < 43) (n : Int) (h : stV S j = .int .u32 n) (w : World) : FieldEq (stA S) 22 j w :=
  ⟨_, part_one 22 agg23 (stA S) j _ (stA_get S hj) w, by rw [h]; have := run_equalIn_int (P := Tryz.prog) w 9998 22 .u32 .u32 n n Tryz.underlying22; rw [this]; simp⟩
theorem eq_st (S : St) (w : World) : (binOp .eql 25 (.agg (stA S)) (.agg (stA S))).run Tryz.prog w = .ok (.bool true) w := by
  rw [run_eql_struct, run_equalIn_agg w 9999 25 _ _ (by kernel_rfl) (by kernel_rfl), fields_eq (stA S) w _ ?_]
  · rfl
  intro f hf
  have hm : (f.type, f.offset) ∈ [(23, 0), (22, 32), (22, 33), (22, 34), (22, 35), (4, 36), (22, 37), (22, 38), (22, 39), (22, 40), (22, 41), (3, 42)] := by rw [← fields32]; exact List.mem_map.2 ⟨f, hf, rfl⟩
  generalize f.type = t at hm
  generalize f.offset = o at hm
  simp only [List.mem_cons, Prod.mk.injEq, List.not_mem_nil, or_false] at hm
  rcases hm with ⟨rfl, rfl⟩ | ⟨rfl, rfl⟩ | ⟨rfl, rfl⟩ | ⟨rfl, rfl⟩ | ⟨rfl, rfl⟩ | ⟨rfl, rfl⟩ | ⟨rfl, rfl⟩ | ⟨rfl, rfl⟩ | ⟨rfl, rfl⟩ | ⟨rfl, rfl⟩ | ⟨rfl, rfl⟩ | ⟨rfl, rfl⟩
  · refine ⟨.agg ((stA S).extract 0 32), by simp [part, go_sem], arr_eq 9997 _ S.r (fun i hi => ?_) w⟩
    rw [Array.getElem?_extract, if_pos (by simp [stA, stL]; omega), Nat.zero_add, stA_get S (by omega)]
    simp [stV, hi]
  · exact word_eq S 32 (by omega) S.hi rfl w
  · exact word_eq S 33 (by omega) S.lo rfl w
  · exact word_eq S 34 (by omega) S.pc rfl w
  · exact word_eq S 35 (by omega) S.nx rfl w
  · exact ⟨_, part_one 4 agg4 (stA S) 36 _ (stA_get S (by omega)) w, by have := run_equalIn_bool' (P := Tryz.prog) w 9998 4 S.sl S.sl Tryz.underlying4; rw [show stV S 36 = .bool S.sl from rfl, this]; simp⟩
  · exact word_eq S 37 (by omega) S.st rfl w
  · exact word_eq S 38 (by omega) S.ca rfl w
  · exact word_eq S 39 (by omega) S.ep rfl w
  · exact word_eq S 40 (by omega) S.bd rfl w
  · exact word_eq S 41 (by omega) S.cm rfl w
  · exact ⟨_, part_one 3 agg3 (stA S) 42 _ (stA_get S (by omega)) w, by have := run_equalIn_int (P := Tryz.prog) w 9998 3 .i64 .i64 S.ct S.ct Tryz.underlying3; rw [show stV S 42 = .int .i64 S.ct from rfl, this]; simp⟩
theorem exec_load {ρ : Operand → Value} {o : Oper} {x : Operand} {sb : Nat} {v : Value} (ho : o.op = .load 25 x) (hx : ρ x = .pointer (some ⟨sb, 0, none⟩)) (W : World) (hl : (loadVar 25 ⟨sb, 0, none⟩).run Tryz.prog W = .ok v W) : (execOp ρ o).run Tryz.prog W = .ok (.value v) W := by
  have hs : (Instr.sureAddr (.pointer (some ⟨sb, 0, none⟩))).run Tryz.prog W = .ok ⟨sb, 0, none⟩ W := by simp [Instr.sureAddr]
  have h : (Instr.loadAt 25 (.pointer (some ⟨sb, 0, none⟩))).run Tryz.prog W = .ok v W := by unfold Instr.loadAt; rw [Sem.run_bind, hs, Result.andThen_ok]; exact hl
  unfold execOp
  simp only [ho, hx, Sem.run_bind, h, Result.andThen_ok]
  rfl
theorem guard32 : Tryz.prog.eqGuardType Tryz.prog.depth 25 = false := by kernel_rfl
theorem exec_eq {ρ : Operand → Value} {o : Oper} {x y : Operand} {ty : TypeId} {SA : Array Value} (ho : o.op = .binOp .eql 25 x y ty) (hx : ρ x = .agg SA) (hy : ρ y = .agg SA) (W : World) (heq : (binOp .eql 25 (.agg SA) (.agg SA)).run Tryz.prog W = .ok (.bool true) W) : (execOp ρ o).run Tryz.prog W = .ok (.value (.bool true)) W := by
  have hg := run_eqGuard_agg (P := Tryz.prog) W .eql 25 x y SA SA guard32
  unfold execOp
  simp only [ho, hx, hy, Sem.run_bind, hg, Result.andThen_ok, heq]
  first | rfl | simp [go_sem]
theorem stA_congr {S S' : St} (h : ∀ j, j < 43 → stV S j = stV S' j) : stA S = stA S' := by
  unfold stA stL; congr 1; exact List.map_congr_left (fun j hj => h j (List.mem_range.1 hj))
def zS : St := ⟨fun _ => 0, 0, 0, 0, 0, false, 0, 0, 0, 0, 0, 0⟩
theorem zeroSt (w : World) : (zeroValue 25).run Tryz.prog w = .ok (.agg (stA zS)) w := by kernel_rfl
theorem stA_size (S : St) : (stA S).size = 43 := by simp [stA, stL]
theorem stA_one (S : St) : (stA S).all (·.oneCell') = true := by
  rw [Array.all_eq_true_iff_forall_mem]
  intro x hx
  simp only [stA, stL, List.mem_toArray, List.mem_map] at hx
  obtain ⟨i, _, rfl⟩ := hx
  unfold stV
  (repeat' split) <;> rfl
section
variable {ops : Array Oper} {rest : List Oper} {o : Oper} {a : Act} {w : World} {Q : Exit → Act → World → Prop}
theorem wpList_allocSt (hg : o.guard = none) (hop : o.op = Op.alloc 25)
    (h : wpList Tryz.prog ops Q rest (a.put o.dst (.pointer (some ⟨w.heap.size, 0, none⟩))) (w.alloc (.cells (stA zS) 25))) : wpList Tryz.prog ops Q (o :: rest) a w := by
  refine wpList_plain hg fun K hK => ?_
  unfold Oper.wp
  have e : (execOp a.eval o).run Tryz.prog w = .ok (.value (.pointer (some ⟨w.heap.size, 0, none⟩))) (w.alloc (.cells (stA zS) 25)) := by
    unfold execOp; rw [hop]
    simp only [Instr.alloc, newVar, newRow, Sem.run_bind, zeroSt, Result.andThen_ok]
    rfl
  rw [e, Oper.upon_value]
  exact hK _ _ h
theorem wpList_storeSt (hgd : o.guard = none) (x y : Operand) (ho : o.op = .store 25 x y)
    (old cells : Array Value) (hx : a.eval x = .pointer (some ⟨w.heap.size, 0, none⟩)) (hy : a.eval y = .agg cells) (ho' : old.size = 43) (hs : cells.size = 43) (h1 : cells.all (·.oneCell') = true)
    (h : wpList Tryz.prog ops Q rest (a.put o.dst undef) (w.alloc (.cells cells 25))) : wpList Tryz.prog ops Q (o :: rest) a (w.alloc (.cells old 25)) := by
  refine wpList_store_row hgd 25 x y ho w.heap.size cells hx hy 25 old (heap_alloc_new w _) (by rw [hs]; kernel_rfl) (by omega) h1 ?_
  rw [setRow_new]; exact h
theorem wpList_storeRow (hgd : o.guard = none) (x y : Operand) (ho : o.op = .store 25 x y) (b : Nat)
    (old cells : Array Value) (hx : a.eval x = .pointer (some ⟨b, 0, none⟩)) (hy : a.eval y = .agg cells) (hb : w.heap[b]? = some (.cells old 25 (0, 0))) (ho' : old.size = 43) (hs : cells.size = 43) (h1 : cells.all (·.oneCell') = true)
    (h : wpList Tryz.prog ops Q rest (a.put o.dst undef) (w.setRow b cells)) : wpList Tryz.prog ops Q (o :: rest) a w :=
  wpList_store_row hgd 25 x y ho b cells hx hy 25 old hb (by rw [hs]; kernel_rfl) (by omega) h1 h
theorem wpList_loadSt (hg : o.guard = none) (x : Operand) (hop : o.op = .load 25 x) (sb : Nat) (L : Array Value) (hx : a.eval x = .pointer (some ⟨sb, 0, none⟩)) (hl : (loadVar 25 ⟨sb, 0, none⟩).run Tryz.prog w = .ok (.agg L) w)
    (h : wpList Tryz.prog ops Q rest (a.put o.dst (.agg L)) w) : wpList Tryz.prog ops Q (o :: rest) a w := by
  refine wpList_plain hg fun K hK => ?_
  unfold Oper.wp
  rw [exec_load hop hx w hl, Oper.upon_value]
  exact hK _ _ h
end
end Go.Proofs.YtflagpkmebdckaaGreatDoor
/-
  What an op comes to is words; a row's results in memory.
-/
namespace Go.Proofs.YtflagpkmebdckaaGreatDoor
open Go.RowKit Go.Maps
open Num
set_option linter.unusedVariables false
theorem ld_bd {m : Nat → Int} (mb : ∀ i, 0 ≤ m i ∧ m i < 4294967296) (a s : Int) (sg : Bool) : u32 (ld m a s sg) := by
  unfold ld
  have h := mb (a / 4).toNat
  have hp : (0 : Int) < 2 ^ (bhd a s).toNat := Int.pow_pos (by omega)
  refine wd_bd (Int.ediv_nonneg h.1 (by omega)) ?_ sg
  have := Int.ediv_le_self (2 ^ (bhd a s).toNat) h.1
  omega
theorem resZ_bd {wt : Int → Bool} {x m : Nat → Int} {o : Opx} {many : Int} (ok : o.ok) (h : opE o many = 0) (hx : ∀ i, i < 64 → 0 ≤ x i ∧ x i < 4294967296) (mb : ∀ i, 0 ≤ m i ∧ m i < 4294967296) : u32 (resZ wt x m o).v ∧ u32 (resZ wt x m o).a := by
  obtain ⟨h0, ⟨a0, a1⟩, hb, hb3, hd, hd4⟩ := opE_flds h
  have z : u32 0 := ⟨by omega, by omega⟩
  have hi : u32 o.i := ⟨ok.i0, ok.i1⟩
  have ha : u32 (x o.a.toNat) := hx _ (by omega)
  have hl := kn_lt o.s
  unfold resZ
  by_cases h21 : o.k = 21
  · rw [if_pos h21]; exact ⟨z, z⟩
  rw [if_neg h21]
  by_cases h22 : o.k = 22
  · rw [if_pos h22]; exact ⟨z, z⟩
  rw [if_neg h22]
  by_cases h23 : o.k = 23
  · rw [if_pos h23]
    generalize (if o.b < 0 then -o.b else o.b) = n
    split
    · exact ⟨ld_bd mb _ _ _, z⟩
    · exact ⟨z, z⟩
  rw [if_neg h23]
  by_cases h24 : o.k = 24
  · rw [if_pos h24]
    have hbb := hb (by show kn o.s ≠ 23; exact h23)
    split
    · exact ⟨hx _ (by omega), lo_bd _⟩
    · exact ⟨z, z⟩
  rw [if_neg h24]
  by_cases h25 : o.k = 25
  · rw [if_pos h25]; exact ⟨z, hi⟩
  rw [if_neg h25]
  by_cases h26 : o.k = 26
  · rw [if_pos h26]; exact ⟨z, hi⟩
  rw [if_neg h26]
  by_cases h27 : o.k = 27
  · rw [if_pos h27]; exact ⟨z, ha⟩
  rw [if_neg h27]
  have hbb := hb (by show kn o.s ≠ 23; exact h23)
  have h0' : o.k ≠ 0 := h0
  have hdd := hd (.inl ⟨by show 1 ≤ kn o.s; omega, by show kn o.s ≤ 20; unfold Opx.k at *; omega⟩)
  exact ⟨valV_bd _ ha (hx _ (by omega)) (hx _ (by omega)) hi, z⟩
/-- what a store that does not trap is -/
theorem resZ_store {wt : Int → Bool} {x m : Nat → Int} {o : Opx} (hk : o.k = 24) (ht : (resZ wt x m o).trap = false) : chk (resZ wt x m o).a o.d = 0 ∧ wt ((resZ wt x m o).a / 256) = false := by
  unfold resZ at ht ⊢
  rw [if_neg (by omega), if_neg (by omega), if_neg (by omega), if_pos hk] at ht ⊢
  by_cases hc : chk (lo (x o.a.toNat + o.i)) o.d = 0
  · rw [if_pos hc] at ht ⊢; exact ⟨hc, ht⟩
  · rw [if_neg hc] at ht; cases ht
theorem appZ_bd {M : Mz} {o : Opx} {r : Ro} (hx : ∀ i, i < 64 → 0 ≤ M.x i ∧ M.x i < 4294967296) (hr : u32 r.v) : ∀ i, i < 64 → 0 ≤ (appZ M o r).x i ∧ (appZ M o r).x i < 4294967296 := by
  intro i hi
  show 0 ≤ (if 0 < wrX o then setX M.x (wrX o) r.v else M.x) i ∧ _ < _
  by_cases h : 0 < wrX o
  · simp only [appZ, if_pos h]
    unfold setX
    split
    · exact hr
    · exact hx i hi
  · simp only [appZ, if_neg h]; exact hx i hi
/-- a row's results so far -/
def resL (wt : Int → Bool) (x m : Nat → Int) (row : List Opx) : List Ro := row.map (resZ wt x m)
theorem rowZ_snoc (wt : Int → Bool) (x m : Nat → Int) (row : List Opx) (o : Opx) : rowZ wt x m (row ++ [o]) = appZ (rowZ wt x m row) o (resZ wt x m o) := by simp [rowZ]
theorem trapZ_none {wt : Int → Bool} {x m : Nat → Int} {row : List Opx} (h : ∀ o ∈ row, (resZ wt x m o).trap = false) : trapZ wt x m row = none := by
  unfold trapZ
  rw [List.find?_eq_none.2 (fun o ho => by rw [h o ho]; simp)]; rfl
theorem trapZ_at {wt : Int → Bool} {x m : Nat → Int} {row : List Opx} {k : Nat} {o : Opx} (ho : row[k]? = some o) (ht : (resZ wt x m o).trap = true) (hn : ∀ q ∈ row.take k, (resZ wt x m q).trap = false) : trapZ wt x m row = some o.t := by
  unfold trapZ
  have e : row = row.take k ++ o :: row.drop (k + 1) := by
    have hk : k < row.length := (List.getElem?_eq_some_iff.1 ho).1
    have : row[k] = o := (List.getElem?_eq_some_iff.1 ho).2
    rw [← this, ← List.drop_eq_getElem_cons hk, List.take_append_drop]
  rw [e, List.find?_append, List.find?_eq_none.2 (fun q hq => by rw [hn q hq]; simp), List.find?_cons, ht]
  rfl
end Go.Proofs.YtflagpkmebdckaaGreatDoor
/-
  Package plan: Check.
-/
namespace Go.Proofs.YtflagpkmebdckaaGreatDoor
open Go.RowKit Go.Maps
open Num
set_option linter.unusedVariables false
theorem planF_bad {many : Int} {rs : List (List Opx)} (h1 : ¬ (many < 1 ∨ 24 < many)) (h2 : ¬ 200 < rs.length) {j : Nat} {r : List Opx} (hr : rs[j]? = some r) (hN : ∀ k q, k < j → rs[k]? = some q → rowE many (decide (k + 1 = rs.length)) q = 0) (hb : rowE many (decide (j + 1 = rs.length)) r ≠ 0) : planF many rs = (rowE many (decide (j + 1 = rs.length)) r, (j : Int)) := by
  have hj : j < rs.length := (List.getElem?_eq_some_iff.1 hr).1
  have h := rowsF_at many rs 0 j r hr (fun k q hk hq => by have := hN k q hk hq; rwa [decide_eq_false (by omega)] at this) hb
  have hne : rs ≠ [] := by rintro rfl; simp at hr
  unfold planF
  rw [if_neg h1, if_neg h2, if_neg hne, h, if_pos hb]
  simp
theorem planF_good {many : Int} {rs : List (List Opx)} (h1 : ¬ (many < 1 ∨ 24 < many)) (h2 : ¬ 200 < rs.length) (hne : rs ≠ []) (hN : ∀ k q, rs[k]? = some q → rowE many (decide (k + 1 = rs.length)) q = 0) : planF many rs = if 8 < strR rs then (8, -1) else (0, -1) := by
  unfold planF
  rw [if_neg h1, if_neg h2, if_neg hne, rowsF_none many rs 0 hN, if_neg (by simp)]
theorem last_eq (j n : Nat) (h : 0 < n) : ((j : Int) == (n : Int) - 1) = decide (j + 1 = n) := by
  rw [Bool.eq_iff_iff]; simp only [beq_iff_eq, decide_eq_true_eq]; omega
structure CkP (w W : World) (many : Int) (v : Value) : Prop where
  b : Below w.heap.size w W
  c1 : W.cell? ⟨w.heap.size, 1, none⟩ = some (.int .i64 many)
  c2 : W.cell? ⟨w.heap.size, 2, none⟩ = some v
theorem CkP.stays {w W W' : World} {many : Int} {v : Value} (C : CkP w W many v) (h : Below W.heap.size W W') : CkP w W' many v :=
  ⟨C.b.trans (h.mono C.b.size), (h.cell (p := ⟨w.heap.size, 1, none⟩) (World.block_lt_of_cell? _ _ C.c1)).trans C.c1, (h.cell (p := ⟨w.heap.size, 2, none⟩) (World.block_lt_of_cell? _ _ C.c2)).trans C.c2⟩
set_option maxRecDepth 100000 in
set_option maxHeartbeats 4000000 in
theorem checkP_any (pe : Nat → Addr) {w : World} (E : Ep pe w) {v : Value} {rs : List (List Opx)} (R : RowsI w v rs) (F : Few rs) (pc many : Int) (m0 : -9223372036854775808 ≤ many) (m1 : many ≤ 9223372036854775807) :
    Calls Tryz.prog 81 #[.agg #[.int .u32 pc, .int .i64 many, v]] w fun e w' => (∃ x, e = .returned x ∧ CErr pe w' (planF many rs) x) ∧ Below w.heap.size w w' := by
  have B0 : Below w.heap.size w (w.alloc (.cells #[.int .u32 pc, .int .i64 many, v] 79)) := (Below.refl _ _).alloc (Nat.le_refl _) _
  have E1 := E.stays B0
  have R1 := R.stays B0
  obtain ⟨ao, cap, rfl, hc, _⟩ := R
  have C0 : CkP w (w.alloc (.cells #[.int .u32 pc, .int .i64 many, .slice ao rs.length cap] 79)) many (.slice ao rs.length cap) := ⟨B0, by simp, by simp⟩
  have hF := F.1
  obtain ⟨P, hP⟩ : ∃ P, planF many rs = P := ⟨_, rfl⟩
  have HP : Hid (planF many rs = P) := hP
  rw [hP]
  clear hP E
  have FH : Hid (Few rs) := F
  clear F
  go_enter Tryz.func81, Tryz.ntmps81
  go_upto_region 1 with fail
  generalize w.alloc (.cells #[.int .u32 pc, .int .i64 many, .slice ao rs.length cap] 79) = V at *
  obtain ⟨_, c1, c2⟩ := id C0
  have HC : Hid (CkP w V many (.slice ao rs.length cap)) := C0
  have EH : Hid (Ep pe V) := E1
  have RH : Hid (RowsI V (.slice ao rs.length cap) rs) := R1
  obtain ⟨z2, z3, z4, z8⟩ := E1.e.size
  obtain ⟨⟨e2, e3, e4, e8⟩, e7, _⟩ := E1
  have zc := World.block_lt_of_cell? _ _ c1
  clear C0 R1 B0
  by_cases hm1 : many < 1
  · have HF : Hid (P = (2, -1)) := by show _ = _; rw [← HP.out]; unfold planF; rw [if_pos (Or.inl hm1)]
    clear HP
    go_wp2
    go_ret
    exact ⟨⟨_, rfl, .inl ⟨by rw [HF.out], by rw [HF.out]; rfl⟩⟩, HC.out.b⟩
  by_cases hm2 : 24 < many
  · have HF : Hid (P = (2, -1)) := by show _ = _; rw [← HP.out]; unfold planF; rw [if_pos (Or.inr hm2)]
    clear HP
    go_wp2
    go_ret
    exact ⟨⟨_, rfl, .inl ⟨by rw [HF.out], by rw [HF.out]; rfl⟩⟩, HC.out.b⟩
  have hm : Hid (¬ (many < 1 ∨ 24 < many)) := by show ¬ _; omega
  by_cases hl2 : 200 < rs.length
  · have HF : Hid (P = (8, -1)) := by show _ = _; rw [← HP.out]; unfold planF; rw [if_neg hm.out, if_pos hl2]
    have hl2' : (200 : Int) < rs.length := by omega
    clear HP
    go_wp2
    go_ret
    exact ⟨⟨_, rfl, .inl ⟨by rw [HF.out], by rw [HF.out]; rfl⟩⟩, HC.out.b⟩
  have hl2' : ¬ (200 : Int) < rs.length := by omega
  have HL2 : Hid (¬ 200 < rs.length) := hl2
  by_cases hnil : rs = []
  · have HF : Hid (P = (3, -1)) := by show _ = _; rw [← HP.out]; unfold planF; rw [if_neg hm.out, if_neg hl2, if_pos hnil]
    subst hnil
    clear HP
    go_wp2
    go_ret
    exact ⟨⟨_, rfl, .inl ⟨by rw [HF.out], by rw [HF.out]; rfl⟩⟩, HC.out.b⟩
  have hpos : 0 < rs.length := List.length_pos_iff.2 hnil
  have hp0 : ((rs.length : Int) == 0) = false := by simp; exact hnil
  have HNE : Hid (rs ≠ []) := hnil
  have hr2 : (rs.length : Int) ≤ 200 := by omega
  have hr3 : (0 : Int) < rs.length := by omega
  obtain ⟨ao', cap', ee, _, hh⟩ := RH.out
  injection ee with ee1 ee2 ee3
  subst ee1 ee3
  obtain ⟨b, off, rfl, hcell⟩ := hh hpos
  have HH : Hid (∀ (i : Nat) (row : List Opx), rs[i]? = some row → ∃ u, V.cell? ⟨b, off + i, none⟩ = some u ∧ OpsIn V u row) := hcell
  have HV : V.heap.size = V.heap.size := rfl
  clear hh hcell hnil hl2 e2 e3 e4 e7 e8 HV ee2
  go_wp2
  go_loopw [31] (fun i wr => ∃ j : Nat, j ≤ rs.length ∧ i = .int .i64 j ∧ Hid (∀ k q, k < j → rs[k]? = some q → rowE many (decide (k + 1 = rs.length)) q = 0) ∧ Below V.heap.size V wr) (fun i _ => rs.length - (intOf i).toNat)
  case atStart => exact ⟨0, Nat.zero_le _, rfl, (by intro k q hk; omega), Below.refl _ _⟩
  case round =>
    obtain ⟨j, hj, rfl, HN, hB⟩ := hrel
    have HB : Hid (Below V.heap.size V wr) := hB
    have hsz := hB.size
    obtain ⟨bw, d1, d2⟩ := HC.out.stays hB
    have HBW : Hid (Below w.heap.size w wr) := bw
    have zw := World.block_lt_of_cell? _ _ d1
    clear bw c1 c2
    by_cases hlt : j < rs.length
    · obtain ⟨row, hrow⟩ : ∃ r, rs[j]? = some r := ⟨_, List.getElem?_eq_getElem hlt⟩
      obtain ⟨u, hu, hO⟩ := HH.out j row hrow
      have hr1 := FH.out.2 row (List.mem_of_getElem? hrow)
      have hu2 : wr.cell? ⟨b, off + j, none⟩ = some u := (hB.cell (p := ⟨b, off + j, none⟩) (World.block_lt_of_cell? _ _ hu)).trans hu
      have hO2 := hO.stays hB
      have zb : b < wr.heap.size := World.block_lt_of_cell? _ _ hu2
      have hlt' : (j : Int) < rs.length := by omega
      have hle := last_eq j rs.length hpos
      have hck := checkRow_any pe (EH.out.stays hB) hO2 (by omega) many (decide (j + 1 = rs.length))
      obtain ⟨a1, k1, rfl, _, _⟩ := hO.sh
      by_cases hbad : rowE many (decide (j + 1 = rs.length)) row ≠ 0
      · have HF : Hid (P = (rowE many (decide (j + 1 = rs.length)) row, (j : Int))) := by
          show _ = _; rw [← HP.out]; exact planF_bad hm.out HL2.out hrow HN.out hbad
        have HNZ : Hid (rowE many (decide (j + 1 = rs.length)) row ≠ 0) := hbad
        have HVV : Hid (erV pe (rowE many (decide (j + 1 = rs.length)) row) = .iface 332 (.pointer (some (pe (rowE many (decide (j + 1 = rs.length)) row).toNat)))) := erV_some hbad
        rw [HVV.out] at hck
        clear hrow hu hO hO2 hB HN HH hbad HP EH
        generalize rowE many (decide (j + 1 = rs.length)) row = er at *
        generalize decide (j + 1 = rs.length) = lb at *
        go_wp2_with fail
        refine hck.mono ?_
        rintro e w1 ⟨rfl, hb1⟩
        have HB1 : Hid (Below w.heap.size w w1) := HBW.out.trans (hb1.mono HBW.out.size)
        have hs1 := HB1.out.size
        clear hck hb1 hu2 zb d1 d2 HBW
        go_wp2
        go_ret
        refine ⟨⟨_, rfl, .inr ⟨by rw [HF.out]; show (0 : Int) ≤ j; omega, by rw [HF.out]; exact HNZ.out, w1.heap.size, rfl, by rw [HF.out]; simp, by rw [HF.out]; show _ = some (erV pe er); rw [HVV.out]; simp⟩⟩, HB1.out.alloc (by omega) _⟩
      · have hgood : rowE many (decide (j + 1 = rs.length)) row = 0 := by simpa using hbad
        have HN2 : Hid (∀ k q, k < j + 1 → rs[k]? = some q → rowE many (decide (k + 1 = rs.length)) q = 0) := by
          intro k q hk hq
          by_cases hkj : k = j
          · subst hkj
            rw [hrow] at hq
            obtain rfl := Option.some.inj hq
            exact hgood
          · exact HN.out k q (by omega) hq
        rw [hgood, show erV pe 0 = .nilIface from rfl] at hck
        clear hrow hu hO hO2 hB HN hbad hgood
        generalize decide (j + 1 = rs.length) = lb at *
        go_wp2_with fail
        refine hck.mono ?_
        rintro e w1 ⟨rfl, hb1⟩
        have HB1 : Hid (Below V.heap.size V w1) := HB.out.trans (hb1.mono hsz)
        clear hck hb1 hu2 zb d1 d2 HBW hle
        go_wp2
        go_roundw
        case rel => exact ⟨j + 1, by omega, by go_num, HN2.out, HB1.out⟩
        case measure => simp [intOf]; omega
    · obtain rfl : j = rs.length := by omega
      have HF : Hid (P = if 8 < strR rs then (8, -1) else (0, -1)) := by
        show _ = _; rw [← HP.out]
        exact planF_good hm.out HL2.out HNE.out fun k q hq => HN.out k q (List.getElem?_eq_some_iff.1 hq).1 hq
      have hst := storesR_any (RH.out.stays hB) FH.out
      have hsb := strR_le FH.out.2
      clear hB HN HH HP
      generalize strR rs = st at *
      go_wp2_with fail
      refine hst.mono ?_
      rintro e w1 ⟨rfl, hb1⟩
      have HB1 : Hid (Below w.heap.size w w1) := HBW.out.trans (hb1.mono HBW.out.size)
      obtain ⟨⟨e2, e3, e4, e8⟩, e7, _⟩ := EH.out.stays (HB.out.trans (hb1.mono hsz))
      have zz := World.block_lt_of_cell? _ _ e8
      clear hst hb1 d1 d2 HBW HB
      by_cases h8 : 8 < st
      · have h8' : (8 : Int) < st := by omega
        have HF2 : Hid (P = (8, -1)) := by show _ = _; rw [HF.out, if_pos h8]
        clear HF
        go_wp2
        go_ret
        exact ⟨⟨_, rfl, .inl ⟨by rw [HF2.out], by rw [HF2.out]; rfl⟩⟩, HB1.out⟩
      · have h8' : ¬ (8 : Int) < st := by omega
        have HF2 : Hid (P = (0, -1)) := by show _ = _; rw [HF.out, if_neg h8]
        clear HF
        go_wp2
        go_ret
        exact ⟨⟨_, rfl, .inl ⟨by rw [HF2.out], by rw [HF2.out]; rfl⟩⟩, HB1.out⟩
end Go.Proofs.YtflagpkmebdckaaGreatDoor
