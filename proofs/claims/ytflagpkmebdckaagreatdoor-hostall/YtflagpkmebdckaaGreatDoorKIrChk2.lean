/-
  Package ir: storesOf, checkOp.
-/
import Derived.Test.YtflagpkmebdckaaGreatDoorKIrChk
import Derived.Test.YtflagpkmebdckaaGreatDoorKOptPure
namespace Go.Proofs.YtflagpkmebdckaaGreatDoor
open Go.RowKit Go.Maps
open Num
set_option linter.unusedVariables false
/-- six cells of an op -/
theorem op_cells {w : World} {b off i : Nat} {o : Opx} (h : ∀ (j : Nat) (u : Value), (opC o)[j]? = some u → w.cell? ⟨b, off + i * 6 + j, none⟩ = some u) :
    w.cell? ⟨b, off + i * 6, none⟩ = some (.string o.s) ∧ w.cell? ⟨b, off + i * 6 + 1, none⟩ = some (.int .i64 o.d) ∧ w.cell? ⟨b, off + i * 6 + 2, none⟩ = some (.int .i64 o.a) ∧ w.cell? ⟨b, off + i * 6 + 3, none⟩ = some (.int .i64 o.b) ∧ w.cell? ⟨b, off + i * 6 + 4, none⟩ = some (.int .u32 o.i) ∧ w.cell? ⟨b, off + i * 6 + 5, none⟩ = some (.int .i64 o.t) :=
  ⟨h 0 _ rfl, h 1 _ rfl, h 2 _ rfl, h 3 _ rfl, h 4 _ rfl, h 5 _ rfl⟩
theorem take_snoc' {α : Type} {l : List α} {j : Nat} {o : α} (h : l[j]? = some o) : l.take (j + 1) = l.take j ++ [o] := by
  rw [List.take_add_one, h]; rfl
set_option maxRecDepth 100000 in
set_option maxHeartbeats 2000000 in
theorem storesOf_any {w : World} {v : Value} {l : List Opx} (A : OpsIn w v l) (hl : (l.length : Int) ≤ 1000000) :
    Calls Tryz.prog 129 #[v] w fun e w' => e = .returned (.int .i64 (strs l)) ∧ Below w.heap.size w w' := by
  obtain ⟨ao, cap, rfl, hc, hh⟩ := A.sh
  have HH : Hid (0 < l.length → ∃ b off : Nat, ao = some ⟨b, off, none⟩ ∧ ∀ (i : Nat) (o : Opx), l[i]? = some o → ∀ (j : Nat) (u : Value), (opC o)[j]? = some u → w.cell? ⟨b, off + i * 6 + j, none⟩ = some u) := hh
  clear hh A
  go_enter Tryz.func129, Tryz.ntmps129
  go_wp2
  go_loopw [3, 8] (fun n i wr => ∃ j : Nat, j ≤ l.length ∧ i = .int .i64 j ∧ n = .int .i64 (strs (l.take j)) ∧ Below w.heap.size w wr) (fun _ i _ => l.length - (intOf i).toNat)
  case atStart => exact ⟨0, Nat.zero_le _, rfl, rfl, Below.refl _ _⟩
  case round =>
    obtain ⟨j, hj, rfl, rfl, hB⟩ := hrel
    by_cases hlt : j < l.length
    · have ho : l[j]? = some l[j] := List.getElem?_eq_getElem hlt
      obtain ⟨b, off, rfl, hcell⟩ := HH.out (by omega)
      obtain ⟨x0, x1, x2, x3, x4, x5⟩ := op_cells (w := wr) (fun k u hk => by rw [hB.cell (World.block_lt_of_cell? _ _ (hcell j _ ho k u hk))]; exact hcell j _ ho k u hk)
      have hk := kn_eq l[j].s 24 (by omega) (by omega)
      have HS : Hid (strs (l.take (j + 1)) = strs (l.take j) + (if l[j].k = 24 then 1 else 0)) := by
        show _ = _; rw [take_snoc' ho, strs_snoc]
      have hb := strs_le (l.take j)
      have hb2 : (l.take j).length ≤ j := List.length_take_le _ _
      have hlt' : (j : Int) < l.length := by omega
      clear ho hcell
      generalize l[j] = o at *
      by_cases h24 : kn o.s = 24
      · have hk' : (o.s.toList == [115, 116, 111, 114, 101]) = true := by rw [show (o.s.toList == [115, 116, 111, 114, 101]) = _ from hk]; simpa using h24
        clear hk
        go_wp2
        go_roundw
        case rel => exact ⟨j + 1, by omega, by go_num, by rw [HS.out, if_pos h24]; go_num, hB.alloc (by have := hB.size; omega) _⟩
        case measure => simp [intOf]; omega
      · have hk' : (o.s.toList == [115, 116, 111, 114, 101]) = false := by rw [show (o.s.toList == [115, 116, 111, 114, 101]) = _ from hk]; simpa using h24
        clear hk
        go_wp2
        go_roundw
        case rel => exact ⟨j + 1, by omega, by go_num, by rw [HS.out, if_neg h24]; go_num, hB.alloc (by have := hB.size; omega) _⟩
        case measure => simp [intOf]; omega
    · obtain rfl : j = l.length := by omega
      go_wp2
      go_ret
      exact ⟨by rw [List.take_length]; rfl, hB⟩
theorem opE_shape {o : Opx} {many rd ra rb : Int} {ri : Bool} (hk : ¬ kn o.s = 0) (hb : bndB o many = true) (e1 : (rD (kn o.s) : Int) = rd) (e2 : (rA (kn o.s) : Int) = ra) (e3 : (rB (kn o.s) : Int) = rb) (e4 : rI (kn o.s) = ri)
    (h : rd = 0 ∧ ¬ o.d = 0 ∨ ra = 0 ∧ ¬ o.a = 0 ∨ rb = 0 ∧ ¬ o.b = 0 ∨ ri = false ∧ ¬ o.i = 0) : opE o many = 3 := by
  have : shpB o = false := by
    unfold shpB Opx.k
    rcases h with ⟨h1, h2⟩ | ⟨h1, h2⟩ | ⟨h1, h2⟩ | ⟨h1, h2⟩
    · have : rD (kn o.s) = 0 := by omega
      simp [this, h2]
    · have : rA (kn o.s) = 0 := by omega
      simp [this, h2]
    · have : rB (kn o.s) = 0 := by omega
      simp [this, h2]
    · rw [e4, h1]; simp [h2]
  unfold opE Opx.k; rw [if_neg hk, if_neg (by rw [hb]; simp), if_pos this]
theorem opE_fine {o : Opx} {many rd ra rb : Int} {ri : Bool} (hk : ¬ kn o.s = 0) (hb : bndB o many = true) (e1 : (rD (kn o.s) : Int) = rd) (e2 : (rA (kn o.s) : Int) = ra) (e3 : (rB (kn o.s) : Int) = rb) (e4 : rI (kn o.s) = ri)
    (h1 : rd ≠ 0 ∨ o.d = 0) (h2 : ra ≠ 0 ∨ o.a = 0) (h3 : rb ≠ 0 ∨ o.b = 0) (h4 : ri = true ∨ o.i = 0) : opE o many = 0 := by
  have : shpB o = true := by
    unfold shpB Opx.k
    have h1' : (decide (rD (kn o.s) ≠ 0) || decide (o.d = 0)) = true := by simp; omega
    have h2' : (decide (rA (kn o.s) ≠ 0) || decide (o.a = 0)) = true := by simp; omega
    have h3' : (decide (rB (kn o.s) ≠ 0) || decide (o.b = 0)) = true := by simp; omega
    have h4' : (rI (kn o.s) || decide (o.i = 0)) = true := by rw [e4]; simpa using h4
    rw [h1', h2', h3', h4']; rfl
  unfold opE Opx.k; rw [if_neg hk, if_neg (by rw [hb]; simp), if_neg (by rw [this]; simp)]
theorem role_le (k : Nat) : rD k ≤ 4 ∧ rA k ≤ 4 ∧ rB k ≤ 4 := by
  unfold rD rA rB
  refine ⟨?_, ?_, ?_⟩ <;> (split <;> (try split) <;> omega)
theorem bcell6 {w w1 : World} {c : Array Value} {t : TypeId} (hb : Below (w.alloc (.cells c t)).heap.size (w.alloc (.cells c t)) w1) : (∀ o, w1.cell? ⟨w.heap.size, o, none⟩ = (w.alloc (.cells c t)).cell? ⟨w.heap.size, o, none⟩) ∧ (∀ o, w1.frozen? ⟨w.heap.size, o, none⟩ = (w.alloc (.cells c t)).frozen? ⟨w.heap.size, o, none⟩) :=
  ⟨fun o => hb.cell (p := ⟨w.heap.size, o, none⟩) (by simp), fun o => hb.frozen (p := ⟨w.heap.size, o, none⟩) (by simp)⟩
set_option maxRecDepth 100000 in
set_option maxHeartbeats 4000000 in
theorem checkOp_any (pe : Nat → Addr) {w : World} (E : Eg pe w) (o : Opx) (ok : o.ok) (many : Int) :
    Calls Tryz.prog 131 #[opV o, .int .i64 many] w fun e w' => e = .returned (erV pe (opE o many)) ∧ Below w.heap.size w w' := by
  obtain ⟨z2, z3, z4, _⟩ := E.size
  obtain ⟨e2, e3, e4, _⟩ := E
  unfold opV
  have hsh := fun w => shapeOf_any o.s w
  by_cases hk : kn o.s = 0
  · have HE : Hid (opE o many = 4) := by show _ = _; unfold opE Opx.k; rw [if_pos hk]
    have hsh : ∀ w, Calls Tryz.prog 196 #[.string o.s] w fun e w' => e = .returned (.tuple #[.agg #[.int .i64 0, .int .i64 0, .int .i64 0, .bool false], .bool false]) ∧ Below w.heap.size w w' := by
      intro w; have := hsh w; rw [hk] at this; exact this
    go_enter Tryz.func131, Tryz.ntmps131
    go_wp2_with fail
    refine (hsh _).mono ?_
    rintro e w1 ⟨rfl, hb1⟩
    have q4 : w1.cell? ⟨5, 0, none⟩ = _ := (hb1.cell (p := ⟨5, 0, none⟩) (by simp <;> omega)).trans ((World.grownBy_alloc w _ none).cell e4 (by simp))
    have hz1 : w.heap.size + 1 ≤ w1.heap.size := by have := hb1.size; simpa using this
    have y4 : 5 < w1.heap.size := by omega
    clear hsh e2 e3 e4
    go_wp2
    go_ret
    refine ⟨by rw [HE.out]; rfl, ?_⟩
    exact (((Below.refl _ _).alloc (Nat.le_refl _) _).trans (hb1.mono (by simp))).alloc (by omega) _
  · have hR := role_le (kn o.s)
    have hsh : ∀ w, Calls Tryz.prog 196 #[.string o.s] w fun e w' => e = .returned (.tuple #[.agg #[.int .i64 (rD (kn o.s)), .int .i64 (rA (kn o.s)), .int .i64 (rB (kn o.s)), .bool (rI (kn o.s))], .bool true]) ∧ Below w.heap.size w w' := by
      intro w; have := hsh w; unfold shpV at this; rw [show decide (kn o.s ≠ 0) = true by simpa using hk] at this; exact this
    have a1 := fun w => allows_any (rD (kn o.s)) hR.1 o.d w
    have a2 := fun w => allows_any (rA (kn o.s)) hR.2.1 o.a w
    have a3 := fun w => allows_any (rB (kn o.s)) hR.2.2 o.b w
    have HS := @opE_shape o many
    have HF := @opE_fine o many
    have HB : Hid (bndB o many = false → opE o many = 2) := by
      intro h; unfold opE Opx.k; rw [if_neg hk, if_pos h]
    have HD : Hid (bndB o many = (alw (rD (kn o.s)) o.d && alw (rA (kn o.s)) o.a && alw (rB (kn o.s)) o.b && decide (0 ≤ o.t) && decide (o.t < many))) := rfl
    clear hR
    generalize hrd : (rD (kn o.s) : Int) = rd at *
    generalize hra : (rA (kn o.s) : Int) = ra at *
    generalize hrb : (rB (kn o.s) : Int) = rb at *
    generalize hri : rI (kn o.s) = ri at *
    have HS := fun h => @HS rd ra rb ri hk h rfl rfl rfl rfl
    have HF := fun h => @HF rd ra rb ri hk h rfl rfl rfl rfl
    have a1 : ∀ w, Calls Tryz.prog 197 #[.int .i64 rd, .int .i64 o.d] w fun e w' => e = .returned (.bool (alw (rD (kn o.s)) o.d)) ∧ w' = w := a1
    generalize hx1 : alw (rD (kn o.s)) o.d = x1 at *
    generalize hx2 : alw (rA (kn o.s)) o.a = x2 at *
    generalize hx3 : alw (rB (kn o.s)) o.b = x3 at *
    clear hrd hra hrb hri hx1 hx2 hx3
    cases x1 with
    | false =>
      go_enter Tryz.func131, Tryz.ntmps131
      go_wp2_with fail
      refine (hsh _).mono ?_
      rintro e w1 ⟨rfl, hb1⟩
      have hz1 : w.heap.size + 1 ≤ w1.heap.size := by have := hb1.size; simpa using this
      have q2 : w1.cell? ⟨0, 0, none⟩ = _ := (hb1.cell (p := ⟨0, 0, none⟩) (by simp <;> omega)).trans ((World.grownBy_alloc w _ none).cell e2 (by simp))
      have q3 : w1.cell? ⟨1, 0, none⟩ = _ := (hb1.cell (p := ⟨1, 0, none⟩) (by simp <;> omega)).trans ((World.grownBy_alloc w _ none).cell e3 (by simp))
      have y2 : 0 < w1.heap.size := by omega
      have y3 : 1 < w1.heap.size := by omega
      obtain ⟨c, hf⟩ := bcell6 hb1
      have HZ : Hid (Below w.heap.size w w1) := ((Below.refl _ _).alloc (Nat.le_refl _) _).trans (hb1.mono (by simp))
      have y0 : w.heap.size < w1.heap.size := by omega
      clear hsh e2 e3 e4 hb1
      go_wp2_with fail
      refine (a1 _).mono ?_
      rintro e w' ⟨rfl, rfl⟩
      go_wp2
      go_ret
      exact ⟨by rw [HB.out (by rw [HD.out]; simp)]; rfl, HZ.out.alloc (by omega) _⟩
    | true =>
      cases x2 with
      | false =>
        go_enter Tryz.func131, Tryz.ntmps131
        go_wp2_with fail
        refine (hsh _).mono ?_
        rintro e w1 ⟨rfl, hb1⟩
        have hz1 : w.heap.size + 1 ≤ w1.heap.size := by have := hb1.size; simpa using this
        have q2 : w1.cell? ⟨0, 0, none⟩ = _ := (hb1.cell (p := ⟨0, 0, none⟩) (by simp <;> omega)).trans ((World.grownBy_alloc w _ none).cell e2 (by simp))
        have q3 : w1.cell? ⟨1, 0, none⟩ = _ := (hb1.cell (p := ⟨1, 0, none⟩) (by simp <;> omega)).trans ((World.grownBy_alloc w _ none).cell e3 (by simp))
        have y2 : 0 < w1.heap.size := by omega
        have y3 : 1 < w1.heap.size := by omega
        obtain ⟨c, hf⟩ := bcell6 hb1
        have HZ : Hid (Below w.heap.size w w1) := ((Below.refl _ _).alloc (Nat.le_refl _) _).trans (hb1.mono (by simp))
        have y0 : w.heap.size < w1.heap.size := by omega
        clear hsh e2 e3 e4 hb1
        go_wp2_with fail
        refine (a1 _).mono ?_
        rintro e w' ⟨rfl, rfl⟩
        go_wp2_with fail
        refine (a2 _).mono ?_
        rintro e w' ⟨rfl, rfl⟩
        go_wp2
        go_ret
        exact ⟨by rw [HB.out (by rw [HD.out]; simp)]; rfl, HZ.out.alloc (by omega) _⟩
      | true =>
        cases x3 with
        | false =>
          go_enter Tryz.func131, Tryz.ntmps131
          go_wp2_with fail
          refine (hsh _).mono ?_
          rintro e w1 ⟨rfl, hb1⟩
          have hz1 : w.heap.size + 1 ≤ w1.heap.size := by have := hb1.size; simpa using this
          have q2 : w1.cell? ⟨0, 0, none⟩ = _ := (hb1.cell (p := ⟨0, 0, none⟩) (by simp <;> omega)).trans ((World.grownBy_alloc w _ none).cell e2 (by simp))
          have q3 : w1.cell? ⟨1, 0, none⟩ = _ := (hb1.cell (p := ⟨1, 0, none⟩) (by simp <;> omega)).trans ((World.grownBy_alloc w _ none).cell e3 (by simp))
          have y2 : 0 < w1.heap.size := by omega
          have y3 : 1 < w1.heap.size := by omega
          obtain ⟨c, hf⟩ := bcell6 hb1
          have HZ : Hid (Below w.heap.size w w1) := ((Below.refl _ _).alloc (Nat.le_refl _) _).trans (hb1.mono (by simp))
          have y0 : w.heap.size < w1.heap.size := by omega
          clear hsh e2 e3 e4 hb1
          go_wp2_with fail
          refine (a1 _).mono ?_
          rintro e w' ⟨rfl, rfl⟩
          go_wp2_with fail
          refine (a2 _).mono ?_
          rintro e w' ⟨rfl, rfl⟩
          go_wp2_with fail
          refine (a3 _).mono ?_
          rintro e w' ⟨rfl, rfl⟩
          go_wp2
          go_ret
          exact ⟨by rw [HB.out (by rw [HD.out]; simp)]; rfl, HZ.out.alloc (by omega) _⟩
        | true =>
          by_cases ht0 : 0 ≤ o.t
          · by_cases ht1 : o.t < many
            · have HW : bndB o many = true := by rw [HD.out]; simp [ht0, ht1]
              have HS : Hid (_) := HS HW
              have HF : Hid (_) := HF HW
              clear HW
              go_enter Tryz.func131, Tryz.ntmps131
              go_wp2_with fail
              refine (hsh _).mono ?_
              rintro e w1 ⟨rfl, hb1⟩
              have hz1 : w.heap.size + 1 ≤ w1.heap.size := by have := hb1.size; simpa using this
              have q2 : w1.cell? ⟨0, 0, none⟩ = _ := (hb1.cell (p := ⟨0, 0, none⟩) (by simp <;> omega)).trans ((World.grownBy_alloc w _ none).cell e2 (by simp))
              have q3 : w1.cell? ⟨1, 0, none⟩ = _ := (hb1.cell (p := ⟨1, 0, none⟩) (by simp <;> omega)).trans ((World.grownBy_alloc w _ none).cell e3 (by simp))
              have y2 : 0 < w1.heap.size := by omega
              have y3 : 1 < w1.heap.size := by omega
              obtain ⟨c, hf⟩ := bcell6 hb1
              have HZ : Hid (Below w.heap.size w w1) := ((Below.refl _ _).alloc (Nat.le_refl _) _).trans (hb1.mono (by simp))
              have y0 : w.heap.size < w1.heap.size := by omega
              clear hsh e2 e3 e4 hb1
              go_wp2_with fail
              refine (a1 _).mono ?_
              rintro e w' ⟨rfl, rfl⟩
              go_wp2_with fail
              refine (a2 _).mono ?_
              rintro e w' ⟨rfl, rfl⟩
              go_wp2_with fail
              refine (a3 _).mono ?_
              rintro e w' ⟨rfl, rfl⟩
              go_wp2
              all_goals
                go_ret
                refine ⟨?_, HZ.out.alloc (by omega) _⟩
                first
                | (rw [HS.out (by simp_all)]; rfl)
                | (rw [HF.out (by simp_all) (by simp_all) (by simp_all) (by simp_all)]; rfl)
            · go_enter Tryz.func131, Tryz.ntmps131
              go_wp2_with fail
              refine (hsh _).mono ?_
              rintro e w1 ⟨rfl, hb1⟩
              have hz1 : w.heap.size + 1 ≤ w1.heap.size := by have := hb1.size; simpa using this
              have q2 : w1.cell? ⟨0, 0, none⟩ = _ := (hb1.cell (p := ⟨0, 0, none⟩) (by simp <;> omega)).trans ((World.grownBy_alloc w _ none).cell e2 (by simp))
              have q3 : w1.cell? ⟨1, 0, none⟩ = _ := (hb1.cell (p := ⟨1, 0, none⟩) (by simp <;> omega)).trans ((World.grownBy_alloc w _ none).cell e3 (by simp))
              have y2 : 0 < w1.heap.size := by omega
              have y3 : 1 < w1.heap.size := by omega
              obtain ⟨c, hf⟩ := bcell6 hb1
              have HZ : Hid (Below w.heap.size w w1) := ((Below.refl _ _).alloc (Nat.le_refl _) _).trans (hb1.mono (by simp))
              have y0 : w.heap.size < w1.heap.size := by omega
              clear hsh e2 e3 e4 hb1
              go_wp2_with fail
              refine (a1 _).mono ?_
              rintro e w' ⟨rfl, rfl⟩
              go_wp2_with fail
              refine (a2 _).mono ?_
              rintro e w' ⟨rfl, rfl⟩
              go_wp2_with fail
              refine (a3 _).mono ?_
              rintro e w' ⟨rfl, rfl⟩
              go_wp2
              go_ret
              exact ⟨by rw [HB.out (by rw [HD.out]; simp; omega)]; rfl, HZ.out.alloc (by omega) _⟩
          · go_enter Tryz.func131, Tryz.ntmps131
            go_wp2_with fail
            refine (hsh _).mono ?_
            rintro e w1 ⟨rfl, hb1⟩
            have hz1 : w.heap.size + 1 ≤ w1.heap.size := by have := hb1.size; simpa using this
            have q2 : w1.cell? ⟨0, 0, none⟩ = _ := (hb1.cell (p := ⟨0, 0, none⟩) (by simp <;> omega)).trans ((World.grownBy_alloc w _ none).cell e2 (by simp))
            have q3 : w1.cell? ⟨1, 0, none⟩ = _ := (hb1.cell (p := ⟨1, 0, none⟩) (by simp <;> omega)).trans ((World.grownBy_alloc w _ none).cell e3 (by simp))
            have y2 : 0 < w1.heap.size := by omega
            have y3 : 1 < w1.heap.size := by omega
            obtain ⟨c, hf⟩ := bcell6 hb1
            have HZ : Hid (Below w.heap.size w w1) := ((Below.refl _ _).alloc (Nat.le_refl _) _).trans (hb1.mono (by simp))
            have y0 : w.heap.size < w1.heap.size := by omega
            clear hsh e2 e3 e4 hb1
            go_wp2_with fail
            refine (a1 _).mono ?_
            rintro e w' ⟨rfl, rfl⟩
            go_wp2_with fail
            refine (a2 _).mono ?_
            rintro e w' ⟨rfl, rfl⟩
            go_wp2_with fail
            refine (a3 _).mono ?_
            rintro e w' ⟨rfl, rfl⟩
            go_wp2
            go_ret
            exact ⟨by rw [HB.out (by rw [HD.out]; simp; omega)]; rfl, HZ.out.alloc (by omega) _⟩
end Go.Proofs.YtflagpkmebdckaaGreatDoor
/-
  Package ir: Check.
-/
namespace Go.Proofs.YtflagpkmebdckaaGreatDoor
open Go.RowKit Go.Maps
open Num
set_option linter.unusedVariables false
/-- an error that is handed back: bare, or with a place -/
def CErr (pe : Nat → Addr) (w : World) (f : Int × Int) (v : Value) : Prop :=
  (f.2 = -1 ∧ v = erV pe f.1) ∨ (0 ≤ f.2 ∧ f.1 ≠ 0 ∧ ∃ fb : Nat, v = .iface 202 (.pointer (some ⟨fb, 0, none⟩)) ∧ w.cell? ⟨fb, 0, none⟩ = some (.int .i64 f.2) ∧ w.cell? ⟨fb, 1, none⟩ = some (erV pe f.1))
theorem erV_some {pe : Nat → Addr} {n : Int} (h : n ≠ 0) : erV pe n = .iface 332 (.pointer (some (pe n.toNat))) := by unfold erV; rw [if_neg h]
theorem checkOp_bad (pe : Nat → Addr) {w : World} (E : Eg pe w) (o : Opx) (ok : o.ok) (many : Int) (h : opE o many ≠ 0) :
    Calls Tryz.prog 131 #[opV o, .int .i64 many] w fun e w' => e = .returned (.iface 332 (.pointer (some (pe (opE o many).toNat)))) ∧ Below w.heap.size w w' := by
  have := checkOp_any pe E o ok many
  rw [erV_some h] at this
  exact this
theorem checkOp_ok (pe : Nat → Addr) {w : World} (E : Eg pe w) (o : Opx) (ok : o.ok) (many : Int) (h : opE o many = 0) :
    Calls Tryz.prog 131 #[opV o, .int .i64 many] w fun e w' => e = .returned .nilIface ∧ Below w.heap.size w w' := by
  have := checkOp_any pe E o ok many
  rw [h] at this
  exact this
theorem opsF_cons (many ah : Int) (n : Nat) (o : Opx) (l : List Opx) : opsF many ah n (o :: l) = if opF o many ah l.isEmpty ≠ 0 then (opF o many ah l.isEmpty, (n : Int)) else opsF many o.t (n + 1) l := rfl
set_option maxRecDepth 100000 in
set_option maxHeartbeats 1000000 in
theorem check_any (pe : Nat → Addr) {w : World} (E : Eg pe w) {v : Value} {l : List Opx} (A : OpsIn w v l) (hl : (l.length : Int) ≤ 1000000) (pc many : Int) (m0 : -9223372036854775808 ≤ many) (m1 : many ≤ 9223372036854775807) :
    Calls Tryz.prog 71 #[.agg #[.int .u32 pc, .int .i64 many, v]] w fun e w' => (∃ x, e = .returned x ∧ CErr pe w' (codeF many l) x) ∧ Below w.heap.size w w' := by
  have A0 := A
  obtain ⟨ao, cap, rfl, hc, hh⟩ := A.sh
  have hst : ∀ w', Below w.heap.size w w' → Calls Tryz.prog 129 #[.slice ao l.length cap] w' fun e w'' => e = .returned (.int .i64 (strs l)) ∧ Below w'.heap.size w' w'' := fun w' hb => storesOf_any (A.stays hb) hl
  have hE : ∀ w', Below w.heap.size w w' → Eg pe w' := fun w' hb => E.stays hb
  have HH : Hid (0 < l.length → ∃ b off : Nat, ao = some ⟨b, off, none⟩ ∧ ∀ (i : Nat) (o : Opx), l[i]? = some o → ∀ (j : Nat) (u : Value), (opC o)[j]? = some u → w.cell? ⟨b, off + i * 6 + j, none⟩ = some u) := hh
  have hOk : Hid (∀ o ∈ l, o.ok) := A.ok
  obtain ⟨z2, z3, z4, z8⟩ := E.size
  obtain ⟨e2, e3, e4, e8⟩ := E
  clear hh A A0
  by_cases hm1 : many < 1
  · have HF : Hid (codeF many l = (2, -1)) := by show _ = _; unfold codeF; rw [if_pos (Or.inl hm1)]
    clear hst hE HH
    go_enter Tryz.func71, Tryz.ntmps71
    go_wp2
    go_ret
    exact ⟨⟨_, rfl, .inl ⟨by rw [HF.out], by rw [HF.out]; rfl⟩⟩, (Below.refl _ _).alloc (Nat.le_refl _) _⟩
  by_cases hm2 : 24 < many
  · have HF : Hid (codeF many l = (2, -1)) := by show _ = _; unfold codeF; rw [if_pos (Or.inr hm2)]
    clear hst hE HH
    go_enter Tryz.func71, Tryz.ntmps71
    go_wp2
    go_ret
    exact ⟨⟨_, rfl, .inl ⟨by rw [HF.out], by rw [HF.out]; rfl⟩⟩, (Below.refl _ _).alloc (Nat.le_refl _) _⟩
  have hm : ¬ (many < 1 ∨ 24 < many) := by omega
  by_cases hl2 : 200 < l.length
  · have HF : Hid (codeF many l = (8, -1)) := by show _ = _; unfold codeF; rw [if_neg hm, if_pos (Or.inl hl2)]
    have hl2' : (200 : Int) < l.length := by omega
    clear hst hE HH hm
    go_enter Tryz.func71, Tryz.ntmps71
    go_wp2
    go_ret
    exact ⟨⟨_, rfl, .inl ⟨by rw [HF.out], by rw [HF.out]; rfl⟩⟩, (Below.refl _ _).alloc (Nat.le_refl _) _⟩
  have hl2' : ¬ (200 : Int) < l.length := by omega
  have hB0 : Below w.heap.size w (w.alloc (.cells #[.int .u32 pc, .int .i64 many, .slice ao l.length cap] 54)) := (Below.refl _ _).alloc (Nat.le_refl _) _
  by_cases hs8 : 8 < strs l
  · have HF : Hid (codeF many l = (8, -1)) := by show _ = _; unfold codeF; rw [if_neg hm, if_pos (Or.inr hs8)]
    have hs8' : (8 : Int) < strs l := by omega
    clear hE HH hm hl2
    go_enter Tryz.func71, Tryz.ntmps71
    go_wp2_with fail
    refine (hst _ hB0).mono ?_
    rintro e w1 ⟨rfl, hb1⟩
    have q8 : w1.cell? ⟨9, 0, none⟩ = _ := (hb1.cell (p := ⟨9, 0, none⟩) (by simp; omega)).trans ((World.grownBy_alloc w _ none).cell e8 (by simp))
    clear hst
    go_wp2
    go_ret
    exact ⟨⟨_, rfl, .inl ⟨by rw [HF.out], by rw [HF.out]; rfl⟩⟩, hB0.trans (hb1.mono (by simp))⟩
  have hs8' : ¬ (8 : Int) < strs l := by omega
  have hn8 : ¬ (200 < l.length ∨ 8 < strs l) := by omega
  by_cases hnil : l = []
  · have HF : Hid (codeF many l = (3, -1)) := by show _ = _; unfold codeF; rw [if_neg hm, if_neg hn8, if_pos (Or.inl hnil)]
    have hlen : l.length = 0 := by rw [hnil]; rfl
    have hc0 : (l.length : Int) = 0 := by omega
    subst hnil
    clear hE HH hm hl2 hn8 hOk
    go_enter Tryz.func71, Tryz.ntmps71
    go_wp2_with fail
    refine (hst _ hB0).mono ?_
    rintro e w1 ⟨rfl, hb1⟩
    have q3 : w1.cell? ⟨1, 0, none⟩ = _ := (hb1.cell (p := ⟨1, 0, none⟩) (by simp <;> omega)).trans ((World.grownBy_alloc w _ none).cell e3 (by simp))
    obtain ⟨c, hf⟩ := bcell6 hb1
    clear hst
    go_wp2
    go_ret
    exact ⟨⟨_, rfl, .inl ⟨by rw [HF.out], by rw [HF.out]; rfl⟩⟩, hB0.trans (hb1.mono (by simp))⟩
  have hpos : 0 < l.length := List.length_pos_iff.2 hnil
  obtain ⟨b, off, rfl, hcell⟩ := HH.out hpos
  obtain ⟨lo, hlo, hlast⟩ : ∃ o, l[l.length - 1]? = some o ∧ l.getLast? = some o := by
    have h : l[l.length - 1]? = some l[l.length - 1] := List.getElem?_eq_getElem (by omega)
    exact ⟨_, h, by rw [List.getLast?_eq_getElem?]; exact h⟩
  have hbl : b < w.heap.size := World.block_lt_of_cell? _ _ (hcell _ _ hlo 0 _ rfl)
  have hlc : Hid (∀ w' : World, (∀ o, w'.cell? ⟨b, o, none⟩ = w.cell? ⟨b, o, none⟩) → ∀ (i : Nat) (o : Opx), l[i]? = some o → w'.cell? ⟨b, off + i * 6, none⟩ = some (.string o.s) ∧ w'.cell? ⟨b, off + i * 6 + 1, none⟩ = some (.int .i64 o.d) ∧ w'.cell? ⟨b, off + i * 6 + 2, none⟩ = some (.int .i64 o.a) ∧ w'.cell? ⟨b, off + i * 6 + 3, none⟩ = some (.int .i64 o.b) ∧ w'.cell? ⟨b, off + i * 6 + 4, none⟩ = some (.int .u32 o.i) ∧ w'.cell? ⟨b, off + i * 6 + 5, none⟩ = some (.int .i64 o.t)) := by
    intro w' hw i o hi
    exact op_cells fun k u hk => by rw [hw]; exact hcell i o hi k u hk
  clear hcell HH
  have hlen1 : ((l.length : Int) - 1).toNat = l.length - 1 := by omega
  have hpos' : ¬ (l.length : Int) - 1 < 0 := by omega
  have hpos2 : (l.length : Int) - 1 < l.length := by omega
  cases hob : outB lo with
  | false =>
    have HF : Hid (codeF many l = (3, -1)) := by show _ = _; unfold codeF; rw [if_neg hm, if_neg hn8, if_pos (Or.inr (by rw [hlast]; exact hob))]
    clear hE hm hl2 hn8 hOk
    go_enter Tryz.func71, Tryz.ntmps71
    go_wp2_with fail
    refine (hst _ hB0).mono ?_
    rintro e w1 ⟨rfl, hb1⟩
    have hz1 : w.heap.size < w1.heap.size := by have := hb1.size; simp at this; omega
    have q3 : w1.cell? ⟨1, 0, none⟩ = _ := (hb1.cell (p := ⟨1, 0, none⟩) (by simp <;> omega)).trans ((World.grownBy_alloc w _ none).cell e3 (by simp))
    obtain ⟨c, hf⟩ := bcell6 hb1
    obtain ⟨x0, x1, x2, x3, x4, x5⟩ := hlc.out w1 (fun o => (hb1.cell (p := ⟨b, o, none⟩) (by simp; omega)).trans (hB0.cell (p := ⟨b, o, none⟩) hbl)) _ _ hlo
    have HB1 : Hid (Below w.heap.size w w1) := hB0.trans (hb1.mono (by simp))
    have hio := fun w' => isOut_any lo w'
    rw [hob] at hio
    unfold opV at hio
    clear hst hlo hlast hlc hob hb1
    go_wp2_with fail
    refine (hio _).mono ?_
    rintro e w2 ⟨rfl, hb2⟩
    have q3' : w2.cell? ⟨1, 0, none⟩ = _ := (hb2.cell (p := ⟨1, 0, none⟩) (show 1 < w1.heap.size by omega)).trans q3
    go_wp2
    go_ret
    exact ⟨⟨_, rfl, .inl ⟨by rw [HF.out], by rw [HF.out]; rfl⟩⟩, HB1.out.trans (hb2.mono (by omega))⟩
  | true =>
    have HF : Hid (codeF many l = opsF many 0 0 l) := by
      show _ = _; unfold codeF; rw [if_neg hm, if_neg hn8, if_neg (by rw [hlast]; simp [hob, hnil])]
    go_enter Tryz.func71, Tryz.ntmps71
    go_wp2_with fail
    refine (hst _ hB0).mono ?_
    rintro e w1 ⟨rfl, hb1⟩
    have hz1 : w.heap.size < w1.heap.size := by have := hb1.size; simp at this; omega
    obtain ⟨c, hf⟩ := bcell6 hb1
    obtain ⟨x0, x1, x2, x3, x4, x5⟩ := hlc.out w1 (fun o => (hb1.cell (p := ⟨b, o, none⟩) (by simp; omega)).trans (hB0.cell (p := ⟨b, o, none⟩) hbl)) _ _ hlo
    have HB1 : Hid (Below w.heap.size w w1) := hB0.trans (hb1.mono (by simp))
    have hio := fun w' => isOut_any lo w'
    rw [hob] at hio
    unfold opV at hio
    clear hst hlo hlast hob hb1 hm hn8
    go_wp2_with fail
    refine (hio _).mono ?_
    rintro e w2 ⟨rfl, hb2⟩
    have HC : Hid (Below w.heap.size w w2) := HB1.out.trans (hb2.mono (by omega))
    have k1 : w2.cell? ⟨w.heap.size, 1, none⟩ = some (.int .i64 many) := by rw [hb2.cell (p := ⟨w.heap.size, 1, none⟩) hz1, c]; simp
    have k2 : w2.cell? ⟨w.heap.size, 2, none⟩ = some (.slice (some ⟨b, off, none⟩) l.length cap) := by rw [hb2.cell (p := ⟨w.heap.size, 2, none⟩) hz1, c]; simp
    have hz2 : w.heap.size < w2.heap.size := by have := hb2.size; omega
    clear hio x0 x1 x2 x3 x4 x5 c hf HB1 hb2
    go_wp2
    go_loopw [4, 50] (fun a i wr => ∃ (j : Nat) (ah : Int), j ≤ l.length ∧ i = .int .i64 j ∧ a = .int .i64 ah ∧ opsF many 0 0 l = opsF many ah j (l.drop j) ∧ Below w.heap.size w wr ∧ wr.cell? ⟨w.heap.size, 1, none⟩ = some (.int .i64 many)) (fun _ i _ => l.length - (intOf i).toNat)
    case atStart => exact ⟨0, 0, Nat.zero_le _, rfl, rfl, rfl, HC.out, k1⟩
    case round =>
      obtain ⟨j, ah, hj, rfl, rfl, hop, hB, g1⟩ := hrel
      have HO : Hid (opsF many 0 0 l = opsF many ah j (l.drop j)) := hop
      clear hop k1 k2 HC
      by_cases hlt : j < l.length
      · obtain ⟨o, ho, hd, hom⟩ : ∃ o, l[j]? = some o ∧ l.drop j = o :: l.drop (j + 1) ∧ o ∈ l := ⟨l[j], List.getElem?_eq_getElem hlt, List.drop_eq_getElem_cons hlt, List.getElem_mem hlt⟩
        have hem : (l.drop (j + 1)).isEmpty = decide (l.length ≤ j + 1) := by rw [Bool.eq_iff_iff, List.isEmpty_iff, List.drop_eq_nil_iff]; simp
        rw [hd] at HO
        have HO2 : Hid (opsF many 0 0 l = if opF o many ah (decide (l.length ≤ j + 1)) ≠ 0 then (opF o many ah (decide (l.length ≤ j + 1)), (j : Int)) else opsF many o.t (j + 1) (l.drop (j + 1))) := by
          show _ = _; rw [HO.out, opsF_cons, hem]
        have HX : Hid (codeF many l = if opF o many ah (decide (l.length ≤ j + 1)) ≠ 0 then (opF o many ah (decide (l.length ≤ j + 1)), (j : Int)) else opsF many o.t (j + 1) (l.drop (j + 1))) := HF.out.trans HO2.out
        clear HO hd hem
        have hoK : o.ok := hOk.out _ hom
        obtain ⟨x0, x1, x2, x3, x4, x5⟩ := hlc.out wr (fun o => hB.cell (p := ⟨b, o, none⟩) hbl) _ _ ho
        have hlt' : (j : Int) < l.length := by omega
        have hzr : w.heap.size < wr.heap.size := World.block_lt_of_cell? _ _ g1
        have hbr : b < wr.heap.size := by have := hB.size; omega
        have hEr := hE wr hB
        have HBr : Hid (Below w.heap.size w wr) := hB
        clear ho hB hE hlc hOk HF hom
        have hBa : Below wr.heap.size wr (wr.alloc (.cells #[.string o.s, .int .i64 o.d, .int .i64 o.a, .int .i64 o.b, .int .u32 o.i, .int .i64 o.t] 139)) := (Below.refl _ _).alloc (Nat.le_refl _) _
        have q3r : wr.cell? ⟨1, 0, none⟩ = _ := hEr.e3
        have zr3 : 1 < wr.heap.size := hEr.size.2.1
        by_cases hE0 : opE o many = 0
        · have hck := checkOp_ok pe (hEr.stays hBa) o hoK many hE0
          unfold opV at hck
          have hio := fun w' => isOut_any o w'
          unfold opV at hio
          go_wp2_with fail
          refine hck.mono ?_
          rintro e w3 ⟨rfl, hb3⟩
          obtain ⟨c, hf⟩ := bcell6 hb3
          have hz3 : wr.heap.size < w3.heap.size := by have := hb3.size; simp at this; omega
          have HB3 : Hid (Below wr.heap.size wr w3) := hBa.trans (hb3.mono (by simp))
          have q3 : w3.cell? ⟨1, 0, none⟩ = _ := (HB3.out.cell (p := ⟨1, 0, none⟩) zr3).trans q3r
          have hz3' : 1 < w3.heap.size := by omega
          have g3 : w3.cell? ⟨w.heap.size, 1, none⟩ = some (.int .i64 many) := (HB3.out.cell (p := ⟨w.heap.size, 1, none⟩) hzr).trans g1
          clear hck hb3
          by_cases hta : o.t < ah
          · have HE : Hid (opF o many ah (decide (l.length ≤ j + 1)) = 3) := by show _ = _; unfold opF; rw [if_neg (by simpa using hE0), if_pos (Or.inl hta)]
            clear hio
            go_wp2
            go_ret
            refine ⟨⟨_, rfl, .inr ?_⟩, HBr.out.trans ((HB3.out.alloc (by omega) _).mono (by omega))⟩
            rw [HX.out, HE.out]
            exact ⟨by simp, by simp, w3.heap.size, rfl, by simp, by simp [erV]⟩
          · cases hob : outB o with
            | false =>
              have HE : Hid (opF o many ah (decide (l.length ≤ j + 1)) = 0) := by show _ = _; unfold opF; rw [if_neg (by simpa using hE0), if_neg (by rw [hob]; simp; omega)]
              rw [hob] at hio
              go_wp2_with fail
              refine (hio _).mono ?_
              rintro e w4 ⟨rfl, hb4⟩
              have c4 : w4.cell? ⟨wr.heap.size, 5, none⟩ = some (.int .i64 o.t) := by rw [hb4.cell (p := ⟨wr.heap.size, 5, none⟩) hz3, c]; simp
              have HB4 : Hid (Below wr.heap.size wr w4) := HB3.out.trans (hb4.mono (by omega))
              clear hio c hf q3 g3
              go_wp2
              go_roundw
              case rel =>
                refine ⟨j + 1, o.t, by omega, by go_num, rfl, ?_, HBr.out.trans (HB4.out.mono (by omega)), (HB4.out.cell (p := ⟨w.heap.size, 1, none⟩) hzr).trans g1⟩
                rw [HO2.out, HE.out]; simp
              case measure => simp [intOf]; omega
            | true =>
              rw [hob] at hio
              by_cases hjl : j + 1 < l.length
              · have HE : Hid (opF o many ah (decide (l.length ≤ j + 1)) = 3) := by show _ = _; unfold opF; rw [if_neg (by simpa using hE0), if_pos (Or.inr ⟨hob, by simp; omega⟩)]
                have hjl' : (j : Int) < (l.length : Int) - 1 := by omega
                go_wp2_with fail
                refine (hio _).mono ?_
                rintro e w4 ⟨rfl, hb4⟩
                have q4 : w4.cell? ⟨1, 0, none⟩ = _ := (hb4.cell (p := ⟨1, 0, none⟩) hz3').trans q3
                have HB4 : Hid (Below wr.heap.size wr w4) := HB3.out.trans (hb4.mono (by omega))
                have hz4 : wr.heap.size ≤ w4.heap.size := HB4.out.size
                clear hio c hf q3 g3
                go_wp2
                go_ret
                refine ⟨⟨_, rfl, .inr ?_⟩, HBr.out.trans ((HB4.out.alloc (by omega) _).mono (by omega))⟩
                rw [HX.out, HE.out]
                exact ⟨by simp, by simp, w4.heap.size, rfl, by simp, by simp [erV]⟩
              · have HE : Hid (opF o many ah (decide (l.length ≤ j + 1)) = 0) := by show _ = _; unfold opF; rw [if_neg (by simpa using hE0), if_neg (by simp; omega)]
                have hjl' : ¬ (j : Int) < (l.length : Int) - 1 := by omega
                go_wp2_with fail
                refine (hio _).mono ?_
                rintro e w4 ⟨rfl, hb4⟩
                have c4 : w4.cell? ⟨wr.heap.size, 5, none⟩ = some (.int .i64 o.t) := by rw [hb4.cell (p := ⟨wr.heap.size, 5, none⟩) hz3, c]; simp
                have HB4 : Hid (Below wr.heap.size wr w4) := HB3.out.trans (hb4.mono (by omega))
                clear hio c hf q3 g3
                go_wp2
                go_roundw
                case rel =>
                  refine ⟨j + 1, o.t, by omega, by go_num, rfl, ?_, HBr.out.trans (HB4.out.mono (by omega)), (HB4.out.cell (p := ⟨w.heap.size, 1, none⟩) hzr).trans g1⟩
                  rw [HO2.out, HE.out]; simp
                case measure => simp [intOf]; omega
        · have hck := checkOp_bad pe (hEr.stays hBa) o hoK many hE0
          unfold opV at hck
          have HE : Hid (opF o many ah (decide (l.length ≤ j + 1)) = opE o many) := by show _ = _; unfold opF; rw [if_pos hE0]
          go_wp2_with fail
          refine hck.mono ?_
          rintro e w3 ⟨rfl, hb3⟩
          have HB3 : Hid (Below wr.heap.size wr w3) := hBa.trans (hb3.mono (by simp))
          have hz3 : wr.heap.size ≤ w3.heap.size := HB3.out.size
          clear hck hb3
          go_wp2
          go_ret
          refine ⟨⟨_, rfl, .inr ?_⟩, HBr.out.trans ((HB3.out.alloc (by omega) _).mono (by omega))⟩
          rw [HX.out, HE.out, if_pos hE0]
          exact ⟨by simp, hE0, w3.heap.size, rfl, by simp, by simp [erV, hE0]⟩
      · obtain rfl : j = l.length := by omega
        go_wp2
        go_ret
        refine ⟨⟨_, rfl, .inl ?_⟩, hB⟩
        rw [HF.out, HO.out]
        simp [opsF, erV]
end Go.Proofs.YtflagpkmebdckaaGreatDoor
/-
  The statements' own functions: OwnOps, LongOps.
-/
namespace Go.Proofs.YtflagpkmebdckaaGreatDoor
open Go.RowKit Go.Maps
open Num
set_option linter.unusedVariables false
theorem infoOp : (Tryz.prog.info? 139).map (fun i => (i.zero, i.size, i.bytes)) = some (some (.agg #[.string ⟨#[]⟩, .int .i64 0, .int .i64 0, .int .i64 0, .int .u32 0, .int .i64 0]), 6, 56) := by kernel_rfl
def opL (l : List Opx) : List Value := l.flatMap opC
theorem opL_len (l : List Opx) : (opL l).length = l.length * 6 := by
  induction l with
  | nil => rfl
  | cons q p ih => unfold opL at ih ⊢; rw [List.flatMap_cons, List.length_append, ih]; simp [opC]; omega
theorem opL_get : ∀ (p : List Opx) (j : Nat) (q : Opx) (i : Nat), p[j]? = some q → i < 6 → (opL p)[j * 6 + i]? = (opC q)[i]?
  | [], j, q, i, h, _ => by simp at h
  | r :: p, 0, q, i, h, hi => by
    simp at h; subst h
    show (opC r ++ opL p)[0 * 6 + i]? = _
    rw [List.getElem?_append_left (by simp [opC]; omega)]; simp
  | r :: p, j + 1, q, i, h, hi => by
    show (opC r ++ opL p)[(j + 1) * 6 + i]? = _
    rw [List.getElem?_append_right (by simp [opC]; omega), ← opL_get p j q i (by simpa using h) hi]
    congr 1; simp [opC]; omega
theorem opL_one (l : List Opx) : ∀ u ∈ opL l, u.oneCell' = true := by
  intro u hu
  obtain ⟨o, _, h⟩ := List.mem_flatMap.1 hu
  simp [opC] at h
  rcases h with rfl | rfl | rfl | rfl | rfl | rfl <;> rfl
theorem opL_at {w : World} {b off : Nat} {l : List Opx} (h : ∀ (i : Nat) (o : Opx), l[i]? = some o → ∀ (j : Nat) (u : Value), (opC o)[j]? = some u → w.cell? ⟨b, off + i * 6 + j, none⟩ = some u) : ∀ j u, (opL l)[j]? = some u → w.cell? ((⟨b, off, none⟩ : Addr).add j) = some u := by
  intro j u hj
  have hlt : j < l.length * 6 := by have := (List.getElem?_eq_some_iff.1 hj).1; rwa [opL_len] at this
  have hi : j / 6 < l.length := by omega
  have ho : l[j / 6]? = some l[j / 6] := List.getElem?_eq_getElem hi
  have := opL_get l (j / 6) _ (j % 6) ho (by omega)
  rw [show j / 6 * 6 + j % 6 = j by omega, hj] at this
  have hc := h _ _ ho _ _ this.symm
  have hadd : (⟨b, off, none⟩ : Addr).add j = ⟨b, off + j, none⟩ := by unfold Addr.add; split <;> simp_all
  rw [hadd, ← hc]; congr 2; omega
/-- a row of ops of one's own -/
theorem ops_of_row {w : World} {base n : Nat} {v : Value} {l : List Opx} (hr : w.ownsRow base 139 6 v l.length (opL l)) (ok : ∀ o ∈ l, o.ok) : OpsIn w v l := by
  rcases hr.2 with ⟨rfl, h⟩ | ⟨g, cap, cur, rfl, hg, hh, hn, _⟩
  · refine ⟨⟨none, 0, by rw [h], by omega, fun hp => by omega⟩, ok⟩
  · refine ⟨⟨_, cap, rfl, hn, fun hp => ⟨g, 0, rfl, fun i o ho j u hu => ?_⟩⟩, ok⟩
    have hj : j < 6 := by have := (List.getElem?_eq_some_iff.1 hu).1; simpa [opC] using this
    have := hr.cells (g := g) rfl (i * 6 + j) u (by rw [opL_get l i o j ho hj]; exact hu)
    rw [add_lit] at this
    rw [Nat.zero_add]; exact this
end Go.Proofs.YtflagpkmebdckaaGreatDoor
