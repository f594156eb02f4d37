/-
  Package ir: storesOf, checkOp.
-/
import Derived.Test.YtjkencgcdlfjhaaGreatDoorKIrChk
import Derived.Test.YtjkencgcdlfjhaaGreatDoorJApp
namespace Go.Proofs.YtjkencgcdlfjhaaGreatDoor
open Go.RowKit Go.Maps
open Num
set_option linter.unusedVariables false
/-- six cells of an op -/
theorem op_cells {w : World} {b off i : Nat} {o : Opx} (h : ∀ (j : Nat) (u : Value), (opC o)[j]? = some u → w.cell? ⟨b, off + i * 6 + j, none⟩ = some u) :
    w.cell? ⟨b, off + i * 6, none⟩ = some (.string o.s) ∧ w.cell? ⟨b, off + i * 6 + 1, none⟩ = some (.int .i64 o.d) ∧ w.cell? ⟨b, off + i * 6 + 2, none⟩ = some (.int .i64 o.a) ∧ w.cell? ⟨b, off + i * 6 + 3, none⟩ = some (.int .i64 o.b) ∧ w.cell? ⟨b, off + i * 6 + 4, none⟩ = some (.int .u32 o.i) ∧ w.cell? ⟨b, off + i * 6 + 5, none⟩ = some (.int .i64 o.t) :=
  ⟨h 0 _ rfl, h 1 _ rfl, h 2 _ rfl, h 3 _ rfl, h 4 _ rfl, h 5 _ rfl⟩
theorem take_snoc' {α : Type} {l : List α} {j : Nat} {o : α} (h : l[j]? = some o) : l.take (j + 1) = l.take j ++ [o] := by
  rw [List.take_add_one, h]; rfl
theorem opE_shape {o : Opx} {many rd ra rb : Int} {ri : Bool} (hk : ¬ kn o.s = 0) (hb : bndB o many = true) (e1 : (rD (kn o.s) : Int) = rd) (e2 : (rA (kn o.s) : Int) = ra) (e3 : (rB (kn o.s) : Int) = rb) (e4 : rI (kn o.s) = ri)
    (h : rd = 0 ∧ ¬ o.d = 0 ∨ ra = 0 ∧ ¬ o.a = 0 ∨ rb = 0 ∧ ¬ o.b = 0 ∨ ri = false ∧ ¬ o.i = 0) : opE o many = 3 := by
  have : shpB o = false := by
    unfold shpB Opx.k
    rcases h with ⟨h1, h2⟩ | ⟨h1, h2⟩ | ⟨h1, h2⟩ | ⟨h1, h2⟩
    · have : rD (kn o.s) = 0 := by omega
      simp [this, h2]
    · have : rA (kn o.s) = 0 := by omega
      simp [this, h2]
    · have : rB (kn o.s) = 0 := by omega
      simp [this, h2]
    · rw [e4, h1]; simp [h2]
  unfold opE Opx.k; rw [if_neg hk, if_neg (by rw [hb]; simp), if_pos this]
theorem opE_fine {o : Opx} {many rd ra rb : Int} {ri : Bool} (hk : ¬ kn o.s = 0) (hb : bndB o many = true) (e1 : (rD (kn o.s) : Int) = rd) (e2 : (rA (kn o.s) : Int) = ra) (e3 : (rB (kn o.s) : Int) = rb) (e4 : rI (kn o.s) = ri)
    (h1 : rd ≠ 0 ∨ o.d = 0) (h2 : ra ≠ 0 ∨ o.a = 0) (h3 : rb ≠ 0 ∨ o.b = 0) (h4 : ri = true ∨ o.i = 0) : opE o many = 0 := by
  have : shpB o = true := by
    unfold shpB Opx.k
    have h1' : (decide (rD (kn o.s) ≠ 0) || decide (o.d = 0)) = true := by simp; omega
    have h2' : (decide (rA (kn o.s) ≠ 0) || decide (o.a = 0)) = true := by simp; omega
    have h3' : (decide (rB (kn o.s) ≠ 0) || decide (o.b = 0)) = true := by simp; omega
    have h4' : (rI (kn o.s) || decide (o.i = 0)) = true := by rw [e4]; simpa using h4
    rw [h1', h2', h3', h4']; rfl
  unfold opE Opx.k; rw [if_neg hk, if_neg (by rw [hb]; simp), if_neg (by rw [this]; simp)]
theorem role_le (k : Nat) : rD k ≤ 4 ∧ rA k ≤ 4 ∧ rB k ≤ 4 := by
  unfold rD rA rB
  refine ⟨?_, ?_, ?_⟩ <;> (split <;> (try split) <;> omega)
theorem bcell6 {w w1 : World} {c : Array Value} {t : TypeId} (hb : Below (w.alloc (.cells c t)).heap.size (w.alloc (.cells c t)) w1) : (∀ o, w1.cell? ⟨w.heap.size, o, none⟩ = (w.alloc (.cells c t)).cell? ⟨w.heap.size, o, none⟩) ∧ (∀ o, w1.frozen? ⟨w.heap.size, o, none⟩ = (w.alloc (.cells c t)).frozen? ⟨w.heap.size, o, none⟩) :=
  ⟨fun o => hb.cell (p := ⟨w.heap.size, o, none⟩) (by simp), fun o => hb.frozen (p := ⟨w.heap.size, o, none⟩) (by simp)⟩
set_option maxRecDepth 100000 in
set_option maxHeartbeats 4000000 in
theorem checkOp_any (pe : Nat → Addr) {w : World} (E : Eg pe w) (o : Opx) (ok : o.ok) (many : Int) :
    Calls Tryz.prog 49 #[opV o, .int .i64 many] w fun e w' => e = .returned (erV pe (opE o many)) ∧ Below w.heap.size w w' := by
  obtain ⟨z2, z3, z4, _⟩ := E.size
  obtain ⟨e2, e3, e4, _⟩ := E
  unfold opV
  have hsh := fun w => shapeOf_any o.s w
  by_cases hk : kn o.s = 0
  · have HE : Hid (opE o many = 4) := by show _ = _; unfold opE Opx.k; rw [if_pos hk]
    have hsh : ∀ w, Calls Tryz.prog 87 #[.string o.s] w fun e w' => e = .returned (.tuple #[.agg #[.int .i64 0, .int .i64 0, .int .i64 0, .bool false], .bool false]) ∧ Below w.heap.size w w' := by
      intro w; have := hsh w; rw [hk] at this; exact this
    go_enter Tryz.func49, Tryz.ntmps49
    go_wp2_with fail
    refine (hsh _).mono ?_
    rintro e w1 ⟨rfl, hb1⟩
    have q4 : w1.cell? ⟨4, 0, none⟩ = _ := (hb1.cell (p := ⟨4, 0, none⟩) (by simp <;> omega)).trans ((World.grownBy_alloc w _ none).cell e4 (by simp))
    have hz1 : w.heap.size + 1 ≤ w1.heap.size := by have := hb1.size; simpa using this
    have y4 : 4 < w1.heap.size := by omega
    clear hsh e2 e3 e4
    go_wp2
    go_ret
    refine ⟨by rw [HE.out]; rfl, ?_⟩
    exact (((Below.refl _ _).alloc (Nat.le_refl _) _).trans (hb1.mono (by simp))).alloc (by omega) _
  · have hR := role_le (kn o.s)
    have hsh : ∀ w, Calls Tryz.prog 87 #[.string o.s] w fun e w' => e = .returned (.tuple #[.agg #[.int .i64 (rD (kn o.s)), .int .i64 (rA (kn o.s)), .int .i64 (rB (kn o.s)), .bool (rI (kn o.s))], .bool true]) ∧ Below w.heap.size w w' := by
      intro w; have := hsh w; unfold shpV at this; rw [show decide (kn o.s ≠ 0) = true by simpa using hk] at this; exact this
    have a1 := fun w => allows_any (rD (kn o.s)) hR.1 o.d w
    have a2 := fun w => allows_any (rA (kn o.s)) hR.2.1 o.a w
    have a3 := fun w => allows_any (rB (kn o.s)) hR.2.2 o.b w
    have HS := @opE_shape o many
    have HF := @opE_fine o many
    have HB : Hid (bndB o many = false → opE o many = 2) := by
      intro h; unfold opE Opx.k; rw [if_neg hk, if_pos h]
    have HD : Hid (bndB o many = (alw (rD (kn o.s)) o.d && alw (rA (kn o.s)) o.a && alw (rB (kn o.s)) o.b && decide (0 ≤ o.t) && decide (o.t < many))) := rfl
    clear hR
    generalize hrd : (rD (kn o.s) : Int) = rd at *
    generalize hra : (rA (kn o.s) : Int) = ra at *
    generalize hrb : (rB (kn o.s) : Int) = rb at *
    generalize hri : rI (kn o.s) = ri at *
    have HS := fun h => @HS rd ra rb ri hk h rfl rfl rfl rfl
    have HF := fun h => @HF rd ra rb ri hk h rfl rfl rfl rfl
    have a1 : ∀ w, Calls Tryz.prog 88 #[.int .i64 rd, .int .i64 o.d] w fun e w' => e = .returned (.bool (alw (rD (kn o.s)) o.d)) ∧ w' = w := a1
    generalize hx1 : alw (rD (kn o.s)) o.d = x1 at *
    generalize hx2 : alw (rA (kn o.s)) o.a = x2 at *
    generalize hx3 : alw (rB (kn o.s)) o.b = x3 at *
    clear hrd hra hrb hri hx1 hx2 hx3
    cases x1 with
    | false =>
      go_enter Tryz.func49, Tryz.ntmps49
      go_wp2_with fail
      refine (hsh _).mono ?_
      rintro e w1 ⟨rfl, hb1⟩
      have hz1 : w.heap.size + 1 ≤ w1.heap.size := by have := hb1.size; simpa using this
      have q2 : w1.cell? ⟨0, 0, none⟩ = _ := (hb1.cell (p := ⟨0, 0, none⟩) (by simp <;> omega)).trans ((World.grownBy_alloc w _ none).cell e2 (by simp))
      have q3 : w1.cell? ⟨2, 0, none⟩ = _ := (hb1.cell (p := ⟨2, 0, none⟩) (by simp <;> omega)).trans ((World.grownBy_alloc w _ none).cell e3 (by simp))
      have y2 : 0 < w1.heap.size := by omega
      have y3 : 2 < w1.heap.size := by omega
      obtain ⟨c, hf⟩ := bcell6 hb1
      have HZ : Hid (Below w.heap.size w w1) := ((Below.refl _ _).alloc (Nat.le_refl _) _).trans (hb1.mono (by simp))
      have y0 : w.heap.size < w1.heap.size := by omega
      clear hsh e2 e3 e4 hb1
      go_wp2_with fail
      refine (a1 _).mono ?_
      rintro e w' ⟨rfl, rfl⟩
      go_wp2
      go_ret
      exact ⟨by rw [HB.out (by rw [HD.out]; simp)]; rfl, HZ.out.alloc (by omega) _⟩
    | true =>
      cases x2 with
      | false =>
        go_enter Tryz.func49, Tryz.ntmps49
        go_wp2_with fail
        refine (hsh _).mono ?_
        rintro e w1 ⟨rfl, hb1⟩
        have hz1 : w.heap.size + 1 ≤ w1.heap.size := by have := hb1.size; simpa using this
        have q2 : w1.cell? ⟨0, 0, none⟩ = _ := (hb1.cell (p := ⟨0, 0, none⟩) (by simp <;> omega)).trans ((World.grownBy_alloc w _ none).cell e2 (by simp))
        have q3 : w1.cell? ⟨2, 0, none⟩ = _ := (hb1.cell (p := ⟨2, 0, none⟩) (by simp <;> omega)).trans ((World.grownBy_alloc w _ none).cell e3 (by simp))
        have y2 : 0 < w1.heap.size := by omega
        have y3 : 2 < w1.heap.size := by omega
        obtain ⟨c, hf⟩ := bcell6 hb1
        have HZ : Hid (Below w.heap.size w w1) := ((Below.refl _ _).alloc (Nat.le_refl _) _).trans (hb1.mono (by simp))
        have y0 : w.heap.size < w1.heap.size := by omega
        clear hsh e2 e3 e4 hb1
        go_wp2_with fail
        refine (a1 _).mono ?_
        rintro e w' ⟨rfl, rfl⟩
        go_wp2_with fail
        refine (a2 _).mono ?_
        rintro e w' ⟨rfl, rfl⟩
        go_wp2
        go_ret
        exact ⟨by rw [HB.out (by rw [HD.out]; simp)]; rfl, HZ.out.alloc (by omega) _⟩
      | true =>
        cases x3 with
        | false =>
          go_enter Tryz.func49, Tryz.ntmps49
          go_wp2_with fail
          refine (hsh _).mono ?_
          rintro e w1 ⟨rfl, hb1⟩
          have hz1 : w.heap.size + 1 ≤ w1.heap.size := by have := hb1.size; simpa using this
          have q2 : w1.cell? ⟨0, 0, none⟩ = _ := (hb1.cell (p := ⟨0, 0, none⟩) (by simp <;> omega)).trans ((World.grownBy_alloc w _ none).cell e2 (by simp))
          have q3 : w1.cell? ⟨2, 0, none⟩ = _ := (hb1.cell (p := ⟨2, 0, none⟩) (by simp <;> omega)).trans ((World.grownBy_alloc w _ none).cell e3 (by simp))
          have y2 : 0 < w1.heap.size := by omega
          have y3 : 2 < w1.heap.size := by omega
          obtain ⟨c, hf⟩ := bcell6 hb1
          have HZ : Hid (Below w.heap.size w w1) := ((Below.refl _ _).alloc (Nat.le_refl _) _).trans (hb1.mono (by simp))
          have y0 : w.heap.size < w1.heap.size := by omega
          clear hsh e2 e3 e4 hb1
          go_wp2_with fail
          refine (a1 _).mono ?_
          rintro e w' ⟨rfl, rfl⟩
          go_wp2_with fail
          refine (a2 _).mono ?_
          rintro e w' ⟨rfl, rfl⟩
          go_wp2_with fail
          refine (a3 _).mono ?_
          rintro e w' ⟨rfl, rfl⟩
          go_wp2
          go_ret
          exact ⟨by rw [HB.out (by rw [HD.out]; simp)]; rfl, HZ.out.alloc (by omega) _⟩
        | true =>
          by_cases ht0 : 0 ≤ o.t
          · by_cases ht1 : o.t < many
            · have HW : bndB o many = true := by rw [HD.out]; simp [ht0, ht1]
              have HS : Hid (_) := HS HW
              have HF : Hid (_) := HF HW
              clear HW
              go_enter Tryz.func49, Tryz.ntmps49
              go_wp2_with fail
              refine (hsh _).mono ?_
              rintro e w1 ⟨rfl, hb1⟩
              have hz1 : w.heap.size + 1 ≤ w1.heap.size := by have := hb1.size; simpa using this
              have q2 : w1.cell? ⟨0, 0, none⟩ = _ := (hb1.cell (p := ⟨0, 0, none⟩) (by simp <;> omega)).trans ((World.grownBy_alloc w _ none).cell e2 (by simp))
              have q3 : w1.cell? ⟨2, 0, none⟩ = _ := (hb1.cell (p := ⟨2, 0, none⟩) (by simp <;> omega)).trans ((World.grownBy_alloc w _ none).cell e3 (by simp))
              have y2 : 0 < w1.heap.size := by omega
              have y3 : 2 < w1.heap.size := by omega
              obtain ⟨c, hf⟩ := bcell6 hb1
              have HZ : Hid (Below w.heap.size w w1) := ((Below.refl _ _).alloc (Nat.le_refl _) _).trans (hb1.mono (by simp))
              have y0 : w.heap.size < w1.heap.size := by omega
              clear hsh e2 e3 e4 hb1
              go_wp2_with fail
              refine (a1 _).mono ?_
              rintro e w' ⟨rfl, rfl⟩
              go_wp2_with fail
              refine (a2 _).mono ?_
              rintro e w' ⟨rfl, rfl⟩
              go_wp2_with fail
              refine (a3 _).mono ?_
              rintro e w' ⟨rfl, rfl⟩
              go_wp2
              all_goals
                go_ret
                refine ⟨?_, HZ.out.alloc (by omega) _⟩
                first
                | (rw [HS.out (by simp_all)]; rfl)
                | (rw [HF.out (by simp_all) (by simp_all) (by simp_all) (by simp_all)]; rfl)
            · go_enter Tryz.func49, Tryz.ntmps49
              go_wp2_with fail
              refine (hsh _).mono ?_
              rintro e w1 ⟨rfl, hb1⟩
              have hz1 : w.heap.size + 1 ≤ w1.heap.size := by have := hb1.size; simpa using this
              have q2 : w1.cell? ⟨0, 0, none⟩ = _ := (hb1.cell (p := ⟨0, 0, none⟩) (by simp <;> omega)).trans ((World.grownBy_alloc w _ none).cell e2 (by simp))
              have q3 : w1.cell? ⟨2, 0, none⟩ = _ := (hb1.cell (p := ⟨2, 0, none⟩) (by simp <;> omega)).trans ((World.grownBy_alloc w _ none).cell e3 (by simp))
              have y2 : 0 < w1.heap.size := by omega
              have y3 : 2 < w1.heap.size := by omega
              obtain ⟨c, hf⟩ := bcell6 hb1
              have HZ : Hid (Below w.heap.size w w1) := ((Below.refl _ _).alloc (Nat.le_refl _) _).trans (hb1.mono (by simp))
              have y0 : w.heap.size < w1.heap.size := by omega
              clear hsh e2 e3 e4 hb1
              go_wp2_with fail
              refine (a1 _).mono ?_
              rintro e w' ⟨rfl, rfl⟩
              go_wp2_with fail
              refine (a2 _).mono ?_
              rintro e w' ⟨rfl, rfl⟩
              go_wp2_with fail
              refine (a3 _).mono ?_
              rintro e w' ⟨rfl, rfl⟩
              go_wp2
              go_ret
              exact ⟨by rw [HB.out (by rw [HD.out]; simp; omega)]; rfl, HZ.out.alloc (by omega) _⟩
          · go_enter Tryz.func49, Tryz.ntmps49
            go_wp2_with fail
            refine (hsh _).mono ?_
            rintro e w1 ⟨rfl, hb1⟩
            have hz1 : w.heap.size + 1 ≤ w1.heap.size := by have := hb1.size; simpa using this
            have q2 : w1.cell? ⟨0, 0, none⟩ = _ := (hb1.cell (p := ⟨0, 0, none⟩) (by simp <;> omega)).trans ((World.grownBy_alloc w _ none).cell e2 (by simp))
            have q3 : w1.cell? ⟨2, 0, none⟩ = _ := (hb1.cell (p := ⟨2, 0, none⟩) (by simp <;> omega)).trans ((World.grownBy_alloc w _ none).cell e3 (by simp))
            have y2 : 0 < w1.heap.size := by omega
            have y3 : 2 < w1.heap.size := by omega
            obtain ⟨c, hf⟩ := bcell6 hb1
            have HZ : Hid (Below w.heap.size w w1) := ((Below.refl _ _).alloc (Nat.le_refl _) _).trans (hb1.mono (by simp))
            have y0 : w.heap.size < w1.heap.size := by omega
            clear hsh e2 e3 e4 hb1
            go_wp2_with fail
            refine (a1 _).mono ?_
            rintro e w' ⟨rfl, rfl⟩
            go_wp2_with fail
            refine (a2 _).mono ?_
            rintro e w' ⟨rfl, rfl⟩
            go_wp2_with fail
            refine (a3 _).mono ?_
            rintro e w' ⟨rfl, rfl⟩
            go_wp2
            go_ret
            exact ⟨by rw [HB.out (by rw [HD.out]; simp; omega)]; rfl, HZ.out.alloc (by omega) _⟩
end Go.Proofs.YtjkencgcdlfjhaaGreatDoor
/-
  Package ir: Check.
-/
namespace Go.Proofs.YtjkencgcdlfjhaaGreatDoor
open Go.RowKit Go.Maps
open Num
set_option linter.unusedVariables false
/-- an error that is handed back: bare, or with a place -/
def CErr (pe : Nat → Addr) (w : World) (f : Int × Int) (v : Value) : Prop :=
  (f.2 = -1 ∧ v = erV pe f.1) ∨ (0 ≤ f.2 ∧ f.1 ≠ 0 ∧ ∃ fb : Nat, v = .iface 101 (.pointer (some ⟨fb, 0, none⟩)) ∧ w.cell? ⟨fb, 0, none⟩ = some (.int .i64 f.2) ∧ w.cell? ⟨fb, 1, none⟩ = some (erV pe f.1))
theorem erV_some {pe : Nat → Addr} {n : Int} (h : n ≠ 0) : erV pe n = .iface 311 (.pointer (some (pe n.toNat))) := by unfold erV; rw [if_neg h]
theorem checkOp_bad (pe : Nat → Addr) {w : World} (E : Eg pe w) (o : Opx) (ok : o.ok) (many : Int) (h : opE o many ≠ 0) :
    Calls Tryz.prog 49 #[opV o, .int .i64 many] w fun e w' => e = .returned (.iface 311 (.pointer (some (pe (opE o many).toNat)))) ∧ Below w.heap.size w w' := by
  have := checkOp_any pe E o ok many
  rw [erV_some h] at this
  exact this
theorem checkOp_ok (pe : Nat → Addr) {w : World} (E : Eg pe w) (o : Opx) (ok : o.ok) (many : Int) (h : opE o many = 0) :
    Calls Tryz.prog 49 #[opV o, .int .i64 many] w fun e w' => e = .returned .nilIface ∧ Below w.heap.size w w' := by
  have := checkOp_any pe E o ok many
  rw [h] at this
  exact this
/-- what the loop of Check holds of the world -/
structure CkAt (pe : Nat → Addr) (w wr : World) (ao : Option Addr) (l : List Opx) (pc many : Int) (v : Value) : Prop where
  b : Below w.heap.size w wr
  c1 : wr.cell? ⟨w.heap.size, 1, none⟩ = some (.int .i64 many)
  c2 : wr.cell? ⟨w.heap.size, 2, none⟩ = some v
theorem CkAt.stays {pe : Nat → Addr} {w wr w' : World} {ao : Option Addr} {l : List Opx} {pc many : Int} {v : Value} (C : CkAt pe w wr ao l pc many v) (h : Below wr.heap.size wr w') : CkAt pe w w' ao l pc many v :=
  ⟨C.b.trans (h.mono C.b.size), by rw [h.cell (World.block_lt_of_cell? _ _ C.c1)]; exact C.c1, by rw [h.cell (World.block_lt_of_cell? _ _ C.c2)]; exact C.c2⟩
end Go.Proofs.YtjkencgcdlfjhaaGreatDoor
/-
  The statements' own functions: OwnOps, LongOps.
-/
namespace Go.Proofs.YtjkencgcdlfjhaaGreatDoor
open Go.RowKit Go.Maps
open Num
set_option linter.unusedVariables false
/-- are ops too many, or a kind's word too long, for a statement? -/
def longO (l : List Opx) (most : Int) : Bool := (decide (most < l.length) && decide (l.length ≠ 201)) || l.any fun o => decide (20 < o.s.size)
set_option maxRecDepth 100000 in
set_option maxHeartbeats 2000000 in
theorem longOps_any {w : World} {v : Value} {l : List Opx} (A : OpsIn w v l) (hl : (l.length : Int) ≤ 9223372036854775807) (hs : ∀ o ∈ l, (o.s.size : Int) ≤ 9223372036854775807) (most : Int) :
    Calls Tryz.prog 9 #[v, .int .i64 most] w fun e w' => e = .returned (.int .i64 (if longO l most = true then 1 else 0)) ∧ w' = w := by
  obtain ⟨ao, cap, rfl, hc, hh⟩ := A.sh
  have HH : Hid (0 < l.length → ∃ b off : Nat, ao = some ⟨b, off, none⟩ ∧ ∀ (i : Nat) (o : Opx), l[i]? = some o → ∀ (j : Nat) (u : Value), (opC o)[j]? = some u → w.cell? ⟨b, off + i * 6 + j, none⟩ = some u) := hh
  have SZ : Hid (∀ o ∈ l, (o.s.size : Int) ≤ 9223372036854775807) := hs
  clear hh A hs
  obtain ⟨r, hr⟩ : ∃ r : Int, (if longO l most = true then 1 else 0) = r := ⟨_, rfl⟩
  rw [hr]
  have HR : Hid ((if longO l most = true then (1 : Int) else 0) = r) := hr
  clear hr
  by_cases hf : most < (l.length : Int) ∧ l.length ≠ 201
  · obtain ⟨h1, h2⟩ := hf
    have h2' : ((l.length : Int) != 201) = true := by simp; omega
    have h0 : Hid (r = 1) := by
      show _ = _; rw [← HR.out, if_pos]; unfold longO; simp [h1, h2]
    go_enter Tryz.func9, Tryz.ntmps9
    go_wp2
    go_ret
    exact ⟨by rw [h0.out]; rfl, rfl⟩
  · have HL : Hid (longO l most = l.any fun o => decide (20 < o.s.size)) := by
      show _ = _; unfold longO
      have : (decide (most < (l.length : Int)) && decide (l.length ≠ 201)) = false := by
        rw [Bool.eq_false_iff]; intro h; apply hf; simpa using h
      rw [this, Bool.false_or]
    have hcs : ¬ most < (l.length : Int) ∨ (most < (l.length : Int) ∧ ((l.length : Int) != 201) = false) := by
      by_cases h : most < (l.length : Int)
      · refine .inr ⟨h, ?_⟩
        have : l.length = 201 := by
          by_cases h2 : l.length = 201
          · exact h2
          · exact absurd ⟨h, h2⟩ hf
        simp; omega
      · exact .inl h
    clear hf
    rcases hcs with h1 | ⟨h1, h2⟩
    all_goals
      go_enter Tryz.func9, Tryz.ntmps9
      go_wp2
      go_loop [5] (fun i => ∃ j : Nat, j ≤ l.length ∧ i = .int .i64 j ∧ ∀ o ∈ l.take j, ¬ 20 < o.s.size) (fun i => l.length - (intOf i).toNat)
      case atStart => exact ⟨0, Nat.zero_le _, rfl, by simp⟩
      case round =>
        obtain ⟨j, hj, rfl, hsm⟩ := hrel
        have SM : Hid (∀ o ∈ l.take j, ¬ 20 < o.s.size) := hsm
        clear hsm
        by_cases hlt : j < l.length
        · obtain ⟨o, ho, hom⟩ : ∃ o, l[j]? = some o ∧ o ∈ l := ⟨l[j], List.getElem?_eq_getElem hlt, List.getElem_mem hlt⟩
          obtain ⟨b, off, rfl, hcell⟩ := HH.out (by omega)
          have x0 := (op_cells (hcell j o ho)).1
          have hlt' : (j : Int) < l.length := by omega
          have hsz := SZ.out o hom
          have HO : Hid (l[j]? = some o) := ho
          clear hcell ho
          by_cases h20 : 20 < o.s.size
          · have h20' : (20 : Int) < o.s.size := by omega
            have h0 : Hid (r = 1) := by
              show _ = _; rw [← HR.out, if_pos]; rw [HL.out, List.any_eq_true]; exact ⟨o, hom, by simpa using h20⟩
            clear hom
            go_wp2
            go_ret
            exact ⟨by rw [h0.out]; rfl, rfl⟩
          · have h20' : ¬ (20 : Int) < o.s.size := by omega
            clear hom
            go_wp2
            go_round
            case rel =>
              refine ⟨j + 1, by omega, by go_num, fun x hx => ?_⟩
              rw [take_snoc' HO.out] at hx
              rcases List.mem_append.1 hx with hx | hx
              · exact SM.out x hx
              · simp at hx; subst hx; exact h20
            case measure => simp [intOf]; omega
        · obtain rfl : j = l.length := by omega
          have h0 : Hid (r = 0) := by
            show _ = _; rw [← HR.out, if_neg]; rw [HL.out, List.any_eq_true]
            rintro ⟨o, ho, h⟩
            have := SM.out o (by rw [List.take_length]; exact ho)
            exact this (by simpa using h)
          go_wp2
          go_ret
          exact ⟨by rw [h0.out]; rfl, rfl⟩
theorem infoOp : (Tryz.prog.info? 92).map (fun i => (i.zero, i.size, i.bytes)) = some (some (.agg #[.string ⟨#[]⟩, .int .i64 0, .int .i64 0, .int .i64 0, .int .u32 0, .int .i64 0]), 6, 56) := by kernel_rfl
def opL (l : List Opx) : List Value := l.flatMap opC
theorem opL_len (l : List Opx) : (opL l).length = l.length * 6 := by
  induction l with
  | nil => rfl
  | cons q p ih => unfold opL at ih ⊢; rw [List.flatMap_cons, List.length_append, ih]; simp [opC]; omega
theorem opL_get : ∀ (p : List Opx) (j : Nat) (q : Opx) (i : Nat), p[j]? = some q → i < 6 → (opL p)[j * 6 + i]? = (opC q)[i]?
  | [], j, q, i, h, _ => by simp at h
  | r :: p, 0, q, i, h, hi => by
    simp at h; subst h
    show (opC r ++ opL p)[0 * 6 + i]? = _
    rw [List.getElem?_append_left (by simp [opC]; omega)]; simp
  | r :: p, j + 1, q, i, h, hi => by
    show (opC r ++ opL p)[(j + 1) * 6 + i]? = _
    rw [List.getElem?_append_right (by simp [opC]; omega), ← opL_get p j q i (by simpa using h) hi]
    congr 1; simp [opC]; omega
theorem opL_one (l : List Opx) : ∀ u ∈ opL l, u.oneCell' = true := by
  intro u hu
  obtain ⟨o, _, h⟩ := List.mem_flatMap.1 hu
  simp [opC] at h
  rcases h with rfl | rfl | rfl | rfl | rfl | rfl <;> rfl
theorem opL_at {w : World} {b off : Nat} {l : List Opx} (h : ∀ (i : Nat) (o : Opx), l[i]? = some o → ∀ (j : Nat) (u : Value), (opC o)[j]? = some u → w.cell? ⟨b, off + i * 6 + j, none⟩ = some u) : ∀ j u, (opL l)[j]? = some u → w.cell? ((⟨b, off, none⟩ : Addr).add j) = some u := by
  intro j u hj
  have hlt : j < l.length * 6 := by have := (List.getElem?_eq_some_iff.1 hj).1; rwa [opL_len] at this
  have hi : j / 6 < l.length := by omega
  have ho : l[j / 6]? = some l[j / 6] := List.getElem?_eq_getElem hi
  have := opL_get l (j / 6) _ (j % 6) ho (by omega)
  rw [show j / 6 * 6 + j % 6 = j by omega, hj] at this
  have hc := h _ _ ho _ _ this.symm
  have hadd : (⟨b, off, none⟩ : Addr).add j = ⟨b, off + j, none⟩ := by unfold Addr.add; split <;> simp_all
  rw [hadd, ← hc]; congr 2; omega
/-- a row of ops of one's own -/
theorem ops_of_row {w : World} {base n : Nat} {v : Value} {l : List Opx} (hr : w.ownsRow base 92 6 v l.length (opL l)) (ok : ∀ o ∈ l, o.ok) : OpsIn w v l := by
  rcases hr.2 with ⟨rfl, h⟩ | ⟨g, cap, cur, rfl, hg, hh, hn, _⟩
  · refine ⟨⟨none, 0, by rw [h], by omega, fun hp => by omega⟩, ok⟩
  · refine ⟨⟨_, cap, rfl, hn, fun hp => ⟨g, 0, rfl, fun i o ho j u hu => ?_⟩⟩, ok⟩
    have hj : j < 6 := by have := (List.getElem?_eq_some_iff.1 hu).1; simpa [opC] using this
    have := hr.cells (g := g) rfl (i * 6 + j) u (by rw [opL_get l i o j ho hj]; exact hu)
    rw [add_lit] at this
    rw [Nat.zero_add]; exact this
end Go.Proofs.YtjkencgcdlfjhaaGreatDoor
