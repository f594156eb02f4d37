/-
  What Read answers, whatever the op is.
-/
import Derived.Test.YtkehhlibkebomaaDoorKOptPure2
import Derived.Test.YtkehhlibkebomaaDoorKValBd
import Derived.Test.YtkehhlibkebomaaDoorKPl4
import Derived.Test.YtkehhlibkebomaaDoorKDocPut
import Derived.Test.YtkehhlibkebomaaDoorQGRead2
namespace Go.Proofs.YtkehhlibkebomaaDoor
open Go.RowKit Go.Maps
open Num
set_option linter.unusedVariables false
/-- an effect: which register becomes what; a store; whether it leaves, and where for -/
structure Ef where
  r : Int
  v : Int
  a : Int
  s : Int
  sv : Int
  lv : Bool
  to : Int
def efA (e : Ef) : Array Value := #[.int .i64 e.r, .int .u32 e.v, .int .u32 e.a, .int .i64 e.s, .int .u32 e.sv, .bool e.lv, .int .u32 e.to]
def efO (o : Opx) (ro : Ro) : Ef := if o.k = 21 ∨ o.k = 22 then ⟨0, 0, 0, 0, 0, false, 0⟩ else if o.k = 24 then ⟨0, 0, ro.a, o.d, ro.v, false, 0⟩ else if 25 ≤ o.k then ⟨0, 0, 0, 0, 0, ro.leave, ro.a⟩ else ⟨o.d, ro.v, 0, 0, 0, false, 0⟩
def ReadPost (w : World) (o : Opx) (ro : Ro) (e : Ending) (w' : World) : Prop := (∃ E : Ef, e = .returned (.tuple #[.agg (efA E), .bool (!ro.trap)]) ∧ (ro.trap = false → E = efO o ro)) ∧ Below w.heap.size w w'
section
variable {w : World} {base mb stb sb bp bw bh N : Nat} {X : Nat → Int} {p : List Pq} {vi : Value} {m : Nat → Int} {wt ht : Int → Bool}
theorem efO_val {o : Opx} (h : o.k ≤ 20) (ro : Ro) : efO o ro = ⟨o.d, ro.v, 0, 0, 0, false, 0⟩ := by
  unfold efO; rw [if_neg (by omega), if_neg (by omega), if_neg (by omega)]
theorem efO_ld {o : Opx} (h : o.k = 23) (ro : Ro) : efO o ro = ⟨o.d, ro.v, 0, 0, 0, false, 0⟩ := by
  unfold efO; rw [if_neg (by omega), if_neg (by omega), if_neg (by omega)]
theorem efO_ov {o : Opx} (h : o.k = 21 ∨ o.k = 22) (ro : Ro) : efO o ro = ⟨0, 0, 0, 0, 0, false, 0⟩ := by unfold efO; rw [if_pos h]
theorem efO_st {o : Opx} (h : o.k = 24) (ro : Ro) : efO o ro = ⟨0, 0, ro.a, o.d, ro.v, false, 0⟩ := by unfold efO; rw [if_neg (by omega), if_pos h]
theorem efO_lv {o : Opx} (h : 25 ≤ o.k) (ro : Ro) : efO o ro = ⟨0, 0, 0, 0, 0, ro.leave, ro.a⟩ := by unfold efO; rw [if_neg (by omega), if_neg (by omega), if_pos h]
/-- the kinds that only write -/
theorem read_val (G : GAt w base mb stb sb X p vi) (k : Nat) (hk : 1 ≤ k ∧ k ≤ 20) (d a b i t : Int) (v : Int) (hv : v = valV k (X a.toNat) (X b.toNat) (X d.toNat) i)
    (hr : ∀ W, GAt W base mb stb sb X p vi → Calls Tryd.prog 31 #[.pointer (some ⟨mb, 0, none⟩), .agg #[.string (kindS k), .int .i64 d, .int .i64 a, .int .i64 b, .int .u32 i, .int .i64 t]] W fun e w' => e = .returned (.int .u32 v) ∧ Below W.heap.size W w') :
    Calls Tryd.prog 18 #[.pointer (some ⟨mb, 0, none⟩), opV ⟨kindS k, d, a, b, i, t⟩] w (ReadPost w ⟨kindS k, d, a, b, i, t⟩ (resZ wt X (vw m (pqs p)) ⟨kindS k, d, a, b, i, t⟩)) := by
  have e : (Opx.k ⟨kindS k, d, a, b, i, t⟩) = k := kn_kind k hk.1 (by omega)
  rw [resZ_val (o := ⟨kindS k, d, a, b, i, t⟩) (by rw [e]; omega)]
  refine (read_sum G (kindS k) (kt k 21 (by omega) (by omega) (by omega) (by omega) (by omega)) (kt k 22 (by omega) (by omega) (by omega) (by omega) (by omega)) (kt k 23 (by omega) (by omega) (by omega) (by omega) (by omega)) (kt k 24 (by omega) (by omega) (by omega) (by omega) (by omega)) (kt k 25 (by omega) (by omega) (by omega) (by omega) (by omega)) (kt k 26 (by omega) (by omega) (by omega) (by omega) (by omega)) (kt k 27 (by omega) (by omega) (by omega) (by omega) (by omega)) d a b i t v hr).mono ?_
  rintro e1 w' ⟨rfl, hb⟩
  refine ⟨⟨⟨d, v, 0, 0, 0, false, 0⟩, rfl, fun _ => ?_⟩, hb⟩
  rw [efO_val (by rw [e]; omega)]
  simp only [e]
  rw [hv]
set_option maxHeartbeats 1000000 in
theorem read_any (pe : Nat → Addr) (E : Eg pe w) (R : RamIs w sb bp bw bh N m wt ht) (G : GAt w base mb stb sb X p vi) (hp : p.length ≤ 1000) (o : Opx) (ok : o.ok) (many : Int) (h0 : opE o many = 0) :
    Calls Tryd.prog 18 #[.pointer (some ⟨mb, 0, none⟩), opV o] w (ReadPost w o (resZ wt X (vw m (pqs p)) o)) := by
  obtain ⟨k0, ⟨a0, a1⟩, hb, hb3, hd, hd4⟩ := opE_flds h0
  have hi : u32 o.i := ⟨ok.i0, ok.i1⟩
  have okd := (⟨ok.d0, ok.d1⟩ : -9223372036854775808 ≤ o.d ∧ o.d ≤ 9223372036854775807)
  have hlt := kn_lt o.s
  obtain ⟨s, d, a, b, i, t⟩ := o
  simp only at *
  have hs := kn_word k0
  clear h0 ok
  generalize hkn : kn s = k at *
  subst hs
  have ek : (Opx.k ⟨kindS k, d, a, b, i, t⟩) = k := hkn
  clear hkn
  obtain ⟨a, rfl⟩ : ∃ n : Nat, a = n := ⟨a.toNat, by omega⟩
  have hcs : (1 ≤ k ∧ k ≤ 20) ∨ k = 21 ∨ k = 22 ∨ k = 23 ∨ k = 24 ∨ k = 25 ∨ k = 26 ∨ k = 27 := by omega
  rcases hcs with hk | rfl | rfl | rfl | rfl | rfl | rfl | rfl
  · obtain ⟨b0, b1⟩ := hb (by omega)
    obtain ⟨d0, d1⟩ := hd (.inl hk)
    obtain ⟨b, rfl⟩ : ∃ n : Nat, b = n := ⟨b.toNat, by omega⟩
    obtain ⟨d, rfl⟩ : ∃ n : Nat, d = n := ⟨d.toNat, by omega⟩
    refine read_val (wt := wt) (m := m) G k hk d a b i t _ rfl (fun W GW => ?_)
    have xa := GW.xb a
    have xb := GW.xb b
    have hk2 : k = 1 ∨ k = 2 ∨ (3 ≤ k ∧ k ≤ 16) ∨ k = 17 ∨ k = 18 ∨ k = 19 ∨ k = 20 := by omega
    rcases hk2 with rfl | rfl | hk2 | rfl | rfl | rfl | rfl
    · exact gresult_1 GW d a b (by omega) (by omega) (by omega) i t
    · exact gresult_2 GW d a b (by omega) (by omega) (by omega) i t
    · exact gresult_sum GW (kindS k) (kt k 1 (by omega) (by omega) (by omega) (by omega) (by omega)) (kt k 2 (by omega) (by omega) (by omega) (by omega) (by omega)) (kt k 17 (by omega) (by omega) (by omega) (by omega) (by omega)) (kt k 18 (by omega) (by omega) (by omega) (by omega) (by omega)) (kt k 19 (by omega) (by omega) (by omega) (by omega) (by omega)) (kt k 20 (by omega) (by omega) (by omega) (by omega) (by omega)) d a b (by omega) (by omega) (by omega) i t _ (fun W' => result_any k hk2 (X a) (X b) (X d) i xa.1 xa.2 xb.1 xb.2 W')
    · exact gresult_17 GW d a b (by omega) (by omega) (by omega) i t
    · exact gresult_18 GW d a b (by omega) (by omega) (by omega) i t
    · exact gresult_19 GW d a b (by omega) (by omega) (by omega) i t
    · exact gresult_20 GW d a b (by omega) (by omega) (by omega) i t
  · obtain ⟨b0, b1⟩ := hb (by omega)
    obtain ⟨b, rfl⟩ : ∃ n : Nat, b = n := ⟨b.toNat, by omega⟩
    have hR : resZ wt X (vw m (pqs p)) ⟨kindS 21, d, a, b, i, t⟩ = ⟨0, 0, ov (sg (X a) + sg (X b)), false⟩ := by unfold resZ; rw [ek, if_pos rfl]; rfl
    rw [hR]
    refine (read_21 G a b (by omega) (by omega) d i t).mono ?_
    rintro e1 w' ⟨rfl, hb⟩
    exact ⟨⟨⟨0, 0, 0, 0, 0, false, 0⟩, rfl, fun _ => (efO_ov (by rw [ek]; omega) _).symm⟩, hb⟩
  · obtain ⟨b0, b1⟩ := hb (by omega)
    obtain ⟨b, rfl⟩ : ∃ n : Nat, b = n := ⟨b.toNat, by omega⟩
    have hR : resZ wt X (vw m (pqs p)) ⟨kindS 22, d, a, b, i, t⟩ = ⟨0, 0, ov (sg (X a) - sg (X b)), false⟩ := by unfold resZ; rw [ek, if_neg (by omega), if_pos rfl]; rfl
    rw [hR]
    refine (read_22 G a b (by omega) (by omega) d i t).mono ?_
    rintro e1 w' ⟨rfl, hb⟩
    exact ⟨⟨⟨0, 0, 0, 0, 0, false, 0⟩, rfl, fun _ => (efO_ov (by rw [ek]; omega) _).symm⟩, hb⟩
  · have hbv := hb3 rfl
    have hR : resZ wt X (vw m (pqs p)) ⟨kindS 23, d, a, b, i, t⟩ = (if chk (lo (X a + i)) (if b < 0 then -b else b) = 0 then ⟨ld (vw m (pqs p)) (lo (X a + i)) (if b < 0 then -b else b) (decide (b < 0)), 0, false, false⟩ else ⟨0, 0, true, false⟩) := by unfold resZ; rw [ek, if_neg (by omega), if_neg (by omega), if_pos rfl]; rfl
    rw [hR]
    by_cases hc : chk (lo (X a + i)) (if b < 0 then -b else b) = 0
    · rw [if_pos hc]
      refine (read_23 pe E R G hp a (by omega) d b i t hbv hi hc).mono ?_
      rintro e1 w' ⟨rfl, hb⟩
      exact ⟨⟨⟨d, (ld (vw m (pqs p)) (lo (X a + i)) (if b < 0 then -b else b) (decide (b < 0))), 0, 0, 0, false, 0⟩, rfl, fun _ => (efO_ld ek ⟨(ld (vw m (pqs p)) (lo (X a + i)) (if b < 0 then -b else b) (decide (b < 0))), 0, false, false⟩).symm⟩, hb⟩
    · rw [if_neg hc]
      refine (read_23n pe E R G hp a (by omega) d b i t hbv hi hc).mono ?_
      rintro e1 w' ⟨rfl, hb⟩
      exact ⟨⟨⟨d, 0, 0, 0, 0, false, 0⟩, rfl, fun h => by cases h⟩, hb⟩
  · obtain ⟨b0, b1⟩ := hb (by omega)
    obtain ⟨b, rfl⟩ : ∃ n : Nat, b = n := ⟨b.toNat, by omega⟩
    have hR : resZ wt X (vw m (pqs p)) ⟨kindS 24, d, a, b, i, t⟩ = (if chk (lo (X a + i)) d = 0 then ⟨X b, lo (X a + i), wt (lo (X a + i) / 256), false⟩ else ⟨0, 0, true, false⟩) := by unfold resZ; rw [ek, if_neg (by omega), if_neg (by omega), if_neg (by omega), if_pos rfl]; rfl
    rw [hR]
    refine (read_24 pe E R G a b (by omega) (by omega) d i t okd.1 okd.2).mono ?_
    rintro e1 w' ⟨rfl, hb⟩
    by_cases hc : chk (lo (X a + i)) d = 0
    · rw [if_pos hc, decide_eq_true hc, Bool.true_and]
      exact ⟨⟨⟨0, 0, lo (X a + i), d, X b, false, 0⟩, rfl, fun _ => (efO_st ek ⟨X b, lo (X a + i), wt (lo (X a + i) / 256), false⟩).symm⟩, hb⟩
    · rw [if_neg hc, decide_eq_false hc, Bool.false_and]
      exact ⟨⟨⟨0, 0, lo (X a + i), d, X b, false, 0⟩, rfl, fun h => by cases h⟩, hb⟩
  · have hR : resZ wt X (vw m (pqs p)) ⟨kindS 25, d, a, b, i, t⟩ = ⟨0, i, false, decide (X a ≠ 0)⟩ := by unfold resZ; rw [ek, if_neg (by omega), if_neg (by omega), if_neg (by omega), if_neg (by omega), if_pos rfl]; rfl
    rw [hR]
    refine (read_25 G a (by omega) d b i t).mono ?_
    rintro e1 w' ⟨rfl, hb⟩
    exact ⟨⟨⟨0, 0, 0, 0, 0, decide (X a ≠ 0), i⟩, rfl, fun _ => (efO_lv (by rw [ek]; omega) ⟨0, i, false, decide (X a ≠ 0)⟩).symm⟩, hb⟩
  · have hR : resZ wt X (vw m (pqs p)) ⟨kindS 26, d, a, b, i, t⟩ = ⟨0, i, false, true⟩ := by unfold resZ; rw [ek, if_neg (by omega), if_neg (by omega), if_neg (by omega), if_neg (by omega), if_neg (by omega), if_pos rfl]
    rw [hR]
    refine (read_26 G a d b i t).mono ?_
    rintro e1 w' ⟨rfl, hb⟩
    exact ⟨⟨⟨0, 0, 0, 0, 0, true, i⟩, rfl, fun _ => (efO_lv (by rw [ek]; omega) ⟨0, i, false, true⟩).symm⟩, hb⟩
  · have hR : resZ wt X (vw m (pqs p)) ⟨kindS 27, d, a, b, i, t⟩ = ⟨0, X a, false, true⟩ := by unfold resZ; rw [ek, if_neg (by omega), if_neg (by omega), if_neg (by omega), if_neg (by omega), if_neg (by omega), if_neg (by omega), if_pos rfl]; rfl
    rw [hR]
    refine (read_27 G a (by omega) d b i t).mono ?_
    rintro e1 w' ⟨rfl, hb⟩
    exact ⟨⟨⟨0, 0, 0, 0, 0, true, X a⟩, rfl, fun _ => (efO_lv (by rw [ek]; omega) ⟨0, X a, false, true⟩).symm⟩, hb⟩
end
end Go.Proofs.YtkehhlibkebomaaDoor
/-
  What an op comes to is words; a row's results in memory.
-/
namespace Go.Proofs.YtkehhlibkebomaaDoor
open Go.RowKit Go.Maps
open Num
set_option linter.unusedVariables false
theorem ld_bd {m : Nat → Int} (mb : ∀ i, 0 ≤ m i ∧ m i < 4294967296) (a s : Int) (sg : Bool) : u32 (ld m a s sg) := by
  unfold ld
  have h := mb (a / 4).toNat
  have hp : (0 : Int) < 2 ^ (bhd a s).toNat := Int.pow_pos (by omega)
  refine wd_bd (Int.ediv_nonneg h.1 (by omega)) ?_ sg
  have := Int.ediv_le_self (2 ^ (bhd a s).toNat) h.1
  omega
theorem resZ_bd {wt : Int → Bool} {x m : Nat → Int} {o : Opx} {many : Int} (ok : o.ok) (h : opE o many = 0) (hx : ∀ i, i < 64 → 0 ≤ x i ∧ x i < 4294967296) (mb : ∀ i, 0 ≤ m i ∧ m i < 4294967296) : u32 (resZ wt x m o).v ∧ u32 (resZ wt x m o).a := by
  obtain ⟨h0, ⟨a0, a1⟩, hb, hb3, hd, hd4⟩ := opE_flds h
  have z : u32 0 := ⟨by omega, by omega⟩
  have hi : u32 o.i := ⟨ok.i0, ok.i1⟩
  have ha : u32 (x o.a.toNat) := hx _ (by omega)
  have hl := kn_lt o.s
  unfold resZ
  by_cases h21 : o.k = 21
  · rw [if_pos h21]; exact ⟨z, z⟩
  rw [if_neg h21]
  by_cases h22 : o.k = 22
  · rw [if_pos h22]; exact ⟨z, z⟩
  rw [if_neg h22]
  by_cases h23 : o.k = 23
  · rw [if_pos h23]
    generalize (if o.b < 0 then -o.b else o.b) = n
    split
    · exact ⟨ld_bd mb _ _ _, z⟩
    · exact ⟨z, z⟩
  rw [if_neg h23]
  by_cases h24 : o.k = 24
  · rw [if_pos h24]
    have hbb := hb (by show kn o.s ≠ 23; exact h23)
    split
    · exact ⟨hx _ (by omega), lo_bd _⟩
    · exact ⟨z, z⟩
  rw [if_neg h24]
  by_cases h25 : o.k = 25
  · rw [if_pos h25]; exact ⟨z, hi⟩
  rw [if_neg h25]
  by_cases h26 : o.k = 26
  · rw [if_pos h26]; exact ⟨z, hi⟩
  rw [if_neg h26]
  by_cases h27 : o.k = 27
  · rw [if_pos h27]; exact ⟨z, ha⟩
  rw [if_neg h27]
  have hbb := hb (by show kn o.s ≠ 23; exact h23)
  have h0' : o.k ≠ 0 := h0
  have hdd := hd (.inl ⟨by show 1 ≤ kn o.s; omega, by show kn o.s ≤ 20; unfold Opx.k at *; omega⟩)
  exact ⟨valV_bd _ ha (hx _ (by omega)) (hx _ (by omega)) hi, z⟩
/-- what a store that does not trap is -/
theorem resZ_store {wt : Int → Bool} {x m : Nat → Int} {o : Opx} (hk : o.k = 24) (ht : (resZ wt x m o).trap = false) : chk (resZ wt x m o).a o.d = 0 ∧ wt ((resZ wt x m o).a / 256) = false := by
  unfold resZ at ht ⊢
  rw [if_neg (by omega), if_neg (by omega), if_neg (by omega), if_pos hk] at ht ⊢
  by_cases hc : chk (lo (x o.a.toNat + o.i)) o.d = 0
  · rw [if_pos hc] at ht ⊢; exact ⟨hc, ht⟩
  · rw [if_neg hc] at ht; cases ht
theorem appZ_bd {M : Mz} {o : Opx} {r : Ro} (hx : ∀ i, i < 64 → 0 ≤ M.x i ∧ M.x i < 4294967296) (hr : u32 r.v) : ∀ i, i < 64 → 0 ≤ (appZ M o r).x i ∧ (appZ M o r).x i < 4294967296 := by
  intro i hi
  show 0 ≤ (if 0 < wrX o then setX M.x (wrX o) r.v else M.x) i ∧ _ < _
  by_cases h : 0 < wrX o
  · simp only [appZ, if_pos h]
    unfold setX
    split
    · exact hr
    · exact hx i hi
  · simp only [appZ, if_neg h]; exact hx i hi
end Go.Proofs.YtkehhlibkebomaaDoor
