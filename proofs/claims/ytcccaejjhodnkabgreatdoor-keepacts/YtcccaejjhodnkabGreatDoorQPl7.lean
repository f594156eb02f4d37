/-
  The document's classOf and rowError.
-/
import Derived.Test.YtcccaejjhodnkabGreatDoorKOptPure
import Derived.Test.YtcccaejjhodnkabGreatDoorQPl4
import Derived.Test.YtcccaejjhodnkabGreatDoorQDoc6
namespace Go.Proofs.YtcccaejjhodnkabGreatDoor
open Go.RowKit Go.Maps
open Num
set_option linter.unusedVariables false
set_option maxHeartbeats 1000000 in
theorem classOf_is (o : Opx) (p : Nat) (hp : ptO o = p) (w : World) : Calls Tryz.prog 41 #[opV o] w fun e w' => e = .returned (.int .i64 (p : Int)) ∧ Below w.heap.size w w' := by
  have hk : kn o.s = 23 ∨ kn o.s = 24 ∨ kn o.s = 25 ∨ kn o.s = 26 ∨ kn o.s = 27 ∨ kn o.s < 23 := by have := kn_lt o.s; omega
  have OB : Hid (Below w.heap.size w (w.alloc (.cells #[.string o.s, .int .i64 o.d, .int .i64 o.a, .int .i64 o.b, .int .u32 o.i, .int .i64 o.t] 64))) := (Below.refl _ _).alloc (Nat.le_refl _) _
  rcases hk with h | h | h | h | h | h
  · obtain rfl : p = 1 := by rw [← hp]; unfold ptO Opx.k; simp [h]
    have f23 : (o.s.toList == [108, 111, 97, 100]) = true := by rw [show (o.s.toList == [108, 111, 97, 100]) = _ from kn_eq o.s 23 (by omega) (by omega), h]; rfl
    have f24 : (o.s.toList == [115, 116, 111, 114, 101]) = false := by rw [show (o.s.toList == [115, 116, 111, 114, 101]) = _ from kn_eq o.s 24 (by omega) (by omega), h]; rfl
    have f25 : (o.s.toList == [105, 102]) = false := by rw [show (o.s.toList == [105, 102]) = _ from kn_eq o.s 25 (by omega) (by omega), h]; rfl
    have f26 : (o.s.toList == [111, 117, 116]) = false := by rw [show (o.s.toList == [111, 117, 116]) = _ from kn_eq o.s 26 (by omega) (by omega), h]; rfl
    have f27 : (o.s.toList == [111, 117, 116, 114]) = false := by rw [show (o.s.toList == [111, 117, 116, 114]) = _ from kn_eq o.s 27 (by omega) (by omega), h]; rfl
    clear h hp
    unfold opV
    go_enter Tryz.func41, Tryz.ntmps41
    go_wp2
    go_ret
    exact ⟨rfl, OB.out⟩
  · obtain rfl : p = 1 := by rw [← hp]; unfold ptO Opx.k; simp [h]
    have f23 : (o.s.toList == [108, 111, 97, 100]) = false := by rw [show (o.s.toList == [108, 111, 97, 100]) = _ from kn_eq o.s 23 (by omega) (by omega), h]; rfl
    have f24 : (o.s.toList == [115, 116, 111, 114, 101]) = true := by rw [show (o.s.toList == [115, 116, 111, 114, 101]) = _ from kn_eq o.s 24 (by omega) (by omega), h]; rfl
    have f25 : (o.s.toList == [105, 102]) = false := by rw [show (o.s.toList == [105, 102]) = _ from kn_eq o.s 25 (by omega) (by omega), h]; rfl
    have f26 : (o.s.toList == [111, 117, 116]) = false := by rw [show (o.s.toList == [111, 117, 116]) = _ from kn_eq o.s 26 (by omega) (by omega), h]; rfl
    have f27 : (o.s.toList == [111, 117, 116, 114]) = false := by rw [show (o.s.toList == [111, 117, 116, 114]) = _ from kn_eq o.s 27 (by omega) (by omega), h]; rfl
    clear h hp
    unfold opV
    go_enter Tryz.func41, Tryz.ntmps41
    go_wp2
    go_ret
    exact ⟨rfl, OB.out⟩
  · obtain rfl : p = 2 := by rw [← hp]; unfold ptO Opx.k; simp [h]
    have f23 : (o.s.toList == [108, 111, 97, 100]) = false := by rw [show (o.s.toList == [108, 111, 97, 100]) = _ from kn_eq o.s 23 (by omega) (by omega), h]; rfl
    have f24 : (o.s.toList == [115, 116, 111, 114, 101]) = false := by rw [show (o.s.toList == [115, 116, 111, 114, 101]) = _ from kn_eq o.s 24 (by omega) (by omega), h]; rfl
    have f25 : (o.s.toList == [105, 102]) = true := by rw [show (o.s.toList == [105, 102]) = _ from kn_eq o.s 25 (by omega) (by omega), h]; rfl
    have f26 : (o.s.toList == [111, 117, 116]) = false := by rw [show (o.s.toList == [111, 117, 116]) = _ from kn_eq o.s 26 (by omega) (by omega), h]; rfl
    have f27 : (o.s.toList == [111, 117, 116, 114]) = false := by rw [show (o.s.toList == [111, 117, 116, 114]) = _ from kn_eq o.s 27 (by omega) (by omega), h]; rfl
    clear h hp
    unfold opV
    go_enter Tryz.func41, Tryz.ntmps41
    go_wp2
    go_ret
    exact ⟨rfl, OB.out⟩
  · obtain rfl : p = 2 := by rw [← hp]; unfold ptO Opx.k; simp [h]
    have f23 : (o.s.toList == [108, 111, 97, 100]) = false := by rw [show (o.s.toList == [108, 111, 97, 100]) = _ from kn_eq o.s 23 (by omega) (by omega), h]; rfl
    have f24 : (o.s.toList == [115, 116, 111, 114, 101]) = false := by rw [show (o.s.toList == [115, 116, 111, 114, 101]) = _ from kn_eq o.s 24 (by omega) (by omega), h]; rfl
    have f25 : (o.s.toList == [105, 102]) = false := by rw [show (o.s.toList == [105, 102]) = _ from kn_eq o.s 25 (by omega) (by omega), h]; rfl
    have f26 : (o.s.toList == [111, 117, 116]) = true := by rw [show (o.s.toList == [111, 117, 116]) = _ from kn_eq o.s 26 (by omega) (by omega), h]; rfl
    have f27 : (o.s.toList == [111, 117, 116, 114]) = false := by rw [show (o.s.toList == [111, 117, 116, 114]) = _ from kn_eq o.s 27 (by omega) (by omega), h]; rfl
    clear h hp
    unfold opV
    go_enter Tryz.func41, Tryz.ntmps41
    go_wp2
    go_ret
    exact ⟨rfl, OB.out⟩
  · obtain rfl : p = 2 := by rw [← hp]; unfold ptO Opx.k; simp [h]
    have f23 : (o.s.toList == [108, 111, 97, 100]) = false := by rw [show (o.s.toList == [108, 111, 97, 100]) = _ from kn_eq o.s 23 (by omega) (by omega), h]; rfl
    have f24 : (o.s.toList == [115, 116, 111, 114, 101]) = false := by rw [show (o.s.toList == [115, 116, 111, 114, 101]) = _ from kn_eq o.s 24 (by omega) (by omega), h]; rfl
    have f25 : (o.s.toList == [105, 102]) = false := by rw [show (o.s.toList == [105, 102]) = _ from kn_eq o.s 25 (by omega) (by omega), h]; rfl
    have f26 : (o.s.toList == [111, 117, 116]) = false := by rw [show (o.s.toList == [111, 117, 116]) = _ from kn_eq o.s 26 (by omega) (by omega), h]; rfl
    have f27 : (o.s.toList == [111, 117, 116, 114]) = true := by rw [show (o.s.toList == [111, 117, 116, 114]) = _ from kn_eq o.s 27 (by omega) (by omega), h]; rfl
    clear h hp
    unfold opV
    go_enter Tryz.func41, Tryz.ntmps41
    go_wp2
    go_ret
    exact ⟨rfl, OB.out⟩
  · obtain rfl : p = 0 := by rw [← hp]; unfold ptO Opx.k; rw [if_neg (by omega), if_neg (by omega)]
    have f23 : (o.s.toList == [108, 111, 97, 100]) = false := by rw [show (o.s.toList == [108, 111, 97, 100]) = _ from kn_eq o.s 23 (by omega) (by omega)]; simp only [decide_eq_false_iff_not]; omega
    have f24 : (o.s.toList == [115, 116, 111, 114, 101]) = false := by rw [show (o.s.toList == [115, 116, 111, 114, 101]) = _ from kn_eq o.s 24 (by omega) (by omega)]; simp only [decide_eq_false_iff_not]; omega
    have f25 : (o.s.toList == [105, 102]) = false := by rw [show (o.s.toList == [105, 102]) = _ from kn_eq o.s 25 (by omega) (by omega)]; simp only [decide_eq_false_iff_not]; omega
    have f26 : (o.s.toList == [111, 117, 116]) = false := by rw [show (o.s.toList == [111, 117, 116]) = _ from kn_eq o.s 26 (by omega) (by omega)]; simp only [decide_eq_false_iff_not]; omega
    have f27 : (o.s.toList == [111, 117, 116, 114]) = false := by rw [show (o.s.toList == [111, 117, 116, 114]) = _ from kn_eq o.s 27 (by omega) (by omega)]; simp only [decide_eq_false_iff_not]; omega
    clear h hp
    unfold opV
    go_enter Tryz.func41, Tryz.ntmps41
    go_wp2
    go_ret
    exact ⟨rfl, OB.out⟩
theorem C3.newT (w : World) (t : TypeId) (x y z : Int) : C3 (w.alloc (.cells #[.int .i64 x, .int .i64 y, .int .i64 z] t)) w.heap.size x y z := ⟨by simp, by simp, by simp, fun j => World.frozen?_alloc_at _ _ _ _ rfl⟩
def ocP (l : List Opx) : Nat := (l.filter fun o => outB o).length
theorem ocP_snoc (l : List Opx) (o : Opx) : ocP (l ++ [o]) = ocP l + (if outB o = true then 1 else 0) := by
  unfold ocP; rw [List.filter_append, List.length_append]; by_cases h : outB o = true <;> simp [h]
theorem ocP_le (l : List Opx) : ocP l ≤ l.length := List.length_filter_le _ _
theorem ocP_any (l : List Opx) : decide ((0 : Int) < (ocP l : Int)) = l.any outB := by
  unfold ocP
  rw [Bool.eq_iff_iff, decide_eq_true_eq, List.any_eq_true]
  constructor
  · intro h
    have h' : 0 < (l.filter fun o => outB o).length := by omega
    obtain ⟨o, ho⟩ := List.exists_mem_of_length_pos h'
    rw [List.mem_filter] at ho
    exact ⟨o, ho.1, ho.2⟩
  · rintro ⟨o, h1, h2⟩
    have := List.length_pos_of_mem (List.mem_filter.2 ⟨h1, h2⟩ : o ∈ l.filter fun o => outB o)
    omega
theorem wpPlanZ_skipP {P : Program} {ops : Array Oper} {Q : Exit → Act → World → Prop} {C : World → Prop} {z : Nat} {on : Bool} {i k : Nat} {rest : List (Nat × Nat)} {a : Act} {w : World} {o : Oper} (ho : ops[i]? = some o) (hwt : Region.wanted o (yielded ops a.tmps) = false) (h : ∀ K : Act → Prop, (∀ a', wpPlanZ P ops C z Q (on && i != z) rest a' w → K a') → K (a.put o.dst undef)) : wpPlanZ P ops C z Q on ((i, k) :: rest) a w :=
  ⟨o, ho, by unfold oneZ; rw [if_neg (by simp [hwt])]; exact h _ (fun _ h => h)⟩
structure Ck12 (W : World) (b i k : Nat) (o x : Opx) : Prop where
  i0 : W.cell? ⟨b, i, none⟩ = some (.string o.s)
  i1 : W.cell? ⟨b, i + 1, none⟩ = some (.int .i64 o.d)
  i2 : W.cell? ⟨b, i + 2, none⟩ = some (.int .i64 o.a)
  i3 : W.cell? ⟨b, i + 3, none⟩ = some (.int .i64 o.b)
  i4 : W.cell? ⟨b, i + 4, none⟩ = some (.int .u32 o.i)
  i5 : W.cell? ⟨b, i + 5, none⟩ = some (.int .i64 o.t)
  k0 : W.cell? ⟨b, k, none⟩ = some (.string x.s)
  k1 : W.cell? ⟨b, k + 1, none⟩ = some (.int .i64 x.d)
  k2 : W.cell? ⟨b, k + 2, none⟩ = some (.int .i64 x.a)
  k3 : W.cell? ⟨b, k + 3, none⟩ = some (.int .i64 x.b)
  k4 : W.cell? ⟨b, k + 4, none⟩ = some (.int .u32 x.i)
  k5 : W.cell? ⟨b, k + 5, none⟩ = some (.int .i64 x.t)
theorem Ck12.stays {W W' : World} {b i k : Nat} {o x : Opx} (C : Ck12 W b i k o x) (h : Below W.heap.size W W') : Ck12 W' b i k o x := by
  have hb := World.block_lt_of_cell? _ _ C.i0
  have c : ∀ j, W'.cell? ⟨b, j, none⟩ = W.cell? ⟨b, j, none⟩ := fun j => h.cell (p := ⟨b, j, none⟩) hb
  exact ⟨(c _).trans C.i0, (c _).trans C.i1, (c _).trans C.i2, (c _).trans C.i3, (c _).trans C.i4, (c _).trans C.i5, (c _).trans C.k0, (c _).trans C.k1, (c _).trans C.k2, (c _).trans C.k3, (c _).trans C.k4, (c _).trans C.k5⟩
set_option maxRecDepth 100000 in
set_option maxHeartbeats 8000000 in
theorem rowError_any {w : World} {v : Value} {l : List Opx} (A : OpsIn w v l) (hl : (l.length : Int) ≤ 1000000) (many : Int) (last : Bool) :
    Calls Tryz.prog 25 #[v, .int .i64 many, .bool last] w fun e w' => e = .returned (.int .i64 (rowE many last l)) ∧ Below w.heap.size w w' := by
  have A0 := A
  obtain ⟨ao, cap, rfl, hc, hh⟩ := A.sh
  by_cases h0 : l = []
  · have HF : Hid (rowE many last l = 3) := rowE_len (.inl h0)
    subst h0
    clear hh A A0
    go_enter Tryz.func25, Tryz.ntmps25
    go_wp2
    go_ret
    exact ⟨by rw [HF.out]; rfl, Below.refl _ _⟩
  have hpos : 0 < l.length := List.length_pos_iff.2 h0
  have hp0 : ¬ (l.length : Int) = 0 := by omega
  have hpb : ((l.length : Int) == 0) = false := by simpa using hp0
  by_cases h4 : 4 < l.length
  · have HF : Hid (rowE many last l = 3) := rowE_len (.inr h4)
    have h4' : (4 : Int) < l.length := by omega
    clear hh A A0
    go_enter Tryz.func25, Tryz.ntmps25
    go_wp2
    go_ret
    exact ⟨by rw [HF.out]; rfl, Below.refl _ _⟩
  have hlen : Hid (¬ (l = [] ∨ 4 < l.length)) := fun h => h.elim h0 h4
  have h4' : ¬ (4 : Int) < l.length := by omega
  have h4i : (l.length : Int) ≤ 4 := by omega
  obtain ⟨bo, off, rfl, hcell⟩ := hh hpos
  have hbl : bo < w.heap.size := by
    obtain ⟨o, ho⟩ : ∃ o, l[0]? = some o := ⟨_, List.getElem?_eq_getElem hpos⟩
    exact World.block_lt_of_cell? _ _ (hcell 0 o ho 0 _ rfl)
  have HCL : Hid (∀ W, Below w.heap.size w W → ∀ (j : Nat) (x : Opx), l[j]? = some x → W.cell? ⟨bo, off + j * 6, none⟩ = some (.string x.s) ∧ W.cell? ⟨bo, off + j * 6 + 1, none⟩ = some (.int .i64 x.d) ∧ W.cell? ⟨bo, off + j * 6 + 2, none⟩ = some (.int .i64 x.a) ∧ W.cell? ⟨bo, off + j * 6 + 3, none⟩ = some (.int .i64 x.b) ∧ W.cell? ⟨bo, off + j * 6 + 4, none⟩ = some (.int .u32 x.i) ∧ W.cell? ⟨bo, off + j * 6 + 5, none⟩ = some (.int .i64 x.t)) := fun W hW j x hx => op_cells fun k u hk => (hW.cell (p := ⟨bo, off + j * 6 + k, none⟩) hbl).trans (hcell j x hx k u hk)
  have OK : Hid (∀ o ∈ l, o.ok) := A.ok
  clear hh A A0 hcell h0 h4
  go_enter Tryz.func25, Tryz.ntmps25
  go_wp2
  go_loopw [7] (fun i wr => ∃ j : Nat, j ≤ l.length ∧ i = .int .i64 j ∧ Hid (∀ k p, k < j → l[k]? = some p → opE p many = 0) ∧ Below w.heap.size w wr) (fun i _ => l.length - (intOf i).toNat)
  case atStart => exact ⟨0, Nat.zero_le _, rfl, (by intro k p hk; omega), Below.refl _ _⟩
  case round =>
    obtain ⟨j, hj, rfl, HN, hB⟩ := hrel
    have HB : Hid (Below w.heap.size w wr) := hB
    have hsz := hB.size
    by_cases hlt : j < l.length
    · obtain ⟨o, ho⟩ : ∃ o, l[j]? = some o := ⟨_, List.getElem?_eq_getElem hlt⟩
      obtain ⟨x0, x1, x2, x3, x4, x5⟩ := HCL.out wr hB j o ho
      have zb : bo < wr.heap.size := World.block_lt_of_cell? _ _ x0
      have hlt' : (j : Int) < l.length := by omega
      have hok := OK.out o (List.mem_of_getElem? ho)
      have hck := opError_any o hok many wr
      unfold opV at hck
      by_cases hbad : opE o many ≠ 0
      · have HF : Hid (rowE many last l = opE o many) := by
          have hf := firE_at many l j o ho HN.out hbad
          show _ = _
          rw [rowE_fir hlen.out (by rw [hf]; exact hbad), hf]
        have hv : 0 < opE o many := by have := opE_vals o many; omega
        clear ho hB HN HCL OK hbad hok
        generalize opE o many = er at *
        go_wp2_with fail
        refine hck.mono ?_
        rintro e w1 ⟨rfl, hb1⟩
        have HB1 : Hid (Below w.heap.size w w1) := HB.out.trans (hb1.mono hsz)
        clear hck hb1 x0 x1 x2 x3 x4 x5 zb HB
        go_wp2
        go_ret
        exact ⟨by rw [HF.out]; rfl, HB1.out⟩
      · have hgood : opE o many = 0 := by simpa using hbad
        have HN2 : Hid (∀ k p, k < j + 1 → l[k]? = some p → opE p many = 0) := by
          intro k p hk hp
          by_cases hkj : k = j
          · subst hkj
            rw [ho] at hp
            obtain rfl := Option.some.inj hp
            exact hgood
          · exact HN.out k p (by omega) hp
        rw [hgood] at hck
        clear ho hB HN hbad hok hgood
        go_wp2_with fail
        refine hck.mono ?_
        rintro e w1 ⟨rfl, hb1⟩
        have HB1 : Hid (Below w.heap.size w w1) := HB.out.trans (hb1.mono hsz)
        clear hck hb1 x0 x1 x2 x3 x4 x5 zb HB
        go_wp2
        go_roundw
        case rel => exact ⟨j + 1, by omega, by go_num, HN2.out, HB1.out⟩
        case measure => simp [intOf]; omega
    · obtain rfl : j = l.length := by omega
      have HFI : Hid (firE many l = 0) := firE_none many l (fun o ho => by
        obtain ⟨k, hk, he⟩ := List.getElem_of_mem ho
        exact HN.out k o hk (by rw [List.getElem?_eq_getElem hk, he]))
      have N0 := C3.newT wr 3 0 0 0
      have B0 : Below w.heap.size w (wr.alloc (.cells #[.int .i64 0, .int .i64 0, .int .i64 0] 3)) := hB.alloc (by omega) _
      clear hB HN OK
      go_upto_region 10 with fail
      generalize wr.alloc (.cells #[.int .i64 0, .int .i64 0, .int .i64 0] 3) = V at *
      generalize hcb : wr.heap.size = cb at *
      have HV : Hid (C3 V cb 0 0 0 ∧ Below w.heap.size w V) := ⟨N0, B0⟩
      have hcb2 : w.heap.size ≤ cb := hsz
      clear N0 B0 HB hsz hcb hj
      go_wp2
      go_loopw [10, 11] (fun n i wr => ∃ j : Nat, j ≤ l.length ∧ i = .int .i64 j ∧ n = .int .i64 (ocP (l.take j) : Int) ∧ C3 wr cb (ctP 0 (l.take j) : Int) (ctP 1 (l.take j) : Int) (ctP 2 (l.take j) : Int) ∧ Below w.heap.size w wr) (fun _ i _ => l.length - (intOf i).toNat)
      case atStart => exact ⟨0, Nat.zero_le _, rfl, rfl, HV.out.1, HV.out.2⟩
      case round =>
        obtain ⟨j, hj, rfl, rfl, hC, hB⟩ := hrel
        have HB : Hid (Below w.heap.size w wr) := hB
        have HC : Hid (C3 wr cb (ctP 0 (l.take j) : Int) (ctP 1 (l.take j) : Int) (ctP 2 (l.take j) : Int)) := hC
        have hsz := hB.size
        clear HV
        by_cases hlt : j < l.length
        · obtain ⟨o, ho⟩ : ∃ o, l[j]? = some o := ⟨_, List.getElem?_eq_getElem hlt⟩
          obtain ⟨x0, x1, x2, x3, x4, x5⟩ := HCL.out wr hB j o ho
          have zb : bo < wr.heap.size := World.block_lt_of_cell? _ _ x0
          have hlt' : (j : Int) < l.length := by omega
          have hb0 := ctP_le 0 (l.take j)
          have hb1 := ctP_le 1 (l.take j)
          have hb2 := ctP_le 2 (l.take j)
          have hb3 := ocP_le (l.take j)
          have hbt : (l.take j).length ≤ j := List.length_take_le _ _
          have HS : Hid (∀ p, ctP p (l.take (j + 1)) = if p = ptO o then ctP p (l.take j) + 1 else ctP p (l.take j)) := fun p => by rw [take_snoc' ho, ctP_snoc]
          have HO : Hid (ocP (l.take (j + 1)) = ocP (l.take j) + (if outB o = true then 1 else 0)) := by show _ = _; rw [take_snoc' ho, ocP_snoc]
          have HX : Hid (∀ W, Below w.heap.size w W → W.cell? ⟨bo, off + j * 6, none⟩ = some (.string o.s) ∧ W.cell? ⟨bo, off + j * 6 + 1, none⟩ = some (.int .i64 o.d) ∧ W.cell? ⟨bo, off + j * 6 + 2, none⟩ = some (.int .i64 o.a) ∧ W.cell? ⟨bo, off + j * 6 + 3, none⟩ = some (.int .i64 o.b) ∧ W.cell? ⟨bo, off + j * 6 + 4, none⟩ = some (.int .u32 o.i) ∧ W.cell? ⟨bo, off + j * 6 + 5, none⟩ = some (.int .i64 o.t)) := fun W hW => HCL.out W hW j o ho
          obtain ⟨p, hp⟩ : ∃ p, ptO o = p := ⟨_, rfl⟩
          have hp3 := ptO_lt o
          have hpc := fun W => classOf_is o p hp W
          have hio := fun W => isOutD_any o W
          unfold opV at hpc hio
          rw [hp] at hp3 HS
          clear ho hB hC hp
          go_wp2_with fail
          refine (hpc _).mono ?_
          rintro e w1 ⟨rfl, hb⟩
          have K2 := HC.out.stays hb
          have K3 : Hid (Below w.heap.size w w1) := HB.out.trans (hb.mono hsz)
          have K2H : Hid (C3 w1 cb (ctP 0 (l.take j) : Int) (ctP 1 (l.take j) : Int) (ctP 2 (l.take j) : Int)) := K2
          obtain ⟨q0, q1, q2, qf⟩ := K2
          have zq := World.block_lt_of_cell? _ _ q0
          have hcv0 : (ctP 0 (l.take j) : Int) ≤ 4 := by omega
          have hcv1 : (ctP 1 (l.take j) : Int) ≤ 4 := by omega
          have hcv2 : (ctP 2 (l.take j) : Int) ≤ 4 := by omega
          have hcw0 : (0 : Int) ≤ (ctP 0 (l.take j) : Int) := by omega
          have hcw1 : (0 : Int) ≤ (ctP 1 (l.take j) : Int) := by omega
          have hcw2 : (0 : Int) ≤ (ctP 2 (l.take j) : Int) := by omega
          have hov : (ocP (l.take j) : Int) ≤ 4 := by omega
          have hov0 : (0 : Int) ≤ (ocP (l.take j) : Int) := by omega
          clear hb hpc x0 x1 x2 x3 x4 x5 HB HC hb0 hb1 hb2 hb3 hbt
          have hpp : p = 0 ∨ p = 1 ∨ p = 2 := by omega
          rcases hpp with rfl | rfl | rfl
          · have R : Hid (C3 (w1.setCell ⟨cb, 0, none⟩ (.int .i64 ((ctP 0 (l.take j) : Int) + 1))) cb (ctP 0 (l.take (j + 1)) : Int) (ctP 1 (l.take (j + 1)) : Int) (ctP 2 (l.take (j + 1)) : Int) ∧ Below w.heap.size w (w1.setCell ⟨cb, 0, none⟩ (.int .i64 ((ctP 0 (l.take j) : Int) + 1)))) := by
              refine ⟨?_, K3.out.setCell hcb2 _⟩
              rw [HS.out 0, HS.out 1, HS.out 2]
              exact K2H.out.put0 _
            clear HS K2H
            generalize (ctP 0 (l.take j) : Int) = cv0 at *
            generalize (ctP 1 (l.take j) : Int) = cv1 at *
            generalize (ctP 2 (l.take j) : Int) = cv2 at *
            go_upto_region 15 with fail
            generalize w1.setCell ⟨cb, 0, none⟩ (.int .i64 (cv0 + 1)) = V2 at *
            obtain ⟨x0, x1, x2, x3, x4, x5⟩ := HX.out V2 R.out.2
            have zb2 : bo < V2.heap.size := World.block_lt_of_cell? _ _ x0
            clear q0 q1 q2 qf zq
            go_wp2_with fail
            refine (hio _).mono ?_
            rintro e w2 ⟨rfl, hb2⟩
            have R2 : Hid (C3 w2 cb (ctP 0 (l.take (j + 1)) : Int) (ctP 1 (l.take (j + 1)) : Int) (ctP 2 (l.take (j + 1)) : Int) ∧ Below w.heap.size w w2) := ⟨R.out.1.stays hb2, R.out.2.trans (hb2.mono R.out.2.size)⟩
            clear hio hb2 x0 x1 x2 x3 x4 x5 zb2 R
            cases hob : outB o with
            | false =>
              rw [hob] at HO
              go_wp2
              go_roundw
              case rel => exact ⟨j + 1, by omega, by go_num, by rw [HO.out]; go_num, R2.out.1, R2.out.2⟩
              case measure => simp [intOf]; omega
            | true =>
              rw [hob] at HO
              go_wp2
              go_roundw
              case rel => exact ⟨j + 1, by omega, by go_num, by rw [HO.out]; go_num, R2.out.1, R2.out.2⟩
              case measure => simp [intOf]; omega
          · have R : Hid (C3 (w1.setCell ⟨cb, 1, none⟩ (.int .i64 ((ctP 1 (l.take j) : Int) + 1))) cb (ctP 0 (l.take (j + 1)) : Int) (ctP 1 (l.take (j + 1)) : Int) (ctP 2 (l.take (j + 1)) : Int) ∧ Below w.heap.size w (w1.setCell ⟨cb, 1, none⟩ (.int .i64 ((ctP 1 (l.take j) : Int) + 1)))) := by
              refine ⟨?_, K3.out.setCell hcb2 _⟩
              rw [HS.out 0, HS.out 1, HS.out 2]
              exact K2H.out.put1 _
            clear HS K2H
            generalize (ctP 0 (l.take j) : Int) = cv0 at *
            generalize (ctP 1 (l.take j) : Int) = cv1 at *
            generalize (ctP 2 (l.take j) : Int) = cv2 at *
            go_upto_region 15 with fail
            generalize w1.setCell ⟨cb, 1, none⟩ (.int .i64 (cv1 + 1)) = V2 at *
            obtain ⟨x0, x1, x2, x3, x4, x5⟩ := HX.out V2 R.out.2
            have zb2 : bo < V2.heap.size := World.block_lt_of_cell? _ _ x0
            clear q0 q1 q2 qf zq
            go_wp2_with fail
            refine (hio _).mono ?_
            rintro e w2 ⟨rfl, hb2⟩
            have R2 : Hid (C3 w2 cb (ctP 0 (l.take (j + 1)) : Int) (ctP 1 (l.take (j + 1)) : Int) (ctP 2 (l.take (j + 1)) : Int) ∧ Below w.heap.size w w2) := ⟨R.out.1.stays hb2, R.out.2.trans (hb2.mono R.out.2.size)⟩
            clear hio hb2 x0 x1 x2 x3 x4 x5 zb2 R
            cases hob : outB o with
            | false =>
              rw [hob] at HO
              go_wp2
              go_roundw
              case rel => exact ⟨j + 1, by omega, by go_num, by rw [HO.out]; go_num, R2.out.1, R2.out.2⟩
              case measure => simp [intOf]; omega
            | true =>
              rw [hob] at HO
              go_wp2
              go_roundw
              case rel => exact ⟨j + 1, by omega, by go_num, by rw [HO.out]; go_num, R2.out.1, R2.out.2⟩
              case measure => simp [intOf]; omega
          · have R : Hid (C3 (w1.setCell ⟨cb, 2, none⟩ (.int .i64 ((ctP 2 (l.take j) : Int) + 1))) cb (ctP 0 (l.take (j + 1)) : Int) (ctP 1 (l.take (j + 1)) : Int) (ctP 2 (l.take (j + 1)) : Int) ∧ Below w.heap.size w (w1.setCell ⟨cb, 2, none⟩ (.int .i64 ((ctP 2 (l.take j) : Int) + 1)))) := by
              refine ⟨?_, K3.out.setCell hcb2 _⟩
              rw [HS.out 0, HS.out 1, HS.out 2]
              exact K2H.out.put2 _
            clear HS K2H
            generalize (ctP 0 (l.take j) : Int) = cv0 at *
            generalize (ctP 1 (l.take j) : Int) = cv1 at *
            generalize (ctP 2 (l.take j) : Int) = cv2 at *
            go_upto_region 15 with fail
            generalize w1.setCell ⟨cb, 2, none⟩ (.int .i64 (cv2 + 1)) = V2 at *
            obtain ⟨x0, x1, x2, x3, x4, x5⟩ := HX.out V2 R.out.2
            have zb2 : bo < V2.heap.size := World.block_lt_of_cell? _ _ x0
            clear q0 q1 q2 qf zq
            go_wp2_with fail
            refine (hio _).mono ?_
            rintro e w2 ⟨rfl, hb2⟩
            have R2 : Hid (C3 w2 cb (ctP 0 (l.take (j + 1)) : Int) (ctP 1 (l.take (j + 1)) : Int) (ctP 2 (l.take (j + 1)) : Int) ∧ Below w.heap.size w w2) := ⟨R.out.1.stays hb2, R.out.2.trans (hb2.mono R.out.2.size)⟩
            clear hio hb2 x0 x1 x2 x3 x4 x5 zb2 R
            cases hob : outB o with
            | false =>
              rw [hob] at HO
              go_wp2
              go_roundw
              case rel => exact ⟨j + 1, by omega, by go_num, by rw [HO.out]; go_num, R2.out.1, R2.out.2⟩
              case measure => simp [intOf]; omega
            | true =>
              rw [hob] at HO
              go_wp2
              go_roundw
              case rel => exact ⟨j + 1, by omega, by go_num, by rw [HO.out]; go_num, R2.out.1, R2.out.2⟩
              case measure => simp [intOf]; omega
        · obtain rfl : j = l.length := by omega
          rw [List.take_length] at HC
          have HF0 := fitC
          obtain ⟨q0, q1, q2, qf⟩ := HC.out
          have zq := World.block_lt_of_cell? _ _ q0
          have hb0 := ctP_le 0 l
          have hb1 := ctP_le 1 l
          have hb2 := ctP_le 2 l
          have hb3 := ocP_le l
          have hsum := ctP_sum l
          have HFB : Hid (fitB l = (decide (ctP 0 l ≤ 3) && decide (ctP 1 l ≤ 1) && decide (ctP 2 l ≤ 1))) := by
            show _ = _
            unfold fitB fitC
            rw [show decide (ctP 0 l + ctP 1 l + ctP 2 l ≤ 4) = true from decide_eq_true (by omega), Bool.and_true]
          have HOA := ocP_any l
          rw [List.take_length]
          clear hB hC HF0 HC
          by_cases g0 : 3 < ctP 0 l
          · have g0' : (3 : Int) < (ctP 0 l : Int) := by omega
            have HF : Hid (rowE many last l = 8) := rowE_fit hlen.out HFI.out (by rw [HFB.out, decide_eq_false (by omega)]; rfl)
            clear HFB
            go_wp2
            go_ret
            exact ⟨by rw [HF.out]; rfl, HB.out⟩
          have g0' : ¬ (3 : Int) < (ctP 0 l : Int) := by omega
          by_cases g1 : 1 < ctP 1 l
          · have g1' : (1 : Int) < (ctP 1 l : Int) := by omega
            have HF : Hid (rowE many last l = 8) := rowE_fit hlen.out HFI.out (by rw [HFB.out, decide_eq_false (show ¬ ctP 1 l ≤ 1 by omega)]; simp)
            clear HFB
            go_wp2
            go_ret
            exact ⟨by rw [HF.out]; rfl, HB.out⟩
          have g1' : ¬ (1 : Int) < (ctP 1 l : Int) := by omega
          by_cases g2 : 1 < ctP 2 l
          · have g2' : (1 : Int) < (ctP 2 l : Int) := by omega
            have HF : Hid (rowE many last l = 8) := rowE_fit hlen.out HFI.out (by rw [HFB.out, decide_eq_false (show ¬ ctP 2 l ≤ 1 by omega)]; simp)
            clear HFB
            go_wp2
            go_ret
            exact ⟨by rw [HF.out]; rfl, HB.out⟩
          have g2' : ¬ (1 : Int) < (ctP 2 l : Int) := by omega
          have HFB2 : Hid (fitB l = true) := by show _ = _; rw [HFB.out, decide_eq_true (show ctP 0 l ≤ 3 by omega), decide_eq_true (show ctP 1 l ≤ 1 by omega), decide_eq_true (show ctP 2 l ≤ 1 by omega)]; rfl
          have HWR : Hid (∀ o ∈ l, 0 ≤ wrX o) := fun o ho => (well_wr (firE_all many l HFI.out o ho)).1
          have HO2 : Hid (decide ((0 : Int) < (ocP l : Int)) = l.any outB) := HOA
          have hoc0 : (0 : Int) ≤ (ocP l : Int) := by omega
          clear HFB HOA hb0 hb1 hb2 hb3 hsum g0 g1 g2
          generalize (ctP 0 l : Int) = cv0 at *
          generalize (ctP 1 l : Int) = cv1 at *
          generalize (ctP 2 l : Int) = cv2 at *
          generalize (ocP l : Int) = oc at *
          go_wp2
          go_loopw [13] (fun i wr => ∃ j : Nat, j ≤ l.length ∧ i = .int .i64 j ∧ Hid (dupA [] (l.take j) = false) ∧ Below w.heap.size w wr) (fun i _ => l.length - (intOf i).toNat)
          case atStart => exact ⟨0, Nat.zero_le _, rfl, (by show _ = _; simp [dupA]), HB.out⟩
          case round =>
            obtain ⟨j, hj, rfl, HN, hB⟩ := hrel
            clear HB q0 q1 q2 qf zq g0' g1' g2' hsz
            by_cases hlt : j < l.length
            · obtain ⟨o, ho⟩ : ∃ o, l[j]? = some o := ⟨_, List.getElem?_eq_getElem hlt⟩
              have hlt' : (j : Int) < l.length := by omega
              have HS : Hid (dupA [] (l.take (j + 1)) = (decide (wrX o ≠ 0) && (l.take j).any fun p => decide (wrX p = wrX o))) := by
                show _ = _; rw [dupA_take ho, HN.out]; rfl
              have HF : Hid (dupA [] (l.take (j + 1)) = true → dupA [] l = true) := fun h => dupA_found h
              have hw0 := HWR.out o (List.mem_of_getElem? ho)
              have hwr := fun W => writeOf_any o W
              unfold opV at hwr
              have HJ : Hid (l[j]? = some o) := ho
              have HB1 : Hid (Below w.heap.size w wr) := hB
              have hjc : (j : Int) ≤ l.length := by omega
              clear ho hB HN
              generalize hX : wrX o = x at *
              clear hX
              go_wp2
              go_loopw [14] (fun i wr => ∃ k : Nat, k ≤ j ∧ i = .int .i64 k ∧ Hid ((decide (x ≠ 0) && (l.take k).any fun p => decide (wrX p = x)) = false) ∧ Below w.heap.size w wr) (fun i _ => j - (intOf i).toNat)
              case atStart => exact ⟨0, Nat.zero_le _, rfl, (by show _ = _; simp), HB1.out⟩
              case round =>
                obtain ⟨k, hk, rfl, HK, hB⟩ := hrel
                clear HB1
                by_cases hlk : k < j
                · obtain ⟨y, hy⟩ : ∃ y, l[k]? = some y := ⟨_, List.getElem?_eq_getElem (by omega)⟩
                  have hlk' : (k : Int) < j := by omega
                  have hkl : (k : Int) < l.length := by omega
                  have HT : Hid ((l.take (k + 1)).any (fun p => decide (wrX p = x)) = ((l.take k).any (fun p => decide (wrX p = x)) || decide (wrX y = x))) := by
                    show _ = _; rw [take_snoc' hy, List.any_append]; simp
                  have HTJ : Hid (∀ j' : Nat, k < j' → decide (wrX y = x) = true → (l.take j').any (fun p => decide (wrX p = x)) = true) := fun j' hkj hd => by
                    rw [List.any_eq_true]
                    exact ⟨y, List.mem_of_getElem? (by rw [List.getElem?_take, if_pos hkj]; exact hy), hd⟩
                  have hyr := fun W => writeOf_any y W
                  unfold opV at hyr
                  have CK : Hid (∀ W, Below w.heap.size w W → Ck12 W bo (off + j * 6) (off + k * 6) o y) := fun W hW =>
                    have a := HCL.out W hW j o HJ.out
                    have b := HCL.out W hW k y hy
                    ⟨a.1, a.2.1, a.2.2.1, a.2.2.2.1, a.2.2.2.2.1, a.2.2.2.2.2, b.1, b.2.1, b.2.2.1, b.2.2.2.1, b.2.2.2.2.1, b.2.2.2.2.2⟩
                  have HB2 : Hid (Below w.heap.size w wr) := hB
                  have hck := CK.out wr hB
                  clear hy hB
                  generalize wrX y = z at *
                  go_wp2
                  have zb : bo < wr.heap.size := World.block_lt_of_cell? _ _ hck.i0
                  refine wp_region_phase 19 [(0, 0), (1, 0), (2, 0), (3, 1), (4, 2), (5, 0), (6, 0), (7, 0), (8, 0), (9, 0), (10, 1), (12, 0), (13, 0), (14, 0), (15, 1), (11, 2), (16, 2), (17, 0), (18, 0)] (fun W => Ck12 W bo (off + j * 6) (off + k * 6) o y) (by kernel_rfl) (by kernel_rfl) (fun _ _ _ d _ h => by cases d <;> exact h) ⟨by simpa using hck.i0, by simpa using hck.i1, by simpa using hck.i2, by simpa using hck.i3, by simpa using hck.i4, by simpa using hck.i5, by simpa using hck.k0, by simpa using hck.k1, by simpa using hck.k2, by simpa using hck.k3, by simpa using hck.k4, by simpa using hck.k5⟩ ?_
                  repeat (first | (refine wpPlanZ_skipP (by rfl) (by rfl) (fun K hK => ?_); go_simp; refine hK _ ?_; clear hK K) | (refine wpPlanZ_free (by rfl) (by rfl) (fun W => by (go_simp; try with_reducible rfl)) (fun K hK => ?_); go_simp; refine hK _ ?_; clear hK K) | (refine wpPlanZ_quiet (by rfl) (by rfl) (fun W hW => by (obtain ⟨s0, s1, s2, s3, s4, s5, t0, t1, t2, t3, t4, t5⟩ := hW; go_simp; try with_reducible rfl)) (fun K hK => ?_); go_simp; refine hK _ ?_; clear hK K))
                  refine wpPlanZ_serial (by rfl) (by rfl) (fun K hK => ?_)
                  go_simp
                  refine (hwr _).mono ?_
                  rintro e w5 ⟨rfl, hb5⟩
                  have B5 : Hid (Below w.heap.size w w5) := HB2.out.drew.trans (hb5.mono HB2.out.size)
                  refine hK _ _ (fun _ => CK.out w5 B5.out) ?_
                  clear hK K hb5 hck HB2 zb
                  by_cases hx : 0 < x
                  · have hxb : Hid (decide (x ≠ 0) = true) := decide_eq_true (by omega)
                    repeat (first | (refine wpPlanZ_skipP (by rfl) (by rfl) (fun K hK => ?_); go_simp; refine hK _ ?_; clear hK K) | (refine wpPlanZ_free (by rfl) (by rfl) (fun W => by (go_simp; try with_reducible rfl)) (fun K hK => ?_); go_simp; refine hK _ ?_; clear hK K) | (refine wpPlanZ_quiet (by rfl) (by rfl) (fun W hW => by (obtain ⟨s0, s1, s2, s3, s4, s5, t0, t1, t2, t3, t4, t5⟩ := hW; go_simp; try with_reducible rfl)) (fun K hK => ?_); go_simp; refine hK _ ?_; clear hK K))
                    refine wpPlanZ_serial (by rfl) (by rfl) (fun K hK => ?_)
                    go_simp
                    refine (hwr _).mono ?_
                    rintro e w6 ⟨rfl, hb6⟩
                    have B6 : Hid (Below w.heap.size w w6) := B5.out.trans (hb6.mono B5.out.size)
                    refine hK _ _ (fun _ => CK.out w6 B6.out) ?_
                    clear hK K hb6 B5
                    refine wpPlanZ_serial (by rfl) (by rfl) (fun K hK => ?_)
                    go_simp
                    refine (hyr _).mono ?_
                    rintro e w7 ⟨rfl, hb7⟩
                    have B7 : Hid (Below w.heap.size w w7) := B6.out.trans (hb7.mono B6.out.size)
                    refine hK _ _ (fun _ => CK.out w7 B7.out) ?_
                    clear hK K hb7 B6 hyr
                    repeat (first | (refine wpPlanZ_skipP (by rfl) (by rfl) (fun K hK => ?_); go_simp; refine hK _ ?_; clear hK K) | (refine wpPlanZ_free (by rfl) (by rfl) (fun W => by (go_simp; try with_reducible rfl)) (fun K hK => ?_); go_simp; refine hK _ ?_; clear hK K) | (refine wpPlanZ_quiet (by rfl) (by rfl) (fun W hW => by (obtain ⟨s0, s1, s2, s3, s4, s5, t0, t1, t2, t3, t4, t5⟩ := hW; go_simp; try with_reducible rfl)) (fun K hK => ?_); go_simp; refine hK _ ?_; clear hK K))
                    refine wpPlanZ_nil ?_
                    by_cases hxz : x = z
                    · have hzb : (x == z) = true := by simpa using hxz
                      have HT2 : Hid (dupA [] l = true) := HF.out (by rw [HS.out, hxb.out, HTJ.out j hlk (by simpa using hxz.symm)]; rfl)
                      have HRF : Hid (rowE many last l = 7) := rowE_dup hlen.out HFI.out HFB2.out HT2.out
                      clear HT HTJ CK HK HS HF
                      go_wp2
                      go_ret
                      exact ⟨by rw [HRF.out]; rfl, B7.out⟩
                    · have hzb : (x == z) = false := by simpa using hxz
                      have HK2 : Hid ((decide (x ≠ 0) && (l.take (k + 1)).any fun p => decide (wrX p = x)) = false) := by
                        show _ = _
                        have h1 := HK.out
                        rw [hxb.out, Bool.true_and] at h1 ⊢
                        rw [HT.out, h1, decide_eq_false (fun h => hxz h.symm)]; rfl
                      clear HT HTJ CK HK hxz
                      go_wp2
                      go_roundw
                      case rel => exact ⟨k + 1, by omega, by go_num, HK2.out, B7.out⟩
                      case measure => simp [intOf]; omega
                  · have hx0 : x = 0 := by omega
                    have HK2 : Hid ((decide (x ≠ 0) && (l.take (k + 1)).any fun p => decide (wrX p = x)) = false) := by show _ = _; rw [hx0]; rfl
                    clear HT HTJ HK hx0
                    repeat (first | (refine wpPlanZ_skipP (by rfl) (by rfl) (fun K hK => ?_); go_simp; refine hK _ ?_; clear hK K) | (refine wpPlanZ_free (by rfl) (by rfl) (fun W => by (go_simp; try with_reducible rfl)) (fun K hK => ?_); go_simp; refine hK _ ?_; clear hK K) | (refine wpPlanZ_quiet (by rfl) (by rfl) (fun W hW => by (obtain ⟨s0, s1, s2, s3, s4, s5, t0, t1, t2, t3, t4, t5⟩ := hW; go_simp; try with_reducible rfl)) (fun K hK => ?_); go_simp; refine hK _ ?_; clear hK K))
                    refine wpPlanZ_nil ?_
                    go_wp2
                    go_roundw
                    case rel => exact ⟨k + 1, by omega, by go_num, HK2.out, B5.out⟩
                    case measure => simp [intOf]; omega
                · obtain rfl : k = j := by omega
                  have HN2 : Hid (dupA [] (l.take (k + 1)) = false) := by show _ = _; rw [HS.out]; exact HK.out
                  have HB2 : Hid (Below w.heap.size w wr) := hB
                  clear hB HK HS HF
                  go_wp2
                  go_roundw
                  case rel => exact ⟨k + 1, by omega, by go_num, HN2.out, HB2.out⟩
                  case measure => simp [intOf]; omega
            · obtain rfl : j = l.length := by omega
              have HDF : Hid (dupA [] l = false) := by have := HN.out; rwa [List.take_length] at this
              have HRF : Hid (rowE many last l = if last ≠ decide ((0 : Int) < oc) then 3 else 0) := by show _ = _; rw [HO2.out]; exact rowE_end hlen.out HFI.out HFB2.out HDF.out
              have HB2 : Hid (Below w.heap.size w wr) := hB
              clear hB HN HO2
              by_cases hoc : 0 < oc
              · have HRF2 : Hid (rowE many last l = if last ≠ true then 3 else 0) := by show _ = _; rw [HRF.out, decide_eq_true hoc]
                clear HRF
                cases last
                all_goals
                  go_wp2
                  go_ret
                  exact ⟨by rw [HRF2.out]; rfl, HB2.out⟩
              · have HRF2 : Hid (rowE many last l = if last ≠ false then 3 else 0) := by show _ = _; rw [HRF.out, decide_eq_false hoc]
                clear HRF
                cases last
                all_goals
                  go_wp2
                  go_ret
                  exact ⟨by rw [HRF2.out]; rfl, HB2.out⟩
end Go.Proofs.YtcccaejjhodnkabGreatDoor
