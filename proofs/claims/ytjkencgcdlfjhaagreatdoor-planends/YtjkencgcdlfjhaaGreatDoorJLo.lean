/-
  The document's isPlain.
-/
import Derived.Test.YtjkencgcdlfjhaaGreatDoorQOwnOps
import Derived.Test.YtjkencgcdlfjhaaGreatDoorJDoc1
import Derived.Test.YtjkencgcdlfjhaaGreatDoorJRun0
import Derived.Test.YtjkencgcdlfjhaaGreatDoorJMkW
import Derived.Test.YtjkencgcdlfjhaaGreatDoorJDoc3
import Derived.Test.YtjkencgcdlfjhaaGreatDoorJPl7
namespace Go.Proofs.YtjkencgcdlfjhaaGreatDoor
open Go.RowKit Go.Maps
open Num
set_option linter.unusedVariables false
theorem all_false {l : List Opx} {j : Nat} {o : Opx} (h : l[j]? = some o) (ho : plB o = false) : l.all plB = false := by
  apply Bool.eq_false_iff.2
  intro h2
  rw [List.all_eq_true.1 h2 o (List.mem_of_getElem? h)] at ho
  cases ho
set_option maxRecDepth 100000 in
set_option maxHeartbeats 2000000 in
theorem isPlain_any {w : World} {v : Value} {l : List Opx} (A : OpsIn w v l) (hl : (l.length : Int) ≤ 1000000) :
    Calls Tryz.prog 68 #[v] w fun e w' => e = .returned (.bool (l.all plB)) ∧ w' = w := by
  obtain ⟨ao, cap, rfl, hc, hh⟩ := A.sh
  have HH : Hid (0 < l.length → ∃ b off : Nat, ao = some ⟨b, off, none⟩ ∧ ∀ (i : Nat) (o : Opx), l[i]? = some o → ∀ (j : Nat) (u : Value), (opC o)[j]? = some u → w.cell? ⟨b, off + i * 6 + j, none⟩ = some u) := hh
  obtain ⟨R, hR⟩ : ∃ R, l.all plB = R := ⟨_, rfl⟩
  have HR : Hid (l.all plB = R) := hR
  rw [hR]
  clear A hh hR
  go_enter Tryz.func68, Tryz.ntmps68
  go_wp2
  go_loopw [3] (fun i wr => ∃ j : Nat, j ≤ l.length ∧ i = .int .i64 j ∧ (∀ q o, q < j → l[q]? = some o → plB o = true) ∧ wr = w) (fun i _ => l.length - (intOf i).toNat)
  case atStart => exact ⟨0, Nat.zero_le _, rfl, fun q o h => absurd h (by omega), rfl⟩
  case round =>
    obtain ⟨j, hj, rfl, hall, rfl⟩ := hrel
    have HA : Hid (∀ q o, q < j → l[q]? = some o → plB o = true) := hall
    clear hall
    by_cases hlt : j < l.length
    · obtain ⟨o, ho⟩ : ∃ o, l[j]? = some o := ⟨_, List.getElem?_eq_getElem hlt⟩
      obtain ⟨b, off, rfl, hcell⟩ := HH.out (by omega)
      obtain ⟨x0, x1, x2, x3, x4, x5⟩ := op_cells (hcell j o ho)
      have hbl := World.block_lt_of_cell? _ _ x0
      have hsum := isSum_any o.s wr
      have k1 := kn_eq o.s 1 (by omega) (by omega)
      have k2 := kn_eq o.s 2 (by omega) (by omega)
      have hlt' : (j : Int) < l.length := by omega
      have HO : Hid (l[j]? = some o) := ho
      have HP : Hid (plB o = decide (1 ≤ kn o.s ∧ kn o.s ≤ 20)) := rfl
      have step : plB o = true → Hid (∀ q p, q < j + 1 → l[q]? = some p → plB p = true) := fun h q p hq hp => by
        by_cases e : q = j
        · subst e; rw [HO.out] at hp; rw [← Option.some.inj hp]; exact h
        · exact HA.out q p (by omega) hp
      clear ho hcell HA HH
      by_cases h1 : kn o.s = 1
      · have k1' : (o.s.toList == [115, 101, 116]) = true := by rw [show (o.s.toList == [115, 101, 116]) = _ from k1]; simpa using h1
        have hs := step (by rw [HP.out]; simp; omega)
        rw [show decide (3 ≤ kn o.s ∧ kn o.s ≤ 20) = false by simp; omega] at hsum
        clear k1 k2 step
        go_wp2_with fail
        refine hsum.mono ?_
        rintro e w1 ⟨rfl, hw⟩
        rw [hw]
        clear hw w1 hsum
        go_wp2
        go_roundw
        case rel => exact ⟨j + 1, by omega, by go_num, hs.out, by trivial⟩
        case measure => simp [intOf]; omega
      have k1' : (o.s.toList == [115, 101, 116]) = false := by rw [show (o.s.toList == [115, 101, 116]) = _ from k1]; simpa using h1
      by_cases h2 : kn o.s = 2
      · have k2' : (o.s.toList == [99, 111, 112, 121]) = true := by rw [show (o.s.toList == [99, 111, 112, 121]) = _ from k2]; simpa using h2
        have hs := step (by rw [HP.out]; simp; omega)
        rw [show decide (3 ≤ kn o.s ∧ kn o.s ≤ 20) = false by simp; omega] at hsum
        clear k1 k2 step
        go_wp2_with fail
        refine hsum.mono ?_
        rintro e w1 ⟨rfl, hw⟩
        rw [hw]
        clear hw w1 hsum
        go_wp2
        go_roundw
        case rel => exact ⟨j + 1, by omega, by go_num, hs.out, by trivial⟩
        case measure => simp [intOf]; omega
      have k2' : (o.s.toList == [99, 111, 112, 121]) = false := by rw [show (o.s.toList == [99, 111, 112, 121]) = _ from k2]; simpa using h2
      by_cases h3 : 3 ≤ kn o.s ∧ kn o.s ≤ 20
      · have hs := step (by rw [HP.out]; simp; omega)
        rw [show decide (3 ≤ kn o.s ∧ kn o.s ≤ 20) = true by simpa using h3] at hsum
        clear k1 k2 step
        go_wp2_with fail
        refine hsum.mono ?_
        rintro e w1 ⟨rfl, hw⟩
        rw [hw]
        clear hw w1 hsum
        go_wp2
        go_roundw
        case rel => exact ⟨j + 1, by omega, by go_num, hs.out, by trivial⟩
        case measure => simp [intOf]; omega
      · have hf : Hid (R = false) := by
          show R = false
          rw [← HR.out]
          exact all_false HO.out (by rw [HP.out]; apply decide_eq_false; omega)
        rw [show decide (3 ≤ kn o.s ∧ kn o.s ≤ 20) = false by simpa using h3] at hsum
        clear k1 k2 step
        go_wp2_with fail
        refine hsum.mono ?_
        rintro e w1 ⟨rfl, hw⟩
        rw [hw]
        clear hw w1 hsum
        go_wp2
        go_ret
        exact ⟨by rw [hf.out]; rfl, rfl⟩
    · have hf : Hid (R = true) := by
        show R = true
        rw [← HR.out, List.all_eq_true]
        intro o ho
        obtain ⟨q, hq⟩ := List.getElem?_of_mem ho
        exact HA.out q o (by have := (List.getElem?_eq_some_iff.1 hq).1; omega) hq
      obtain rfl : j = l.length := by omega
      go_wp2
      go_ret
      exact ⟨by rw [hf.out]; rfl, rfl⟩
end Go.Proofs.YtjkencgcdlfjhaaGreatDoor
/-
  The document's touches.
-/
namespace Go.Proofs.YtjkencgcdlfjhaaGreatDoor
open Go.RowKit Go.Maps
open Num
set_option linter.unusedVariables false
def tch1 (d : Int) (p : Opx) : Bool := decide (wrX p = d) || (rdX p).any fun q => decide (q = d)
def tchB (a b : List Opx) : Bool := a.any fun o => b.any (tch1 (wrX o))
theorem any_none {α : Type} {l : List α} {f : α → Bool} (h : ∀ (q : Nat) (o : α), l[q]? = some o → f o = false) : l.any f = false := by
  apply Bool.eq_false_iff.2
  intro h2
  obtain ⟨o, ho, h3⟩ := List.any_eq_true.1 h2
  obtain ⟨q, hq⟩ := List.getElem?_of_mem ho
  rw [h q o hq] at h3
  cases h3
theorem any_some {α : Type} {l : List α} {f : α → Bool} {q : Nat} {o : α} (h : l[q]? = some o) (hf : f o = true) : l.any f = true := List.any_eq_true.2 ⟨o, List.mem_of_getElem? h, hf⟩
set_option maxRecDepth 100000 in
set_option maxHeartbeats 4000000 in
theorem touches_any {w : World} {va vb : Value} {a b : List Opx} (A : OpsIn w va a) (B : OpsIn w vb b) (ha : (a.length : Int) ≤ 1000000) (hb : (b.length : Int) ≤ 1000000) :
    Calls Tryz.prog 69 #[va, vb] w fun e w' => e = .returned (.bool (tchB a b)) ∧ Below w.heap.size w w' := by
  obtain ⟨ao, ca, rfl, _, hA⟩ := A.sh
  obtain ⟨bo, cb, rfl, _, hB⟩ := B.sh
  have HA : Hid (0 < a.length → ∃ b off : Nat, ao = some ⟨b, off, none⟩ ∧ ∀ (i : Nat) (o : Opx), a[i]? = some o → ∀ (j : Nat) (u : Value), (opC o)[j]? = some u → w.cell? ⟨b, off + i * 6 + j, none⟩ = some u) := hA
  have HB : Hid (0 < b.length → ∃ c off : Nat, bo = some ⟨c, off, none⟩ ∧ ∀ (i : Nat) (o : Opx), b[i]? = some o → ∀ (j : Nat) (u : Value), (opC o)[j]? = some u → w.cell? ⟨c, off + i * 6 + j, none⟩ = some u) := hB
  obtain ⟨R, hR⟩ : ∃ R, tchB a b = R := ⟨_, rfl⟩
  have HR : Hid (tchB a b = R) := hR
  rw [hR]
  clear A B hA hB hR
  go_enter Tryz.func69, Tryz.ntmps69
  go_wp2
  go_loopw [5] (fun i wr => ∃ j : Nat, j ≤ a.length ∧ i = .int .i64 j ∧ (∀ (q : Nat) (o : Opx), q < j → a[q]? = some o → b.any (tch1 (wrX o)) = false) ∧ Below w.heap.size w wr) (fun i _ => a.length - (intOf i).toNat)
  case atStart => exact ⟨0, Nat.zero_le _, rfl, fun q o h => absurd h (by omega), Below.refl _ _⟩
  case round =>
    obtain ⟨j, hj, rfl, hall, hB0⟩ := hrel
    have HL : Hid (∀ (q : Nat) (o : Opx), q < j → a[q]? = some o → b.any (tch1 (wrX o)) = false) := hall
    have B0 : Hid (Below w.heap.size w wr) := hB0
    clear hall
    by_cases hlt : j < a.length
    · obtain ⟨o, ho⟩ : ∃ o, a[j]? = some o := ⟨_, List.getElem?_eq_getElem hlt⟩
      obtain ⟨c, off, rfl, hcell⟩ := HA.out (by omega)
      obtain ⟨x0, x1, x2, x3, x4, x5⟩ := op_cells (w := wr) (fun k u hk => by rw [hB0.cell (World.block_lt_of_cell? _ _ (hcell j _ ho k u hk))]; exact hcell j _ ho k u hk)
      have hbl := World.block_lt_of_cell? _ _ x0
      have hlt' : (j : Int) < a.length := by omega
      have HO : Hid (a[j]? = some o) := ho
      have hw := writeOf_any o wr
      unfold opV at hw
      clear ho hcell hB0 HA
      generalize hd : wrX o = d at *
      have HD : Hid (wrX o = d) := hd
      clear hd
      go_wp2_with fail
      refine hw.mono ?_
      rintro e w1 ⟨rfl, hb1⟩
      have B1 : Hid (Below w.heap.size w w1) := B0.out.trans (hb1.mono B0.out.size)
      clear hw hb1 x0 x1 x2 x3 x4 x5 hbl B0
      go_wp2
      go_loopw [7] (fun i wq => ∃ k : Nat, k ≤ b.length ∧ i = .int .i64 k ∧ (∀ (q : Nat) (p : Opx), q < k → b[q]? = some p → tch1 d p = false) ∧ Below w.heap.size w wq) (fun i _ => b.length - (intOf i).toNat)
      case atStart => exact ⟨0, Nat.zero_le _, rfl, fun q o h => absurd h (by omega), B1.out⟩
      case round =>
        obtain ⟨k, hk, rfl, hall, hB2⟩ := hrel
        have HK : Hid (∀ (q : Nat) (p : Opx), q < k → b[q]? = some p → tch1 d p = false) := hall
        have B2 : Hid (Below w.heap.size w wr) := hB2
        clear hall B1
        by_cases hlk : k < b.length
        · obtain ⟨p, hp⟩ : ∃ p, b[k]? = some p := ⟨_, List.getElem?_eq_getElem hlk⟩
          obtain ⟨c2, off2, rfl, hcell⟩ := HB.out (by omega)
          have HC : Hid (∀ W, Below w.heap.size w W → W.cell? ⟨c2, off2 + k * 6, none⟩ = some (.string p.s) ∧ W.cell? ⟨c2, off2 + k * 6 + 1, none⟩ = some (.int .i64 p.d) ∧ W.cell? ⟨c2, off2 + k * 6 + 2, none⟩ = some (.int .i64 p.a) ∧ W.cell? ⟨c2, off2 + k * 6 + 3, none⟩ = some (.int .i64 p.b) ∧ W.cell? ⟨c2, off2 + k * 6 + 4, none⟩ = some (.int .u32 p.i) ∧ W.cell? ⟨c2, off2 + k * 6 + 5, none⟩ = some (.int .i64 p.t)) := fun W hW => op_cells fun i u hi => by rw [hW.cell (World.block_lt_of_cell? _ _ (hcell k _ hp i u hi))]; exact hcell k _ hp i u hi
          obtain ⟨x0, x1, x2, x3, x4, x5⟩ := HC.out wr hB2
          have hbl := World.block_lt_of_cell? _ _ x0
          have hlk' : (k : Int) < b.length := by omega
          have HP : Hid (b[k]? = some p) := hp
          have hw := writeOf_any p wr
          have hr := fun W => readsOf_any p W
          have HT : Hid (tch1 d p = (decide (wrX p = d) || (rdX p).any fun q => decide (q = d))) := rfl
          have hl3 : ((rdX p).length : Int) ≤ 3 := by unfold rdX; (repeat' split) <;> simp
          unfold opV at hw hr
          clear hp hcell hB2 HB
          generalize wrX p = wx at *
          generalize rdX p = L at *
          by_cases he : wx = d
          · have hee : (wx == d) = true := by simpa using he
            have hf : Hid (R = true) := by
              show R = true
              rw [← HR.out]
              exact any_some HO.out (by rw [HD.out]; exact any_some HP.out (by rw [HT.out]; simp [he]))
            go_wp2_with fail
            refine hw.mono ?_
            rintro e w3 ⟨rfl, hb3⟩
            have B3 : Hid (Below w.heap.size w w3) := B2.out.trans (hb3.mono B2.out.size)
            clear hw hb3 x0 x1 x2 x3 x4 x5 hbl
            go_wp2
            go_ret
            exact ⟨by rw [hf.out]; rfl, B3.out⟩
          have hee : (wx == d) = false := by simpa using he
          have HNE : Hid (¬ wx = d) := he
          clear he
          go_wp2_with fail
          refine hw.mono ?_
          rintro e w3 ⟨rfl, hb3⟩
          have B3 : Hid (Below w.heap.size w w3) := B2.out.trans (hb3.mono B2.out.size)
          clear hw hb3 x0 x1 x2 x3 x4 x5 hbl B2
          obtain ⟨x0, x1, x2, x3, x4, x5⟩ := HC.out w3 B3.out
          have hbl := World.block_lt_of_cell? _ _ x0
          go_wp2_with fail
          refine (hr _).mono ?_
          rintro e w4 ⟨v4, rfl, hown, hb4⟩
          obtain ⟨lo4, cp4, rfl, hcp4, hcl4⟩ := ints_cell hown
          have HC4 : Hid (0 < L.length → ∃ g, lo4 = some ⟨g, 0, none⟩ ∧ w3.heap.size ≤ g ∧ ∀ (i : Nat) (x : Int), L[i]? = some x → w4.cell? ⟨g, i, none⟩ = some (.int .i64 x)) := hcl4
          have B4 : Hid (Below w.heap.size w w4) := B3.out.trans (hb4.mono B3.out.size)
          clear hr hb4 x0 x1 x2 x3 x4 x5 hbl B3 hcl4 hown hee
          go_wp2
          go_loopw [9] (fun i wq => ∃ n : Nat, n ≤ L.length ∧ i = .int .i64 n ∧ (∀ (q : Nat) (x : Int), q < n → L[q]? = some x → decide (x = d) = false) ∧ wq = w4) (fun i _ => L.length - (intOf i).toNat)
          case atStart => exact ⟨0, Nat.zero_le _, rfl, fun q o h => absurd h (by omega), rfl⟩
          case round =>
            obtain ⟨n, hn, rfl, hall, rfl⟩ := hrel
            have HN : Hid (∀ (q : Nat) (x : Int), q < n → L[q]? = some x → decide (x = d) = false) := hall
            clear hall
            by_cases hln : n < L.length
            · obtain ⟨x, hx⟩ : ∃ x, L[n]? = some x := ⟨_, List.getElem?_eq_getElem hln⟩
              obtain ⟨g, rfl, _, hcg⟩ := HC4.out (by omega)
              have y0 := hcg n x hx
              have hgl := World.block_lt_of_cell? _ _ y0
              have hln' : (n : Int) < L.length := by omega
              have HX : Hid (L[n]? = some x) := hx
              clear hx hcg HC4
              by_cases hxd : x = d
              · have hxe : (x == d) = true := by simpa using hxd
                have hf : Hid (R = true) := by
                  show R = true
                  rw [← HR.out]
                  exact any_some HO.out (by rw [HD.out]; exact any_some HP.out (by rw [HT.out, any_some HX.out (by simpa using hxd)]; simp))
                go_wp2
                go_ret
                exact ⟨by rw [hf.out]; rfl, B4.out⟩
              · have hxe : (x == d) = false := by simpa using hxd
                have hs : Hid (∀ (q : Nat) (y : Int), q < n + 1 → L[q]? = some y → decide (y = d) = false) := fun q y hq hy => by
                  by_cases e : q = n
                  · subst e; rw [HX.out] at hy; rw [← Option.some.inj hy]; simpa using hxd
                  · exact HN.out q y (by omega) hy
                clear hxd
                go_wp2
                go_roundw
                case rel => exact ⟨n + 1, by omega, by go_num, hs.out, by trivial⟩
                case measure => simp [intOf]; omega
            · have hs : Hid (∀ (q : Nat) (p' : Opx), q < k + 1 → b[q]? = some p' → tch1 d p' = false) := fun q y hq hy => by
                by_cases e : q = k
                · subst e; rw [HP.out] at hy; rw [← Option.some.inj hy, HT.out, any_none (fun q x hx => HN.out q x (by have := (List.getElem?_eq_some_iff.1 hx).1; omega) hx)]; simp [HNE.out]
                · exact HK.out q y (by omega) hy
              obtain rfl : n = L.length := by omega
              go_wp2
              go_roundw
              case rel => exact ⟨k + 1, by omega, by go_num, hs.out, B4.out⟩
              case measure => simp [intOf]; omega
        · have hs : Hid (∀ (q : Nat) (o' : Opx), q < j + 1 → a[q]? = some o' → b.any (tch1 (wrX o')) = false) := fun q y hq hy => by
            by_cases e : q = j
            · subst e; rw [HO.out] at hy; rw [← Option.some.inj hy, HD.out]; exact any_none fun q p hp => HK.out q p (by have := (List.getElem?_eq_some_iff.1 hp).1; omega) hp
            · exact HL.out q y (by omega) hy
          obtain rfl : k = b.length := by omega
          go_wp2
          go_roundw
          case rel => exact ⟨j + 1, by omega, by go_num, hs.out, B2.out⟩
          case measure => simp [intOf]; omega
    · have hf : Hid (R = false) := by
        show R = false
        rw [← HR.out]
        exact any_none fun q o ho => HL.out q o (by have := (List.getElem?_eq_some_iff.1 ho).1; omega) ho
      obtain rfl : j = a.length := by omega
      go_wp2
      go_ret
      exact ⟨by rw [hf.out]; rfl, B0.out⟩
end Go.Proofs.YtjkencgcdlfjhaaGreatDoor
/-
  The document's LooseOf, of rows of which no two that stand one behind the other are loose.
-/
namespace Go.Proofs.YtjkencgcdlfjhaaGreatDoor
open Go.RowKit Go.Maps
open Num
set_option linter.unusedVariables false
structure CkL (W : World) (b i k : Nat) (u s : Value) : Prop where
  a : W.cell? ⟨b, i, none⟩ = some u
  b : W.cell? ⟨b, k, none⟩ = some s
theorem CkL.stays {W W' : World} {b i k : Nat} {u s : Value} (C : CkL W b i k u s) (h : Below W.heap.size W W') : CkL W' b i k u s :=
  ⟨(h.cell (p := ⟨b, i, none⟩) (World.block_lt_of_cell? _ _ C.a)).trans C.a, (h.cell (p := ⟨b, k, none⟩) (World.block_lt_of_cell? _ _ C.b)).trans C.b⟩
set_option maxRecDepth 100000 in
set_option maxHeartbeats 8000000 in
theorem looseOf_any {w : World} {v : Value} {rs : List (List Opx)} (R : RowsI w v rs) (F : Few rs) (hT : ∀ (j : Nat) (r s : List Opx), rs[j]? = some r → rs[j + 1]? = some s → r.all plB = true → s.all plB = true → r.length + s.length ≤ 3 → tchB r s = true ∨ tchB s r = true) :
    Calls Tryz.prog 33 #[v] w fun e w' => e = .returned (.int .i64 0) ∧ Below w.heap.size w w' := by
  have HRS : Hid (∀ W, Below w.heap.size w W → RowsI W v rs) := fun W hW => R.stays hW
  have HT : Hid (∀ (j : Nat) (r s : List Opx), rs[j]? = some r → rs[j + 1]? = some s → r.all plB = true → s.all plB = true → r.length + s.length ≤ 3 → tchB r s = true ∨ tchB s r = true) := hT
  have FH : Hid (Few rs) := F
  have hF := F.1
  obtain ⟨ao, cap, rfl, _, _⟩ := R
  clear hT F
  go_enter Tryz.func33, Tryz.ntmps33
  go_wp2
  go_loopw [3, 4] (fun n i wr => ∃ j : Nat, j ≤ rs.length ∧ i = .int .i64 j ∧ n = .int .i64 0 ∧ Below w.heap.size w wr) (fun _ i _ => rs.length - (intOf i).toNat)
  case atStart => exact ⟨0, Nat.zero_le _, rfl, rfl, Below.refl _ _⟩
  case round =>
    obtain ⟨j, hj, rfl, rfl, hB⟩ := hrel
    have B0 : Hid (Below w.heap.size w wr) := hB
    by_cases hlt : j + 1 < rs.length
    · obtain ⟨r, hr⟩ : ∃ r, rs[j]? = some r := ⟨_, List.getElem?_eq_getElem (by omega)⟩
      obtain ⟨s, hs⟩ : ∃ s, rs[j + 1]? = some s := ⟨_, List.getElem?_eq_getElem hlt⟩
      have HJ : Hid (r.all plB = true → s.all plB = true → r.length + s.length ≤ 3 → tchB r s = true ∨ tchB s r = true) := HT.out j r s hr hs
      have hr1 := FH.out.2 r (List.mem_of_getElem? hr)
      have hs1 := FH.out.2 s (List.mem_of_getElem? hs)
      obtain ⟨ao', cap', ee, _, hh⟩ := HRS.out wr hB
      injection ee with ee1 ee2 ee3
      subst ee1 ee3
      obtain ⟨b, off, rfl, hcell⟩ := hh (by omega)
      obtain ⟨u, hu, hO⟩ := hcell j r hr
      obtain ⟨u', hu', hO'⟩ := hcell (j + 1) s hs
      obtain ⟨a1, c1, rfl, _, _⟩ := hO.sh
      obtain ⟨a2, c2, rfl, _, _⟩ := hO'.sh
      obtain ⟨j1, hj1⟩ : ∃ j1 : Nat, j1 = j + 1 := ⟨_, rfl⟩
      have CK : Hid (CkL wr b (off + j) (off + j1) (.slice a1 r.length c1) (.slice a2 s.length c2)) := ⟨hu, by rw [hj1]; exact hu'⟩
      have O1 : Hid (OpsIn wr (.slice a1 r.length c1) r) := hO
      have O2 : Hid (OpsIn wr (.slice a2 s.length c2) s) := hO'
      have hp1 := isPlain_any hO (by omega)
      have hp2 := isPlain_any hO' (by omega)
      have zb := World.block_lt_of_cell? _ _ hu
      have hlt0 : (j : Int) < rs.length := by omega
      have hlt1 : (j : Int) + 1 < rs.length := by omega
      have hwr : IntKind.i64.wrap ((j : Int) + 1) = (j1 : Int) := by rw [IntKind.wrap_i64]; omega
      have hlt2 : (j1 : Int) < rs.length := by omega
      have HJ1 : Hid (j1 = j + 1) := hj1
      have hu1 := CK.out.b
      clear hj1
      have hwl : IntKind.i64.wrap ((r.length : Int) + (s.length : Int)) = (r.length : Int) + (s.length : Int) := by rw [IntKind.wrap_i64]; omega
      have t1 := fun (W : World) (hW : Below wr.heap.size wr W) => touches_any (O1.out.stays hW) (O2.out.stays hW) (by omega) (by omega)
      have t2 := fun (W : World) (hW : Below wr.heap.size wr W) => touches_any (O2.out.stays hW) (O1.out.stays hW) (by omega) (by omega)
      generalize r.all plB = P at *
      generalize s.all plB = Q at *
      generalize tchB r s = X at *
      generalize tchB s r = Y at *
      clear hr hs hh hcell hO hO' hB HT FH
      cases P with
      | false =>
        go_wp2_with fail
        refine hp1.mono ?_
        rintro e w1 ⟨rfl, hw⟩
        rw [hw]
        clear hw w1 hp1
        go_wp2_with fail
        refine hp2.mono ?_
        rintro e w1 ⟨rfl, hw⟩
        rw [hw]
        clear hw w1 hp2
        go_upto_region 7 with fail
        refine wp_region_phase 21 [(0, 0), (1, 0), (2, 0), (3, 0), (4, 0), (5, 0), (6, 0), (7, 0), (8, 0), (9, 0), (10, 1), (11, 0), (12, 0), (13, 0), (14, 0), (15, 0), (16, 1), (17, 0), (18, 0), (19, 0), (20, 0)] (fun W => CkL W b (off + j) (off + j1) (.slice a1 r.length c1) (.slice a2 s.length c2)) (by kernel_rfl) (by kernel_rfl) (fun _ _ _ d _ h => by cases d <;> exact h) (by first | exact CK.out | exact CK.out.stays (Below.refl _ _).drew) ?_
        repeat (first | (refine wpPlanZ_skipP (by rfl) (by rfl) (fun K hK => ?_); go_simp; refine hK _ ?_; clear hK K) | (refine wpPlanZ_free (by rfl) (by rfl) (fun W => by (go_simp; try with_reducible rfl)) (fun K hK => ?_); go_simp; refine hK _ ?_; clear hK K; try simp only [hwr, hwl]) | (refine wpPlanZ_quiet (by rfl) (by rfl) (fun W hW => by (obtain ⟨z0, z1⟩ := hW; go_simp; try with_reducible rfl)) (fun K hK => ?_); go_simp; refine hK _ ?_; clear hK K))
        refine wpPlanZ_nil ?_
        go_wp2
        go_roundw
        case rel => first | exact ⟨j1, by have := HJ1.out; omega, by go_num, by go_num, by first | exact B0.out | exact B0.out.drew⟩ | exact ⟨j + 1, by omega, by go_num, by go_num, by first | exact B0.out | exact B0.out.drew⟩
        case measure => simp [intOf]; have := HJ1.out; omega
      | true =>
        cases Q with
        | false =>
          go_wp2_with fail
          refine hp1.mono ?_
          rintro e w1 ⟨rfl, hw⟩
          rw [hw]
          clear hw w1 hp1
          go_wp2_with fail
          refine hp2.mono ?_
          rintro e w1 ⟨rfl, hw⟩
          rw [hw]
          clear hw w1 hp2
          go_upto_region 7 with fail
          refine wp_region_phase 21 [(0, 0), (1, 0), (2, 0), (3, 0), (4, 0), (5, 0), (6, 0), (7, 0), (8, 0), (9, 0), (10, 1), (11, 0), (12, 0), (13, 0), (14, 0), (15, 0), (16, 1), (17, 0), (18, 0), (19, 0), (20, 0)] (fun W => CkL W b (off + j) (off + j1) (.slice a1 r.length c1) (.slice a2 s.length c2)) (by kernel_rfl) (by kernel_rfl) (fun _ _ _ d _ h => by cases d <;> exact h) (by first | exact CK.out | exact CK.out.stays (Below.refl _ _).drew) ?_
          repeat (first | (refine wpPlanZ_skipP (by rfl) (by rfl) (fun K hK => ?_); go_simp; refine hK _ ?_; clear hK K) | (refine wpPlanZ_free (by rfl) (by rfl) (fun W => by (go_simp; try with_reducible rfl)) (fun K hK => ?_); go_simp; refine hK _ ?_; clear hK K; try simp only [hwr, hwl]) | (refine wpPlanZ_quiet (by rfl) (by rfl) (fun W hW => by (obtain ⟨z0, z1⟩ := hW; go_simp; try with_reducible rfl)) (fun K hK => ?_); go_simp; refine hK _ ?_; clear hK K))
          refine wpPlanZ_nil ?_
          go_wp2
          go_roundw
          case rel => first | exact ⟨j1, by have := HJ1.out; omega, by go_num, by go_num, by first | exact B0.out | exact B0.out.drew⟩ | exact ⟨j + 1, by omega, by go_num, by go_num, by first | exact B0.out | exact B0.out.drew⟩
          case measure => simp [intOf]; have := HJ1.out; omega
        | true =>
          by_cases h3 : 3 < (r.length : Int) + s.length
          · go_wp2_with fail
            refine hp1.mono ?_
            rintro e w1 ⟨rfl, hw⟩
            rw [hw]
            clear hw w1 hp1
            go_wp2_with fail
            refine hp2.mono ?_
            rintro e w1 ⟨rfl, hw⟩
            rw [hw]
            clear hw w1 hp2
            go_upto_region 7 with fail
            refine wp_region_phase 21 [(0, 0), (1, 0), (2, 0), (3, 0), (4, 0), (5, 0), (6, 0), (7, 0), (8, 0), (9, 0), (10, 1), (11, 0), (12, 0), (13, 0), (14, 0), (15, 0), (16, 1), (17, 0), (18, 0), (19, 0), (20, 0)] (fun W => CkL W b (off + j) (off + j1) (.slice a1 r.length c1) (.slice a2 s.length c2)) (by kernel_rfl) (by kernel_rfl) (fun _ _ _ d _ h => by cases d <;> exact h) (by first | exact CK.out | exact CK.out.stays (Below.refl _ _).drew) ?_
            repeat (first | (refine wpPlanZ_skipP (by rfl) (by rfl) (fun K hK => ?_); go_simp; refine hK _ ?_; clear hK K) | (refine wpPlanZ_free (by rfl) (by rfl) (fun W => by (go_simp; try with_reducible rfl)) (fun K hK => ?_); go_simp; refine hK _ ?_; clear hK K; try simp only [hwr, hwl]) | (refine wpPlanZ_quiet (by rfl) (by rfl) (fun W hW => by (obtain ⟨z0, z1⟩ := hW; go_simp; try with_reducible rfl)) (fun K hK => ?_); go_simp; refine hK _ ?_; clear hK K))
            refine wpPlanZ_nil ?_
            go_wp2
            go_roundw
            case rel => first | exact ⟨j1, by have := HJ1.out; omega, by go_num, by go_num, by first | exact B0.out | exact B0.out.drew⟩ | exact ⟨j + 1, by omega, by go_num, by go_num, by first | exact B0.out | exact B0.out.drew⟩
            case measure => simp [intOf]; have := HJ1.out; omega
          · have HXY : Hid (X = true ∨ Y = true) := HJ.out rfl rfl (by omega)
            go_wp2_with fail
            refine hp1.mono ?_
            rintro e w1 ⟨rfl, hw⟩
            rw [hw]
            clear hw w1 hp1
            go_wp2_with fail
            refine hp2.mono ?_
            rintro e w1 ⟨rfl, hw⟩
            rw [hw]
            clear hw w1 hp2
            go_upto_region 7 with fail
            refine wp_region_phase 21 [(0, 0), (1, 0), (2, 0), (3, 0), (4, 0), (5, 0), (6, 0), (7, 0), (8, 0), (9, 0), (10, 1), (11, 0), (12, 0), (13, 0), (14, 0), (15, 0), (16, 1), (17, 0), (18, 0), (19, 0), (20, 0)] (fun W => CkL W b (off + j) (off + j1) (.slice a1 r.length c1) (.slice a2 s.length c2)) (by kernel_rfl) (by kernel_rfl) (fun _ _ _ d _ h => by cases d <;> exact h) (by first | exact CK.out | exact CK.out.stays (Below.refl _ _).drew) ?_
            repeat (first | (refine wpPlanZ_skipP (by rfl) (by rfl) (fun K hK => ?_); go_simp; refine hK _ ?_; clear hK K) | (refine wpPlanZ_free (by rfl) (by rfl) (fun W => by (go_simp; try with_reducible rfl)) (fun K hK => ?_); go_simp; refine hK _ ?_; clear hK K; try simp only [hwr, hwl]) | (refine wpPlanZ_quiet (by rfl) (by rfl) (fun W hW => by (obtain ⟨z0, z1⟩ := hW; go_simp; try with_reducible rfl)) (fun K hK => ?_); go_simp; refine hK _ ?_; clear hK K))
            refine wpPlanZ_nil ?_
            have R0 : Hid (Below wr.heap.size wr wr.drew) := (Below.refl _ _).drew
            go_upto_region 8 with fail
            refine wp_region_phase 11 [(0, 0), (1, 0), (2, 0), (3, 1), (4, 0), (5, 0), (6, 0), (7, 0), (8, 1), (9, 2), (10, 0)] (fun W => CkL W b (off + j) (off + j1) (.slice a1 r.length c1) (.slice a2 s.length c2)) (by kernel_rfl) (by kernel_rfl) (fun _ _ _ d _ h => by cases d <;> exact h) (CK.out.stays (by first | exact R0.out | exact (R0.out).drew)) ?_
            repeat (first | (refine wpPlanZ_skipP (by rfl) (by rfl) (fun K hK => ?_); go_simp; refine hK _ ?_; clear hK K) | (refine wpPlanZ_free (by rfl) (by rfl) (fun W => by (go_simp; try with_reducible rfl)) (fun K hK => ?_); go_simp; refine hK _ ?_; clear hK K; try simp only [hwr, hwl]) | (refine wpPlanZ_quiet (by rfl) (by rfl) (fun W hW => by (obtain ⟨z0, z1⟩ := hW; go_simp; try with_reducible rfl)) (fun K hK => ?_); go_simp; refine hK _ ?_; clear hK K))
            refine wpPlanZ_serial (by rfl) (by rfl) (fun K hK => ?_)
            go_simp
            refine (t1 _ (by first | exact R0.out | exact (R0.out).drew | exact (R0.out).drew.drew)).mono ?_
            rintro e w5 ⟨rfl, hd⟩
            have D5 : Hid (Below wr.heap.size wr w5) := (by first | exact R0.out | exact (R0.out).drew | exact (R0.out).drew.drew : Below wr.heap.size wr _).trans (hd.mono (by have := Below.size (R0.out); first | exact this | omega))
            refine hK _ _ (fun _ => CK.out.stays D5.out) ?_
            clear hK K hd
            repeat (first | (refine wpPlanZ_skipP (by rfl) (by rfl) (fun K hK => ?_); go_simp; refine hK _ ?_; clear hK K) | (refine wpPlanZ_free (by rfl) (by rfl) (fun W => by (go_simp; try with_reducible rfl)) (fun K hK => ?_); go_simp; refine hK _ ?_; clear hK K; try simp only [hwr, hwl]) | (refine wpPlanZ_quiet (by rfl) (by rfl) (fun W hW => by (obtain ⟨z0, z1⟩ := hW; go_simp; try with_reducible rfl)) (fun K hK => ?_); go_simp; refine hK _ ?_; clear hK K))
            refine wpPlanZ_nil ?_
            go_upto_region 9 with fail
            refine wp_region_phase 11 [(0, 0), (1, 0), (2, 0), (3, 0), (4, 1), (5, 0), (6, 0), (7, 0), (8, 1), (9, 2), (10, 0)] (fun W => CkL W b (off + j) (off + j1) (.slice a1 r.length c1) (.slice a2 s.length c2)) (by kernel_rfl) (by kernel_rfl) (fun _ _ _ d _ h => by cases d <;> exact h) (CK.out.stays (by first | exact D5.out | exact (D5.out).drew)) ?_
            repeat (first | (refine wpPlanZ_skipP (by rfl) (by rfl) (fun K hK => ?_); go_simp; refine hK _ ?_; clear hK K) | (refine wpPlanZ_free (by rfl) (by rfl) (fun W => by (go_simp; try with_reducible rfl)) (fun K hK => ?_); go_simp; refine hK _ ?_; clear hK K; try simp only [hwr, hwl]) | (refine wpPlanZ_quiet (by rfl) (by rfl) (fun W hW => by (obtain ⟨z0, z1⟩ := hW; go_simp; try with_reducible rfl)) (fun K hK => ?_); go_simp; refine hK _ ?_; clear hK K))
            refine wpPlanZ_serial (by rfl) (by rfl) (fun K hK => ?_)
            go_simp
            refine (t2 _ (by first | exact D5.out | exact (D5.out).drew | exact (D5.out).drew.drew)).mono ?_
            rintro e w6 ⟨rfl, hd⟩
            have D6 : Hid (Below wr.heap.size wr w6) := (by first | exact D5.out | exact (D5.out).drew | exact (D5.out).drew.drew : Below wr.heap.size wr _).trans (hd.mono (by have := Below.size (D5.out); first | exact this | omega))
            refine hK _ _ (fun _ => CK.out.stays D6.out) ?_
            clear hK K hd
            repeat (first | (refine wpPlanZ_skipP (by rfl) (by rfl) (fun K hK => ?_); go_simp; refine hK _ ?_; clear hK K) | (refine wpPlanZ_free (by rfl) (by rfl) (fun W => by (go_simp; try with_reducible rfl)) (fun K hK => ?_); go_simp; refine hK _ ?_; clear hK K; try simp only [hwr, hwl]) | (refine wpPlanZ_quiet (by rfl) (by rfl) (fun W hW => by (obtain ⟨z0, z1⟩ := hW; go_simp; try with_reducible rfl)) (fun K hK => ?_); go_simp; refine hK _ ?_; clear hK K))
            refine wpPlanZ_nil ?_
            have B6 : Hid (Below w.heap.size w w6) := B0.out.trans (D6.out.mono B0.out.size)
            cases X with
            | true =>
              go_wp2
              go_roundw
              case rel => first | exact ⟨j1, by have := HJ1.out; omega, by go_num, by go_num, by first | exact B6.out | exact B6.out.drew⟩ | exact ⟨j + 1, by omega, by go_num, by go_num, by first | exact B6.out | exact B6.out.drew⟩
              case measure => simp [intOf]; have := HJ1.out; omega
            | false =>
              have hY : Y = true := HXY.out.resolve_left (by simp)
              subst hY
              go_wp2
              go_roundw
              case rel => first | exact ⟨j1, by have := HJ1.out; omega, by go_num, by go_num, by first | exact B6.out | exact B6.out.drew⟩ | exact ⟨j + 1, by omega, by go_num, by go_num, by first | exact B6.out | exact B6.out.drew⟩
              case measure => simp [intOf]; have := HJ1.out; omega
    · go_wp2
      go_ret
      exact ⟨rfl, B0.out⟩
end Go.Proofs.YtjkencgcdlfjhaaGreatDoor
