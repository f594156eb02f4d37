/-
  Package plan: whether two ops of a row write one register; whether one leaves.
-/
import Derived.Test.YtcccaejjhodnkabGreatDoorQPl1
namespace Go.Proofs.YtcccaejjhodnkabGreatDoor
open Go.RowKit Go.Maps
open Num
set_option linter.unusedVariables false
structure BoxP (W : World) (x : Nat) (o : Opx) : Prop where
  c0 : W.cell? ⟨x, 0, none⟩ = some (.string o.s)
  c1 : W.cell? ⟨x, 1, none⟩ = some (.int .i64 o.d)
  c2 : W.cell? ⟨x, 2, none⟩ = some (.int .i64 o.a)
  c3 : W.cell? ⟨x, 3, none⟩ = some (.int .i64 o.b)
  c4 : W.cell? ⟨x, 4, none⟩ = some (.int .u32 o.i)
  c5 : W.cell? ⟨x, 5, none⟩ = some (.int .i64 o.t)
theorem BoxP.lt {W : World} {x : Nat} {o : Opx} (B : BoxP W x o) : x < W.heap.size := World.block_lt_of_cell? _ _ B.c0
theorem BoxP.block {W W' : World} {x : Nat} {o : Opx} (B : BoxP W x o) (h : W'.heap[x]? = W.heap[x]?) : BoxP W' x o := by
  have c : ∀ j, W'.cell? ⟨x, j, none⟩ = W.cell? ⟨x, j, none⟩ := fun j => World.cell?_of_block (a := ⟨x, j, none⟩) h
  exact ⟨(c 0).trans B.c0, (c 1).trans B.c1, (c 2).trans B.c2, (c 3).trans B.c3, (c 4).trans B.c4, (c 5).trans B.c5⟩
theorem BoxP.stays {W W' : World} {x : Nat} {o : Opx} (B : BoxP W x o) (h : Below W.heap.size W W') : BoxP W' x o := B.block (h.block _ B.lt)
theorem BoxP.new (w : World) (o : Opx) : BoxP (w.alloc (.cells #[.string o.s, .int .i64 o.d, .int .i64 o.a, .int .i64 o.b, .int .u32 o.i, .int .i64 o.t] 64)) w.heap.size o := by
  have c : ∀ j, (w.alloc (.cells #[.string o.s, .int .i64 o.d, .int .i64 o.a, .int .i64 o.b, .int .u32 o.i, .int .i64 o.t] 64)).cell? ⟨w.heap.size, j, none⟩ = (#[.string o.s, .int .i64 o.d, .int .i64 o.a, .int .i64 o.b, .int .u32 o.i, .int .i64 o.t] : Array Value)[j]? := fun j => cell_of_row _ _ _ _ _ _ (heap_alloc_new w _)
  exact ⟨c 0, c 1, c 2, c 3, c 4, c 5⟩
structure CkS (W : World) (x b : Nat) (o : Opx) (to : Int) : Prop where
  bx : BoxP W x o
  c : W.cell? ⟨b, 0, none⟩ = some (.int .i64 to)
theorem OpsIn.takeP {w : World} {b off cap : Nat} {l : List Opx} (C : ∀ (i : Nat) (o : Opx), l[i]? = some o → ∀ (j : Nat) (u : Value), (opC o)[j]? = some u → w.cell? ⟨b, off + i * 6 + j, none⟩ = some u) (ok : ∀ o ∈ l, o.ok) (j : Nat) (hj : j ≤ l.length) (hc : l.length ≤ cap) : OpsIn w (.slice (some ⟨b, off, none⟩) j cap) (l.take j) := by
  have hlen : (l.take j).length = j := by rw [List.length_take]; omega
  refine ⟨⟨some ⟨b, off, none⟩, cap, by rw [hlen], by omega, fun _ => ⟨b, off, rfl, fun i o hi k u hk => C i o ?_ k u hk⟩⟩, fun o ho => ok o (List.mem_of_mem_take ho)⟩
  rw [List.getElem?_take] at hi
  split at hi
  · exact hi
  · cases hi
set_option maxRecDepth 100000 in
set_option maxHeartbeats 1000000 in
theorem same_any (o : Opx) (b : Nat) (to : Int) (w : World) (hc : w.cell? ⟨b, 0, none⟩ = some (.int .i64 to)) :
    Calls Tryz.prog 77 #[opV o, .pointer (some ⟨b, 0, none⟩)] w fun e w' => e = .returned (.bool (decide (wrX o = to))) ∧ Below w.heap.size w w' := by
  have hwr := fun W => writes_any o W
  have hb := World.block_lt_of_cell? _ _ hc
  have B0 : Below w.heap.size w (w.alloc (.cells #[.string o.s, .int .i64 o.d, .int .i64 o.a, .int .i64 o.b, .int .u32 o.i, .int .i64 o.t] 64)) := (Below.refl _ _).alloc (Nat.le_refl _) _
  have bx := BoxP.new w o
  have c1 := (B0.cell (p := ⟨b, 0, none⟩) hb).trans hc
  have HR : Hid (decide (wrX o = to) = (wrX o == to)) := by
    show _ = _
    rw [Bool.eq_iff_iff]; simp
  clear hc
  generalize wrX o = x at *
  rw [HR.out]
  clear HR
  unfold opV at *
  go_enter Tryz.func77, Tryz.ntmps77
  go_upto_region 1 with fail
  generalize w.alloc (.cells #[.string o.s, .int .i64 o.d, .int .i64 o.a, .int .i64 o.b, .int .u32 o.i, .int .i64 o.t] 64) = V at *
  have HB : Hid (Below w.heap.size w V) := B0
  clear B0
  refine wp_region_phase 5 [(0, 1), (2, 1), (1, 2), (3, 0), (4, 0)] (fun W => CkS W w.heap.size b o to) (by kernel_rfl) (by kernel_rfl) (fun _ _ _ d _ h => by cases d <;> exact h) ⟨⟨by simpa using bx.c0, by simpa using bx.c1, by simpa using bx.c2, by simpa using bx.c3, by simpa using bx.c4, by simpa using bx.c5⟩, by simpa using c1⟩ ?_
  repeat (first | (refine wpPlanZ_free (by rfl) (by rfl) (fun W => by (go_simp; try with_reducible rfl)) (fun K hK => ?_); go_simp; refine hK _ ?_; clear hK K) | (refine wpPlanZ_quiet (by rfl) (by rfl) (fun W hW => by (obtain ⟨⟨z0, z1, z2, z3, z4, z5⟩, z6⟩ := hW; go_simp; try with_reducible rfl)) (fun K hK => ?_); go_simp; refine hK _ ?_; clear hK K))
  refine wpPlanZ_serial (by rfl) (by rfl) (fun K hK => ?_)
  go_simp
  refine (hwr _).mono ?_
  rintro e w2 ⟨rfl, hb2⟩
  have B2 : Hid (Below w.heap.size w w2) := HB.out.drew.trans (hb2.mono HB.out.size)
  have hz := bx.lt
  have bx2 : BoxP w2 w.heap.size o := bx.block (hb2.block _ hz)
  have c2 : w2.cell? ⟨b, 0, none⟩ = some (.int .i64 to) := (hb2.cell (p := ⟨b, 0, none⟩) (World.block_lt_of_cell? _ _ c1)).trans c1
  refine hK _ _ (fun _ => ⟨bx2, c2⟩) ?_
  clear hK K hb2 bx c1 bx2 c2 hwr HB
  repeat (refine wpPlanZ_free (by rfl) (by rfl) (fun W => by (go_simp; try with_reducible rfl)) (fun K hK => ?_); go_simp; refine hK _ ?_; clear hK K)
  refine wpPlanZ_nil ?_
  go_wp2
  go_ret
  exact ⟨rfl, B2.out⟩
set_option maxRecDepth 100000 in
set_option maxHeartbeats 2000000 in
theorem idxOut {w : World} {v : Value} {l : List Opx} (A : OpsIn w v l) (hl : (l.length : Int) ≤ 1000000) :
    Calls Tryz.prog 78 #[v, .func (.func 67) #[] #[]] w fun e w' => (∃ r : Int, e = .returned (.int .i64 r) ∧ ((0 ≤ r ∧ l.any (fun o => outB o) = true) ∨ (r = -1 ∧ l.any (fun o => outB o) = false))) ∧ Below w.heap.size w w' := by
  obtain ⟨ao, cap, rfl, hc, hh⟩ := A.sh
  have HH : Hid (0 < l.length → ∃ b off : Nat, ao = some ⟨b, off, none⟩ ∧ ∀ (i : Nat) (o : Opx), l[i]? = some o → ∀ (j : Nat) (u : Value), (opC o)[j]? = some u → w.cell? ⟨b, off + i * 6 + j, none⟩ = some u) := hh
  clear hh A
  go_enter Tryz.func78, Tryz.ntmps78
  go_wp2
  go_loopw [8] (fun i wr => ∃ j : Nat, j ≤ l.length ∧ i = .int .i64 j ∧ Hid ((l.take j).any (fun o => outB o) = false) ∧ Below w.heap.size w wr) (fun i _ => l.length - (intOf i).toNat)
  case atStart => exact ⟨0, Nat.zero_le _, rfl, by show _ = _; simp, Below.refl _ _⟩
  case round =>
    obtain ⟨j, hj, rfl, HN, hB⟩ := hrel
    by_cases hlt : j < l.length
    · obtain ⟨o, ho⟩ : ∃ o, l[j]? = some o := ⟨_, List.getElem?_eq_getElem hlt⟩
      obtain ⟨bo, off, rfl, hcell⟩ := HH.out (by omega)
      obtain ⟨x0, x1, x2, x3, x4, x5⟩ := op_cells (w := wr) (fun k u hk => by rw [hB.cell (World.block_lt_of_cell? _ _ (hcell j _ ho k u hk))]; exact hcell j _ ho k u hk)
      have zb : bo < wr.heap.size := World.block_lt_of_cell? _ _ x0
      have hlt' : (j : Int) < l.length := by omega
      have HS : Hid ((l.take (j + 1)).any (fun o => outB o) = ((l.take j).any (fun o => outB o) || outB o)) := by
        show _ = _; rw [take_snoc' ho, List.any_append]; simp
      have HM : Hid (o ∈ l) := List.mem_of_getElem? ho
      have hcl := isOutP_any o wr
      unfold opV at hcl
      have HB : Hid (Below w.heap.size w wr) := hB
      clear ho hcell hB HH
      generalize hP : outB o = pb at *
      go_wp2_with fail
      refine hcl.mono ?_
      rintro e w1 ⟨rfl, hb1⟩
      have HB1 : Hid (Below w.heap.size w w1) := HB.out.trans (hb1.mono HB.out.size)
      clear hcl hb1 HB x0 x1 x2 x3 x4 x5 zb
      cases pb
      · go_wp2
        go_roundw
        case rel => exact ⟨j + 1, by omega, by go_num, by show _ = _; rw [HS.out, HN.out]; rfl, HB1.out⟩
        case measure => simp [intOf]; omega
      · have HT : Hid (l.any (fun o => outB o) = true) := by
          show _ = _; rw [List.any_eq_true]; exact ⟨o, HM.out, hP⟩
        clear hP
        go_wp2
        go_ret
        exact ⟨⟨(j : Int), rfl, .inl ⟨by omega, HT.out⟩⟩, HB1.out⟩
    · obtain rfl : j = l.length := by omega
      have HB : Hid (Below w.heap.size w wr) := hB
      have HT : Hid (l.any (fun o => outB o) = false) := by have := HN.out; rwa [List.take_length] at this
      clear hB HN HH
      go_wp2
      go_ret
      exact ⟨⟨-1, rfl, .inr ⟨rfl, HT.out⟩⟩, HB.out⟩
set_option maxRecDepth 100000 in
set_option maxHeartbeats 1000000 in
theorem hasOut {w : World} {v : Value} {l : List Opx} (A : OpsIn w v l) (hl : (l.length : Int) ≤ 1000000) :
    Calls Tryz.prog 66 #[v, .func (.func 67) #[] #[]] w fun e w' => e = .returned (.bool (l.any (fun o => outB o))) ∧ Below w.heap.size w w' := by
  have hi := idxOut A hl
  obtain ⟨ao, cap, rfl, hc, hh⟩ := A.sh
  clear hh A
  generalize hP : l.any (fun o => outB o) = pb at *
  clear hP
  go_enter Tryz.func66, Tryz.ntmps66
  go_wp2_with fail
  refine hi.mono ?_
  rintro e w1 ⟨⟨r, rfl, hr⟩, hb⟩
  have HB : Hid (Below w.heap.size w w1) := hb
  clear hb hi
  rcases hr with ⟨hr, rfl⟩ | ⟨rfl, rfl⟩
  · have hr' : ¬ r < 0 := by omega
    go_wp2
    go_ret
    first | exact ⟨rfl, HB.out⟩ | exact ⟨by simp [hr], HB.out⟩
  · go_wp2
    go_ret
    exact ⟨rfl, HB.out⟩
set_option maxRecDepth 100000 in
set_option maxHeartbeats 2000000 in
theorem idxSame {w : World} {v : Value} {l : List Opx} (A : OpsIn w v l) (hl : (l.length : Int) ≤ 1000000) {b : Nat} {to : Int} (hcc : w.cell? ⟨b, 0, none⟩ = some (.int .i64 to)) :
    Calls Tryz.prog 78 #[v, .func (.func 77) #[] #[.pointer (some ⟨b, 0, none⟩)]] w fun e w' => (∃ r : Int, e = .returned (.int .i64 r) ∧ ((0 ≤ r ∧ l.any (fun o => decide (wrX o = to)) = true) ∨ (r = -1 ∧ l.any (fun o => decide (wrX o = to)) = false))) ∧ Below w.heap.size w w' := by
  obtain ⟨ao, cap, rfl, hc, hh⟩ := A.sh
  have HH : Hid (0 < l.length → ∃ b off : Nat, ao = some ⟨b, off, none⟩ ∧ ∀ (i : Nat) (o : Opx), l[i]? = some o → ∀ (j : Nat) (u : Value), (opC o)[j]? = some u → w.cell? ⟨b, off + i * 6 + j, none⟩ = some u) := hh
  clear hh A
  go_enter Tryz.func78, Tryz.ntmps78
  go_wp2
  go_loopw [8] (fun i wr => ∃ j : Nat, j ≤ l.length ∧ i = .int .i64 j ∧ Hid ((l.take j).any (fun o => decide (wrX o = to)) = false) ∧ Below w.heap.size w wr) (fun i _ => l.length - (intOf i).toNat)
  case atStart => exact ⟨0, Nat.zero_le _, rfl, by show _ = _; simp, Below.refl _ _⟩
  case round =>
    obtain ⟨j, hj, rfl, HN, hB⟩ := hrel
    by_cases hlt : j < l.length
    · obtain ⟨o, ho⟩ : ∃ o, l[j]? = some o := ⟨_, List.getElem?_eq_getElem hlt⟩
      obtain ⟨bo, off, rfl, hcell⟩ := HH.out (by omega)
      obtain ⟨x0, x1, x2, x3, x4, x5⟩ := op_cells (w := wr) (fun k u hk => by rw [hB.cell (World.block_lt_of_cell? _ _ (hcell j _ ho k u hk))]; exact hcell j _ ho k u hk)
      have zb : bo < wr.heap.size := World.block_lt_of_cell? _ _ x0
      have hlt' : (j : Int) < l.length := by omega
      have HS : Hid ((l.take (j + 1)).any (fun o => decide (wrX o = to)) = ((l.take j).any (fun o => decide (wrX o = to)) || decide (wrX o = to))) := by
        show _ = _; rw [take_snoc' ho, List.any_append]; simp
      have HM : Hid (o ∈ l) := List.mem_of_getElem? ho
      have hcl := same_any o b to wr ((hB.cell (p := ⟨b, 0, none⟩) (World.block_lt_of_cell? _ _ hcc)).trans hcc)
      unfold opV at hcl
      have HB : Hid (Below w.heap.size w wr) := hB
      clear ho hcell hB HH
      generalize hP : decide (wrX o = to) = pb at *
      go_wp2_with fail
      refine hcl.mono ?_
      rintro e w1 ⟨rfl, hb1⟩
      have HB1 : Hid (Below w.heap.size w w1) := HB.out.trans (hb1.mono HB.out.size)
      clear hcl hb1 HB x0 x1 x2 x3 x4 x5 zb
      cases pb
      · go_wp2
        go_roundw
        case rel => exact ⟨j + 1, by omega, by go_num, by show _ = _; rw [HS.out, HN.out]; rfl, HB1.out⟩
        case measure => simp [intOf]; omega
      · have HT : Hid (l.any (fun o => decide (wrX o = to)) = true) := by
          show _ = _; rw [List.any_eq_true]; exact ⟨o, HM.out, hP⟩
        clear hP
        go_wp2
        go_ret
        exact ⟨⟨(j : Int), rfl, .inl ⟨by omega, HT.out⟩⟩, HB1.out⟩
    · obtain rfl : j = l.length := by omega
      have HB : Hid (Below w.heap.size w wr) := hB
      have HT : Hid (l.any (fun o => decide (wrX o = to)) = false) := by have := HN.out; rwa [List.take_length] at this
      clear hB HN HH
      go_wp2
      go_ret
      exact ⟨⟨-1, rfl, .inr ⟨rfl, HT.out⟩⟩, HB.out⟩
set_option maxRecDepth 100000 in
set_option maxHeartbeats 1000000 in
theorem hasSame {w : World} {v : Value} {l : List Opx} (A : OpsIn w v l) (hl : (l.length : Int) ≤ 1000000) {b : Nat} {to : Int} (hcc : w.cell? ⟨b, 0, none⟩ = some (.int .i64 to)) :
    Calls Tryz.prog 66 #[v, .func (.func 77) #[] #[.pointer (some ⟨b, 0, none⟩)]] w fun e w' => e = .returned (.bool (l.any (fun o => decide (wrX o = to)))) ∧ Below w.heap.size w w' := by
  have hi := idxSame A hl hcc
  obtain ⟨ao, cap, rfl, hc, hh⟩ := A.sh
  clear hh A
  generalize hP : l.any (fun o => decide (wrX o = to)) = pb at *
  clear hP
  go_enter Tryz.func66, Tryz.ntmps66
  go_wp2_with fail
  refine hi.mono ?_
  rintro e w1 ⟨⟨r, rfl, hr⟩, hb⟩
  have HB : Hid (Below w.heap.size w w1) := hb
  clear hb hi
  rcases hr with ⟨hr, rfl⟩ | ⟨rfl, rfl⟩
  · have hr' : ¬ r < 0 := by omega
    go_wp2
    go_ret
    first | exact ⟨rfl, HB.out⟩ | exact ⟨by simp [hr], HB.out⟩
  · go_wp2
    go_ret
    exact ⟨rfl, HB.out⟩
end Go.Proofs.YtcccaejjhodnkabGreatDoor
