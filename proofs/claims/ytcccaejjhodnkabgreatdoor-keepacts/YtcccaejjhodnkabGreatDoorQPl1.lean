/-
  Package plan: the parts of a row, counted; whether they fit.
-/
import Derived.Test.YtcccaejjhodnkabGreatDoorKOptPure
import Derived.Test.YtcccaejjhodnkabGreatDoorKOptFns
import Derived.Test.YtcccaejjhodnkabGreatDoorQIrChk2
import Derived.Test.YtcccaejjhodnkabGreatDoorKSerial
namespace Go.Proofs.YtcccaejjhodnkabGreatDoor
open Go.RowKit Go.Maps
open Num
set_option linter.unusedVariables false
set_option maxHeartbeats 1000000 in
theorem partOf_is (o : Opx) (p : Nat) (hp : ptO o = p) (w : World) : Calls Tryz.prog 75 #[opV o] w fun e w' => e = .returned (.int .i64 (p : Int)) ∧ Below w.heap.size w w' := by
  have hk : kn o.s = 23 ∨ kn o.s = 24 ∨ kn o.s = 25 ∨ kn o.s = 26 ∨ kn o.s = 27 ∨ kn o.s < 23 := by have := kn_lt o.s; omega
  have OB : Hid (Below w.heap.size w (w.alloc (.cells #[.string o.s, .int .i64 o.d, .int .i64 o.a, .int .i64 o.b, .int .u32 o.i, .int .i64 o.t] 64))) := (Below.refl _ _).alloc (Nat.le_refl _) _
  rcases hk with h | h | h | h | h | h
  · obtain rfl : p = 1 := by rw [← hp]; unfold ptO Opx.k; simp [h]
    have f23 : (o.s.toList == [108, 111, 97, 100]) = true := by rw [show (o.s.toList == [108, 111, 97, 100]) = _ from kn_eq o.s 23 (by omega) (by omega), h]; rfl
    have f24 : (o.s.toList == [115, 116, 111, 114, 101]) = false := by rw [show (o.s.toList == [115, 116, 111, 114, 101]) = _ from kn_eq o.s 24 (by omega) (by omega), h]; rfl
    have f25 : (o.s.toList == [105, 102]) = false := by rw [show (o.s.toList == [105, 102]) = _ from kn_eq o.s 25 (by omega) (by omega), h]; rfl
    have f26 : (o.s.toList == [111, 117, 116]) = false := by rw [show (o.s.toList == [111, 117, 116]) = _ from kn_eq o.s 26 (by omega) (by omega), h]; rfl
    have f27 : (o.s.toList == [111, 117, 116, 114]) = false := by rw [show (o.s.toList == [111, 117, 116, 114]) = _ from kn_eq o.s 27 (by omega) (by omega), h]; rfl
    clear h hp
    unfold opV
    go_enter Tryz.func75, Tryz.ntmps75
    go_wp2
    go_ret
    exact ⟨rfl, OB.out⟩
  · obtain rfl : p = 1 := by rw [← hp]; unfold ptO Opx.k; simp [h]
    have f23 : (o.s.toList == [108, 111, 97, 100]) = false := by rw [show (o.s.toList == [108, 111, 97, 100]) = _ from kn_eq o.s 23 (by omega) (by omega), h]; rfl
    have f24 : (o.s.toList == [115, 116, 111, 114, 101]) = true := by rw [show (o.s.toList == [115, 116, 111, 114, 101]) = _ from kn_eq o.s 24 (by omega) (by omega), h]; rfl
    have f25 : (o.s.toList == [105, 102]) = false := by rw [show (o.s.toList == [105, 102]) = _ from kn_eq o.s 25 (by omega) (by omega), h]; rfl
    have f26 : (o.s.toList == [111, 117, 116]) = false := by rw [show (o.s.toList == [111, 117, 116]) = _ from kn_eq o.s 26 (by omega) (by omega), h]; rfl
    have f27 : (o.s.toList == [111, 117, 116, 114]) = false := by rw [show (o.s.toList == [111, 117, 116, 114]) = _ from kn_eq o.s 27 (by omega) (by omega), h]; rfl
    clear h hp
    unfold opV
    go_enter Tryz.func75, Tryz.ntmps75
    go_wp2
    go_ret
    exact ⟨rfl, OB.out⟩
  · obtain rfl : p = 2 := by rw [← hp]; unfold ptO Opx.k; simp [h]
    have f23 : (o.s.toList == [108, 111, 97, 100]) = false := by rw [show (o.s.toList == [108, 111, 97, 100]) = _ from kn_eq o.s 23 (by omega) (by omega), h]; rfl
    have f24 : (o.s.toList == [115, 116, 111, 114, 101]) = false := by rw [show (o.s.toList == [115, 116, 111, 114, 101]) = _ from kn_eq o.s 24 (by omega) (by omega), h]; rfl
    have f25 : (o.s.toList == [105, 102]) = true := by rw [show (o.s.toList == [105, 102]) = _ from kn_eq o.s 25 (by omega) (by omega), h]; rfl
    have f26 : (o.s.toList == [111, 117, 116]) = false := by rw [show (o.s.toList == [111, 117, 116]) = _ from kn_eq o.s 26 (by omega) (by omega), h]; rfl
    have f27 : (o.s.toList == [111, 117, 116, 114]) = false := by rw [show (o.s.toList == [111, 117, 116, 114]) = _ from kn_eq o.s 27 (by omega) (by omega), h]; rfl
    clear h hp
    unfold opV
    go_enter Tryz.func75, Tryz.ntmps75
    go_wp2
    go_ret
    exact ⟨rfl, OB.out⟩
  · obtain rfl : p = 2 := by rw [← hp]; unfold ptO Opx.k; simp [h]
    have f23 : (o.s.toList == [108, 111, 97, 100]) = false := by rw [show (o.s.toList == [108, 111, 97, 100]) = _ from kn_eq o.s 23 (by omega) (by omega), h]; rfl
    have f24 : (o.s.toList == [115, 116, 111, 114, 101]) = false := by rw [show (o.s.toList == [115, 116, 111, 114, 101]) = _ from kn_eq o.s 24 (by omega) (by omega), h]; rfl
    have f25 : (o.s.toList == [105, 102]) = false := by rw [show (o.s.toList == [105, 102]) = _ from kn_eq o.s 25 (by omega) (by omega), h]; rfl
    have f26 : (o.s.toList == [111, 117, 116]) = true := by rw [show (o.s.toList == [111, 117, 116]) = _ from kn_eq o.s 26 (by omega) (by omega), h]; rfl
    have f27 : (o.s.toList == [111, 117, 116, 114]) = false := by rw [show (o.s.toList == [111, 117, 116, 114]) = _ from kn_eq o.s 27 (by omega) (by omega), h]; rfl
    clear h hp
    unfold opV
    go_enter Tryz.func75, Tryz.ntmps75
    go_wp2
    go_ret
    exact ⟨rfl, OB.out⟩
  · obtain rfl : p = 2 := by rw [← hp]; unfold ptO Opx.k; simp [h]
    have f23 : (o.s.toList == [108, 111, 97, 100]) = false := by rw [show (o.s.toList == [108, 111, 97, 100]) = _ from kn_eq o.s 23 (by omega) (by omega), h]; rfl
    have f24 : (o.s.toList == [115, 116, 111, 114, 101]) = false := by rw [show (o.s.toList == [115, 116, 111, 114, 101]) = _ from kn_eq o.s 24 (by omega) (by omega), h]; rfl
    have f25 : (o.s.toList == [105, 102]) = false := by rw [show (o.s.toList == [105, 102]) = _ from kn_eq o.s 25 (by omega) (by omega), h]; rfl
    have f26 : (o.s.toList == [111, 117, 116]) = false := by rw [show (o.s.toList == [111, 117, 116]) = _ from kn_eq o.s 26 (by omega) (by omega), h]; rfl
    have f27 : (o.s.toList == [111, 117, 116, 114]) = true := by rw [show (o.s.toList == [111, 117, 116, 114]) = _ from kn_eq o.s 27 (by omega) (by omega), h]; rfl
    clear h hp
    unfold opV
    go_enter Tryz.func75, Tryz.ntmps75
    go_wp2
    go_ret
    exact ⟨rfl, OB.out⟩
  · obtain rfl : p = 0 := by rw [← hp]; unfold ptO Opx.k; rw [if_neg (by omega), if_neg (by omega)]
    have f23 : (o.s.toList == [108, 111, 97, 100]) = false := by rw [show (o.s.toList == [108, 111, 97, 100]) = _ from kn_eq o.s 23 (by omega) (by omega)]; simp only [decide_eq_false_iff_not]; omega
    have f24 : (o.s.toList == [115, 116, 111, 114, 101]) = false := by rw [show (o.s.toList == [115, 116, 111, 114, 101]) = _ from kn_eq o.s 24 (by omega) (by omega)]; simp only [decide_eq_false_iff_not]; omega
    have f25 : (o.s.toList == [105, 102]) = false := by rw [show (o.s.toList == [105, 102]) = _ from kn_eq o.s 25 (by omega) (by omega)]; simp only [decide_eq_false_iff_not]; omega
    have f26 : (o.s.toList == [111, 117, 116]) = false := by rw [show (o.s.toList == [111, 117, 116]) = _ from kn_eq o.s 26 (by omega) (by omega)]; simp only [decide_eq_false_iff_not]; omega
    have f27 : (o.s.toList == [111, 117, 116, 114]) = false := by rw [show (o.s.toList == [111, 117, 116, 114]) = _ from kn_eq o.s 27 (by omega) (by omega)]; simp only [decide_eq_false_iff_not]; omega
    clear h hp
    unfold opV
    go_enter Tryz.func75, Tryz.ntmps75
    go_wp2
    go_ret
    exact ⟨rfl, OB.out⟩
set_option maxHeartbeats 1000000 in
theorem isOutP_any (o : Opx) (w : World) : Calls Tryz.prog 67 #[opV o] w fun e w' => e = .returned (.bool (outB o)) ∧ Below w.heap.size w w' := by
  have h1 := kn_eq o.s 26 (by omega) (by omega)
  have h2 := kn_eq o.s 27 (by omega) (by omega)
  have e1 : Hid (outB o = ((o.s.toList == [111, 117, 116]) || (o.s.toList == [111, 117, 116, 114]))) := by
    show _ = _
    unfold outB
    rw [show (o.s.toList == [111, 117, 116]) = decide (kn o.s = 26) from h1, show (o.s.toList == [111, 117, 116, 114]) = decide (kn o.s = 27) from h2]
    simp
  clear h1 h2
  unfold opV
  go_enter Tryz.func67, Tryz.ntmps67
  go_wp2
  all_goals
    go_ret
    refine ⟨?_, (Below.refl _ _).alloc (Nat.le_refl _) _⟩
    rw [e1.out]
    first | (simp_all; done) | rfl
/-- three counts in their box -/
structure C3 (W : World) (b : Nat) (x y z : Int) : Prop where
  c0 : W.cell? ⟨b, 0, none⟩ = some (.int .i64 x)
  c1 : W.cell? ⟨b, 1, none⟩ = some (.int .i64 y)
  c2 : W.cell? ⟨b, 2, none⟩ = some (.int .i64 z)
  f : ∀ j, W.frozen? ⟨b, j, none⟩ = false
theorem C3.lt {W : World} {b : Nat} {x y z : Int} (C : C3 W b x y z) : b < W.heap.size := World.block_lt_of_cell? _ _ C.c0
theorem C3.block {W W' : World} {b : Nat} {x y z : Int} (C : C3 W b x y z) (h : W'.heap[b]? = W.heap[b]?) : C3 W' b x y z :=
  ⟨(World.cell?_of_block (a := ⟨b, 0, none⟩) h).trans C.c0, (World.cell?_of_block (a := ⟨b, 1, none⟩) h).trans C.c1, (World.cell?_of_block (a := ⟨b, 2, none⟩) h).trans C.c2, fun j => (World.frozen?_of_block (a := ⟨b, j, none⟩) h).trans (C.f j)⟩
theorem C3.stays {W W' : World} {b : Nat} {x y z : Int} (C : C3 W b x y z) (h : Below W.heap.size W W') : C3 W' b x y z := C.block (h.block _ C.lt)
theorem C3.new (w : World) (x y z : Int) : C3 (w.alloc (.cells #[.int .i64 x, .int .i64 y, .int .i64 z] 120)) w.heap.size x y z := ⟨by simp, by simp, by simp, fun j => World.frozen?_alloc_at _ _ _ _ rfl⟩
theorem ofs3 {B i j : Nat} (h : i ≠ j) : (⟨B, i, none⟩ : Addr) ≠ ⟨B, j, none⟩ := by intro e; injection e with e1 e2; exact h e2
theorem C3.put0 {W : World} {b : Nat} {x y z : Int} (C : C3 W b x y z) (v : Int) : C3 (W.setCell ⟨b, 0, none⟩ (.int .i64 v)) b v y z :=
  ⟨World.cell?_setCell_same _ _ _ C.c0, by rw [World.cell?_setCell_other _ _ _ _ (ofs3 (by omega))]; exact C.c1, by rw [World.cell?_setCell_other _ _ _ _ (ofs3 (by omega))]; exact C.c2, fun j => by rw [World.frozen?_setCell]; exact C.f j⟩
theorem C3.put1 {W : World} {b : Nat} {x y z : Int} (C : C3 W b x y z) (v : Int) : C3 (W.setCell ⟨b, 1, none⟩ (.int .i64 v)) b x v z :=
  ⟨by rw [World.cell?_setCell_other _ _ _ _ (ofs3 (by omega))]; exact C.c0, World.cell?_setCell_same _ _ _ C.c1, by rw [World.cell?_setCell_other _ _ _ _ (ofs3 (by omega))]; exact C.c2, fun j => by rw [World.frozen?_setCell]; exact C.f j⟩
theorem C3.put2 {W : World} {b : Nat} {x y z : Int} (C : C3 W b x y z) (v : Int) : C3 (W.setCell ⟨b, 2, none⟩ (.int .i64 v)) b x y v :=
  ⟨by rw [World.cell?_setCell_other _ _ _ _ (ofs3 (by omega))]; exact C.c0, by rw [World.cell?_setCell_other _ _ _ _ (ofs3 (by omega))]; exact C.c1, World.cell?_setCell_same _ _ _ C.c2, fun j => by rw [World.frozen?_setCell]; exact C.f j⟩
theorem C3.other {W : World} {b k i : Nat} {x y z : Int} {v : Value} (C : C3 W b x y z) (h : k ≠ b) : C3 (W.setCell ⟨k, i, none⟩ v) b x y z :=
  ⟨by rw [World.cell?_setCell_other _ _ _ _ (fun e => h (by injection e))]; exact C.c0, by rw [World.cell?_setCell_other _ _ _ _ (fun e => h (by injection e))]; exact C.c1, by rw [World.cell?_setCell_other _ _ _ _ (fun e => h (by injection e))]; exact C.c2, fun j => by rw [World.frozen?_setCell]; exact C.f j⟩
theorem counts_load {w : World} {B : Nat} {a b c : Value} (z0 : w.cell? ⟨B, 0, none⟩ = some a) (z1 : w.cell? ⟨B, 1, none⟩ = some b) (z2 : w.cell? ⟨B, 2, none⟩ = some c) : (loadVar 120 ⟨B, 0, none⟩).run Tryz.prog w = .ok (.agg #[a, b, c]) w := by
  simp [go_sem, z0, z1, z2]
theorem results_cellA {fn : Func} {p : Tmp} {ty : TypeId} {A : Addr} {x : Value} (h : fn.results = #[.cell p ty]) (tmps : Array Value) (P : Program) (w : World) (hp : tmps.getD p undef = .pointer (some A)) (hl : (loadVar ty A).run P w = .ok x w) :
    (results fn tmps).run P w = .ok x w := by
  simp only [results, h]
  simp only [asAddr, hp, Sem.run_bind, List.mapM_toArray, List.mapM_cons, List.mapM_nil, Sem.run_map, Sem.run_pure, Result.andThen, hl]
  simp
set_option maxRecDepth 100000 in
set_option maxHeartbeats 2000000 in
theorem countsOf_any {w : World} {v : Value} {l : List Opx} (A : OpsIn w v l) (hl : (l.length : Int) ≤ 1000000) :
    Calls Tryz.prog 63 #[v] w fun e w' => e = .returned (.agg #[.int .i64 (ctP 0 l : Int), .int .i64 (ctP 1 l : Int), .int .i64 (ctP 2 l : Int)]) ∧ Below w.heap.size w w' := by
  obtain ⟨ao, cap, rfl, hc, hh⟩ := A.sh
  have HH : Hid (0 < l.length → ∃ b off : Nat, ao = some ⟨b, off, none⟩ ∧ ∀ (i : Nat) (o : Opx), l[i]? = some o → ∀ (j : Nat) (u : Value), (opC o)[j]? = some u → w.cell? ⟨b, off + i * 6 + j, none⟩ = some u) := hh
  clear hh A
  have B0 : Below w.heap.size w ((w.alloc (.cells #[.int .i64 0, .int .i64 0, .int .i64 0] 120)).alloc (.cells #[.int .i64 0, .int .i64 0, .int .i64 0] 120)) := ((Below.refl _ _).alloc (Nat.le_refl _) _).alloc (by simp) _
  have C0 : C3 ((w.alloc (.cells #[.int .i64 0, .int .i64 0, .int .i64 0] 120)).alloc (.cells #[.int .i64 0, .int .i64 0, .int .i64 0] 120)) w.heap.size 0 0 0 := (C3.new w 0 0 0).stays ((Below.refl _ _).alloc (Nat.le_refl _) _)
  have C1 : C3 ((w.alloc (.cells #[.int .i64 0, .int .i64 0, .int .i64 0] 120)).alloc (.cells #[.int .i64 0, .int .i64 0, .int .i64 0] 120)) (w.heap.size + 1) 0 0 0 := by
    have := C3.new (w.alloc (.cells #[.int .i64 0, .int .i64 0, .int .i64 0] 120)) 0 0 0
    rwa [World.size_alloc] at this
  go_enter Tryz.func63, Tryz.ntmps63
  go_upto_region 2 with fail
  generalize ((w.alloc (.cells #[.int .i64 0, .int .i64 0, .int .i64 0] 120)).alloc (.cells #[.int .i64 0, .int .i64 0, .int .i64 0] 120)) = V at *
  have HV : Hid (Below w.heap.size w V ∧ C3 V w.heap.size 0 0 0 ∧ C3 V (w.heap.size + 1) 0 0 0) := ⟨B0, C0, C1⟩
  clear B0 C0 C1
  go_wp2
  go_loopw [8] (fun i wr => ∃ j : Nat, j ≤ l.length ∧ i = .int .i64 j ∧ C3 wr w.heap.size 0 0 0 ∧ C3 wr (w.heap.size + 1) (ctP 0 (l.take j) : Int) (ctP 1 (l.take j) : Int) (ctP 2 (l.take j) : Int) ∧ Below w.heap.size w wr) (fun i _ => l.length - (intOf i).toNat)
  case atStart => exact ⟨0, Nat.zero_le _, rfl, HV.out.2.1, HV.out.2.2, HV.out.1⟩
  case round =>
    obtain ⟨j, hj, rfl, hC0, hC1, hB⟩ := hrel
    clear HV
    by_cases hlt : j < l.length
    · have ho : l[j]? = some l[j] := List.getElem?_eq_getElem hlt
      obtain ⟨b, off, rfl, hcell⟩ := HH.out (by omega)
      obtain ⟨x0, x1, x2, x3, x4, x5⟩ := op_cells (w := wr) (fun k u hk => by rw [hB.cell (World.block_lt_of_cell? _ _ (hcell j _ ho k u hk))]; exact hcell j _ ho k u hk)
      have hb0 := ctP_le 0 (l.take j)
      have hb1 := ctP_le 1 (l.take j)
      have hb2 := ctP_le 2 (l.take j)
      have hbt : (l.take j).length ≤ j := List.length_take_le _ _
      have hlt' : (j : Int) < l.length := by omega
      have HS : Hid (∀ p, ctP p (l.take (j + 1)) = if p = ptO l[j] then ctP p (l.take j) + 1 else ctP p (l.take j)) := fun p => by rw [take_snoc' ho, ctP_snoc]
      have zb : b < wr.heap.size := World.block_lt_of_cell? _ _ x0
      clear ho hcell HH
      have B1 : Below wr.heap.size wr (wr.alloc (.cells #[.string l[j].s, .int .i64 l[j].d, .int .i64 l[j].a, .int .i64 l[j].b, .int .u32 l[j].i, .int .i64 l[j].t] 64)) := (Below.refl _ _).alloc (Nat.le_refl _) _
      generalize l[j] = o at *
      obtain ⟨p, hp⟩ : ∃ p, ptO o = p := ⟨_, rfl⟩
      have hp3 := ptO_lt o
      have hpc := fun w => partOf_is o p hp w
      unfold opV at hpc
      rw [hp] at hp3 HS
      have hsz := hB.size
      have HK : Hid (C3 wr w.heap.size 0 0 0 ∧ C3 wr (w.heap.size + 1) (ctP 0 (l.take j) : Int) (ctP 1 (l.take j) : Int) (ctP 2 (l.take j) : Int) ∧ Below w.heap.size w wr) := ⟨hC0, hC1, hB⟩
      clear hC0 hC1 hB hp
      go_wp2_with fail
      refine (hpc _).mono ?_
      rintro e w1 ⟨rfl, hb⟩
      have hbb := B1.trans (hb.mono (by simp))
      have K1 := HK.out.1.stays hbb
      have K2 := HK.out.2.1.stays hbb
      have K3 : Hid (Below w.heap.size w w1) := HK.out.2.2.trans (hbb.mono hsz)
      have K1H : Hid (C3 w1 w.heap.size 0 0 0) := K1
      have K2H : Hid (C3 w1 (w.heap.size + 1) (ctP 0 (l.take j) : Int) (ctP 1 (l.take j) : Int) (ctP 2 (l.take j) : Int)) := K2
      obtain ⟨q0, q1, q2, qf⟩ := K2
      have zq := World.block_lt_of_cell? _ _ q0
      clear HK hb hbb K1 B1 hpc x0 x1 x2 x3 x4 x5
      have hpp : p = 0 ∨ p = 1 ∨ p = 2 := by omega
      rcases hpp with rfl | rfl | rfl
      · have R : Hid (C3 (w1.setCell ⟨w.heap.size + 1, 0, none⟩ (.int .i64 ((ctP 0 (l.take j) : Int) + 1))) w.heap.size 0 0 0 ∧ C3 (w1.setCell ⟨w.heap.size + 1, 0, none⟩ (.int .i64 ((ctP 0 (l.take j) : Int) + 1))) (w.heap.size + 1) (ctP 0 (l.take (j + 1)) : Int) (ctP 1 (l.take (j + 1)) : Int) (ctP 2 (l.take (j + 1)) : Int) ∧ Below w.heap.size w (w1.setCell ⟨w.heap.size + 1, 0, none⟩ (.int .i64 ((ctP 0 (l.take j) : Int) + 1)))) := by
          refine ⟨K1H.out.other (by omega), ?_, K3.out.setCell (by show w.heap.size ≤ w.heap.size + 1; omega) _⟩
          rw [HS.out 0, HS.out 1, HS.out 2]
          exact K2H.out.put0 _
        have hcv0 : (0 : Int) ≤ (ctP 0 (l.take j) : Int) := by omega
        have hcv1 : (ctP 0 (l.take j) : Int) < 1000000 := by omega
        generalize (ctP 0 (l.take j) : Int) = cv at *
        clear hb0 hb1 hb2 hbt HS
        go_wp2
        go_roundw
        case rel => exact ⟨j + 1, by omega, by go_num, R.out.1, R.out.2.1, R.out.2.2⟩
        case measure => simp [intOf]; omega
      · have R : Hid (C3 (w1.setCell ⟨w.heap.size + 1, 1, none⟩ (.int .i64 ((ctP 1 (l.take j) : Int) + 1))) w.heap.size 0 0 0 ∧ C3 (w1.setCell ⟨w.heap.size + 1, 1, none⟩ (.int .i64 ((ctP 1 (l.take j) : Int) + 1))) (w.heap.size + 1) (ctP 0 (l.take (j + 1)) : Int) (ctP 1 (l.take (j + 1)) : Int) (ctP 2 (l.take (j + 1)) : Int) ∧ Below w.heap.size w (w1.setCell ⟨w.heap.size + 1, 1, none⟩ (.int .i64 ((ctP 1 (l.take j) : Int) + 1)))) := by
          refine ⟨K1H.out.other (by omega), ?_, K3.out.setCell (by show w.heap.size ≤ w.heap.size + 1; omega) _⟩
          rw [HS.out 0, HS.out 1, HS.out 2]
          exact K2H.out.put1 _
        have hcv0 : (0 : Int) ≤ (ctP 1 (l.take j) : Int) := by omega
        have hcv1 : (ctP 1 (l.take j) : Int) < 1000000 := by omega
        generalize (ctP 1 (l.take j) : Int) = cv at *
        clear hb0 hb1 hb2 hbt HS
        go_wp2
        go_roundw
        case rel => exact ⟨j + 1, by omega, by go_num, R.out.1, R.out.2.1, R.out.2.2⟩
        case measure => simp [intOf]; omega
      · have R : Hid (C3 (w1.setCell ⟨w.heap.size + 1, 2, none⟩ (.int .i64 ((ctP 2 (l.take j) : Int) + 1))) w.heap.size 0 0 0 ∧ C3 (w1.setCell ⟨w.heap.size + 1, 2, none⟩ (.int .i64 ((ctP 2 (l.take j) : Int) + 1))) (w.heap.size + 1) (ctP 0 (l.take (j + 1)) : Int) (ctP 1 (l.take (j + 1)) : Int) (ctP 2 (l.take (j + 1)) : Int) ∧ Below w.heap.size w (w1.setCell ⟨w.heap.size + 1, 2, none⟩ (.int .i64 ((ctP 2 (l.take j) : Int) + 1)))) := by
          refine ⟨K1H.out.other (by omega), ?_, K3.out.setCell (by show w.heap.size ≤ w.heap.size + 1; omega) _⟩
          rw [HS.out 0, HS.out 1, HS.out 2]
          exact K2H.out.put2 _
        have hcv0 : (0 : Int) ≤ (ctP 2 (l.take j) : Int) := by omega
        have hcv1 : (ctP 2 (l.take j) : Int) < 1000000 := by omega
        generalize (ctP 2 (l.take j) : Int) = cv at *
        clear hb0 hb1 hb2 hbt HS
        go_wp2
        go_roundw
        case rel => exact ⟨j + 1, by omega, by go_num, R.out.1, R.out.2.1, R.out.2.2⟩
        case measure => simp [intOf]; omega
    · obtain rfl : j = l.length := by omega
      rw [List.take_length] at hC1
      obtain ⟨u0, u1, u2, uf⟩ := hC0
      obtain ⟨y0, y1, y2, yf⟩ := id hC1
      have HL : Hid (∀ (x y z : Int), (loadVar 120 ⟨w.heap.size, 0, none⟩).run Tryz.prog (((wr.setCell ⟨w.heap.size, 0, none⟩ (.int .i64 x)).setCell ⟨w.heap.size, 1, none⟩ (.int .i64 y)).setCell ⟨w.heap.size, 2, none⟩ (.int .i64 z)) = .ok (.agg #[.int .i64 x, .int .i64 y, .int .i64 z]) (((wr.setCell ⟨w.heap.size, 0, none⟩ (.int .i64 x)).setCell ⟨w.heap.size, 1, none⟩ (.int .i64 y)).setCell ⟨w.heap.size, 2, none⟩ (.int .i64 z)) ∧ Below w.heap.size w (((wr.setCell ⟨w.heap.size, 0, none⟩ (.int .i64 x)).setCell ⟨w.heap.size, 1, none⟩ (.int .i64 y)).setCell ⟨w.heap.size, 2, none⟩ (.int .i64 z))) := fun x y z =>
        have G := ((((⟨u0, u1, u2, uf⟩ : C3 wr w.heap.size 0 0 0).put0 x).put1 y).put2 z)
        ⟨counts_load G.c0 G.c1 G.c2, ((hB.setCell (Nat.le_refl _) _).setCell (Nat.le_refl _) _).setCell (Nat.le_refl _) _⟩
      have f0 := uf 0
      have f1 := uf 1
      have f2 := uf 2
      have zz := World.block_lt_of_cell? _ _ u0
      have zy := World.block_lt_of_cell? _ _ y0
      clear hC1 HH
      go_wp2
      refine bodyPost_ret (results_cellA (A := ⟨w.heap.size, 0, none⟩) rfl _ _ _ rfl (HL.out _ _ _).1) rfl ?_
      exact ⟨rfl, (HL.out _ _ _).2⟩
end Go.Proofs.YtcccaejjhodnkabGreatDoor
