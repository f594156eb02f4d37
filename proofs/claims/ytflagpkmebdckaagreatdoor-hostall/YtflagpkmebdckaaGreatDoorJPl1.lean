/-
  Package plan: the parts of a row, counted; whether they fit.
-/
import Derived.Test.YtflagpkmebdckaaGreatDoorKIrChk2
import Derived.Test.YtflagpkmebdckaaGreatDoorKSerial
import Derived.Test.YtflagpkmebdckaaGreatDoorKOptFns
import Derived.Test.YtflagpkmebdckaaGreatDoorKPlPure
namespace Go.Proofs.YtflagpkmebdckaaGreatDoor
open Go.RowKit Go.Maps
open Num
set_option linter.unusedVariables false
set_option maxHeartbeats 1000000 in
theorem partOf_is (o : Opx) (p : Nat) (hp : ptO o = p) (w : World) : Calls Tryz.prog 206 #[opV o] w fun e w' => e = .returned (.int .i64 (p : Int)) ∧ Below w.heap.size w w' := by
  have hk : kn o.s = 23 ∨ kn o.s = 24 ∨ kn o.s = 25 ∨ kn o.s = 26 ∨ kn o.s = 27 ∨ kn o.s < 23 := by have := kn_lt o.s; omega
  have OB : Hid (Below w.heap.size w (w.alloc (.cells #[.string o.s, .int .i64 o.d, .int .i64 o.a, .int .i64 o.b, .int .u32 o.i, .int .i64 o.t] 139))) := (Below.refl _ _).alloc (Nat.le_refl _) _
  rcases hk with h | h | h | h | h | h
  · obtain rfl : p = 1 := by rw [← hp]; unfold ptO Opx.k; simp [h]
    have f23 : (o.s.toList == [108, 111, 97, 100]) = true := by rw [show (o.s.toList == [108, 111, 97, 100]) = _ from kn_eq o.s 23 (by omega) (by omega), h]; rfl
    have f24 : (o.s.toList == [115, 116, 111, 114, 101]) = false := by rw [show (o.s.toList == [115, 116, 111, 114, 101]) = _ from kn_eq o.s 24 (by omega) (by omega), h]; rfl
    have f25 : (o.s.toList == [105, 102]) = false := by rw [show (o.s.toList == [105, 102]) = _ from kn_eq o.s 25 (by omega) (by omega), h]; rfl
    have f26 : (o.s.toList == [111, 117, 116]) = false := by rw [show (o.s.toList == [111, 117, 116]) = _ from kn_eq o.s 26 (by omega) (by omega), h]; rfl
    have f27 : (o.s.toList == [111, 117, 116, 114]) = false := by rw [show (o.s.toList == [111, 117, 116, 114]) = _ from kn_eq o.s 27 (by omega) (by omega), h]; rfl
    clear h hp
    unfold opV
    go_enter Tryz.func206, Tryz.ntmps206
    go_wp2
    go_ret
    exact ⟨rfl, OB.out⟩
  · obtain rfl : p = 1 := by rw [← hp]; unfold ptO Opx.k; simp [h]
    have f23 : (o.s.toList == [108, 111, 97, 100]) = false := by rw [show (o.s.toList == [108, 111, 97, 100]) = _ from kn_eq o.s 23 (by omega) (by omega), h]; rfl
    have f24 : (o.s.toList == [115, 116, 111, 114, 101]) = true := by rw [show (o.s.toList == [115, 116, 111, 114, 101]) = _ from kn_eq o.s 24 (by omega) (by omega), h]; rfl
    have f25 : (o.s.toList == [105, 102]) = false := by rw [show (o.s.toList == [105, 102]) = _ from kn_eq o.s 25 (by omega) (by omega), h]; rfl
    have f26 : (o.s.toList == [111, 117, 116]) = false := by rw [show (o.s.toList == [111, 117, 116]) = _ from kn_eq o.s 26 (by omega) (by omega), h]; rfl
    have f27 : (o.s.toList == [111, 117, 116, 114]) = false := by rw [show (o.s.toList == [111, 117, 116, 114]) = _ from kn_eq o.s 27 (by omega) (by omega), h]; rfl
    clear h hp
    unfold opV
    go_enter Tryz.func206, Tryz.ntmps206
    go_wp2
    go_ret
    exact ⟨rfl, OB.out⟩
  · obtain rfl : p = 2 := by rw [← hp]; unfold ptO Opx.k; simp [h]
    have f23 : (o.s.toList == [108, 111, 97, 100]) = false := by rw [show (o.s.toList == [108, 111, 97, 100]) = _ from kn_eq o.s 23 (by omega) (by omega), h]; rfl
    have f24 : (o.s.toList == [115, 116, 111, 114, 101]) = false := by rw [show (o.s.toList == [115, 116, 111, 114, 101]) = _ from kn_eq o.s 24 (by omega) (by omega), h]; rfl
    have f25 : (o.s.toList == [105, 102]) = true := by rw [show (o.s.toList == [105, 102]) = _ from kn_eq o.s 25 (by omega) (by omega), h]; rfl
    have f26 : (o.s.toList == [111, 117, 116]) = false := by rw [show (o.s.toList == [111, 117, 116]) = _ from kn_eq o.s 26 (by omega) (by omega), h]; rfl
    have f27 : (o.s.toList == [111, 117, 116, 114]) = false := by rw [show (o.s.toList == [111, 117, 116, 114]) = _ from kn_eq o.s 27 (by omega) (by omega), h]; rfl
    clear h hp
    unfold opV
    go_enter Tryz.func206, Tryz.ntmps206
    go_wp2
    go_ret
    exact ⟨rfl, OB.out⟩
  · obtain rfl : p = 2 := by rw [← hp]; unfold ptO Opx.k; simp [h]
    have f23 : (o.s.toList == [108, 111, 97, 100]) = false := by rw [show (o.s.toList == [108, 111, 97, 100]) = _ from kn_eq o.s 23 (by omega) (by omega), h]; rfl
    have f24 : (o.s.toList == [115, 116, 111, 114, 101]) = false := by rw [show (o.s.toList == [115, 116, 111, 114, 101]) = _ from kn_eq o.s 24 (by omega) (by omega), h]; rfl
    have f25 : (o.s.toList == [105, 102]) = false := by rw [show (o.s.toList == [105, 102]) = _ from kn_eq o.s 25 (by omega) (by omega), h]; rfl
    have f26 : (o.s.toList == [111, 117, 116]) = true := by rw [show (o.s.toList == [111, 117, 116]) = _ from kn_eq o.s 26 (by omega) (by omega), h]; rfl
    have f27 : (o.s.toList == [111, 117, 116, 114]) = false := by rw [show (o.s.toList == [111, 117, 116, 114]) = _ from kn_eq o.s 27 (by omega) (by omega), h]; rfl
    clear h hp
    unfold opV
    go_enter Tryz.func206, Tryz.ntmps206
    go_wp2
    go_ret
    exact ⟨rfl, OB.out⟩
  · obtain rfl : p = 2 := by rw [← hp]; unfold ptO Opx.k; simp [h]
    have f23 : (o.s.toList == [108, 111, 97, 100]) = false := by rw [show (o.s.toList == [108, 111, 97, 100]) = _ from kn_eq o.s 23 (by omega) (by omega), h]; rfl
    have f24 : (o.s.toList == [115, 116, 111, 114, 101]) = false := by rw [show (o.s.toList == [115, 116, 111, 114, 101]) = _ from kn_eq o.s 24 (by omega) (by omega), h]; rfl
    have f25 : (o.s.toList == [105, 102]) = false := by rw [show (o.s.toList == [105, 102]) = _ from kn_eq o.s 25 (by omega) (by omega), h]; rfl
    have f26 : (o.s.toList == [111, 117, 116]) = false := by rw [show (o.s.toList == [111, 117, 116]) = _ from kn_eq o.s 26 (by omega) (by omega), h]; rfl
    have f27 : (o.s.toList == [111, 117, 116, 114]) = true := by rw [show (o.s.toList == [111, 117, 116, 114]) = _ from kn_eq o.s 27 (by omega) (by omega), h]; rfl
    clear h hp
    unfold opV
    go_enter Tryz.func206, Tryz.ntmps206
    go_wp2
    go_ret
    exact ⟨rfl, OB.out⟩
  · obtain rfl : p = 0 := by rw [← hp]; unfold ptO Opx.k; rw [if_neg (by omega), if_neg (by omega)]
    have f23 : (o.s.toList == [108, 111, 97, 100]) = false := by rw [show (o.s.toList == [108, 111, 97, 100]) = _ from kn_eq o.s 23 (by omega) (by omega)]; simp only [decide_eq_false_iff_not]; omega
    have f24 : (o.s.toList == [115, 116, 111, 114, 101]) = false := by rw [show (o.s.toList == [115, 116, 111, 114, 101]) = _ from kn_eq o.s 24 (by omega) (by omega)]; simp only [decide_eq_false_iff_not]; omega
    have f25 : (o.s.toList == [105, 102]) = false := by rw [show (o.s.toList == [105, 102]) = _ from kn_eq o.s 25 (by omega) (by omega)]; simp only [decide_eq_false_iff_not]; omega
    have f26 : (o.s.toList == [111, 117, 116]) = false := by rw [show (o.s.toList == [111, 117, 116]) = _ from kn_eq o.s 26 (by omega) (by omega)]; simp only [decide_eq_false_iff_not]; omega
    have f27 : (o.s.toList == [111, 117, 116, 114]) = false := by rw [show (o.s.toList == [111, 117, 116, 114]) = _ from kn_eq o.s 27 (by omega) (by omega)]; simp only [decide_eq_false_iff_not]; omega
    clear h hp
    unfold opV
    go_enter Tryz.func206, Tryz.ntmps206
    go_wp2
    go_ret
    exact ⟨rfl, OB.out⟩
set_option maxHeartbeats 1000000 in
theorem isOutP_any (o : Opx) (w : World) : Calls Tryz.prog 214 #[opV o] w fun e w' => e = .returned (.bool (outB o)) ∧ Below w.heap.size w w' := by
  have h1 := kn_eq o.s 26 (by omega) (by omega)
  have h2 := kn_eq o.s 27 (by omega) (by omega)
  have e1 : Hid (outB o = ((o.s.toList == [111, 117, 116]) || (o.s.toList == [111, 117, 116, 114]))) := by
    show _ = _
    unfold outB
    rw [show (o.s.toList == [111, 117, 116]) = decide (kn o.s = 26) from h1, show (o.s.toList == [111, 117, 116, 114]) = decide (kn o.s = 27) from h2]
    simp
  clear h1 h2
  unfold opV
  go_enter Tryz.func214, Tryz.ntmps214
  go_wp2
  all_goals
    go_ret
    refine ⟨?_, (Below.refl _ _).alloc (Nat.le_refl _) _⟩
    rw [e1.out]
    first | (simp_all; done) | rfl
/-- three counts in their box -/
structure C3 (W : World) (b : Nat) (x y z : Int) : Prop where
  c0 : W.cell? ⟨b, 0, none⟩ = some (.int .i64 x)
  c1 : W.cell? ⟨b, 1, none⟩ = some (.int .i64 y)
  c2 : W.cell? ⟨b, 2, none⟩ = some (.int .i64 z)
  f : ∀ j, W.frozen? ⟨b, j, none⟩ = false
theorem C3.lt {W : World} {b : Nat} {x y z : Int} (C : C3 W b x y z) : b < W.heap.size := World.block_lt_of_cell? _ _ C.c0
theorem C3.block {W W' : World} {b : Nat} {x y z : Int} (C : C3 W b x y z) (h : W'.heap[b]? = W.heap[b]?) : C3 W' b x y z :=
  ⟨(World.cell?_of_block (a := ⟨b, 0, none⟩) h).trans C.c0, (World.cell?_of_block (a := ⟨b, 1, none⟩) h).trans C.c1, (World.cell?_of_block (a := ⟨b, 2, none⟩) h).trans C.c2, fun j => (World.frozen?_of_block (a := ⟨b, j, none⟩) h).trans (C.f j)⟩
theorem C3.stays {W W' : World} {b : Nat} {x y z : Int} (C : C3 W b x y z) (h : Below W.heap.size W W') : C3 W' b x y z := C.block (h.block _ C.lt)
theorem C3.new (w : World) (x y z : Int) : C3 (w.alloc (.cells #[.int .i64 x, .int .i64 y, .int .i64 z] 294)) w.heap.size x y z := ⟨by simp, by simp, by simp, fun j => World.frozen?_alloc_at _ _ _ _ rfl⟩
theorem ofs3 {B i j : Nat} (h : i ≠ j) : (⟨B, i, none⟩ : Addr) ≠ ⟨B, j, none⟩ := by intro e; injection e with e1 e2; exact h e2
theorem C3.put0 {W : World} {b : Nat} {x y z : Int} (C : C3 W b x y z) (v : Int) : C3 (W.setCell ⟨b, 0, none⟩ (.int .i64 v)) b v y z :=
  ⟨World.cell?_setCell_same _ _ _ C.c0, by rw [World.cell?_setCell_other _ _ _ _ (ofs3 (by omega))]; exact C.c1, by rw [World.cell?_setCell_other _ _ _ _ (ofs3 (by omega))]; exact C.c2, fun j => by rw [World.frozen?_setCell]; exact C.f j⟩
theorem C3.put1 {W : World} {b : Nat} {x y z : Int} (C : C3 W b x y z) (v : Int) : C3 (W.setCell ⟨b, 1, none⟩ (.int .i64 v)) b x v z :=
  ⟨by rw [World.cell?_setCell_other _ _ _ _ (ofs3 (by omega))]; exact C.c0, World.cell?_setCell_same _ _ _ C.c1, by rw [World.cell?_setCell_other _ _ _ _ (ofs3 (by omega))]; exact C.c2, fun j => by rw [World.frozen?_setCell]; exact C.f j⟩
theorem C3.put2 {W : World} {b : Nat} {x y z : Int} (C : C3 W b x y z) (v : Int) : C3 (W.setCell ⟨b, 2, none⟩ (.int .i64 v)) b x y v :=
  ⟨by rw [World.cell?_setCell_other _ _ _ _ (ofs3 (by omega))]; exact C.c0, by rw [World.cell?_setCell_other _ _ _ _ (ofs3 (by omega))]; exact C.c1, World.cell?_setCell_same _ _ _ C.c2, fun j => by rw [World.frozen?_setCell]; exact C.f j⟩
theorem C3.other {W : World} {b k i : Nat} {x y z : Int} {v : Value} (C : C3 W b x y z) (h : k ≠ b) : C3 (W.setCell ⟨k, i, none⟩ v) b x y z :=
  ⟨by rw [World.cell?_setCell_other _ _ _ _ (fun e => h (by injection e))]; exact C.c0, by rw [World.cell?_setCell_other _ _ _ _ (fun e => h (by injection e))]; exact C.c1, by rw [World.cell?_setCell_other _ _ _ _ (fun e => h (by injection e))]; exact C.c2, fun j => by rw [World.frozen?_setCell]; exact C.f j⟩
theorem counts_load {w : World} {B : Nat} {a b c : Value} (z0 : w.cell? ⟨B, 0, none⟩ = some a) (z1 : w.cell? ⟨B, 1, none⟩ = some b) (z2 : w.cell? ⟨B, 2, none⟩ = some c) : (loadVar 294 ⟨B, 0, none⟩).run Tryz.prog w = .ok (.agg #[a, b, c]) w := by
  simp [go_sem, z0, z1, z2]
theorem results_cellA {fn : Func} {p : Tmp} {ty : TypeId} {A : Addr} {x : Value} (h : fn.results = #[.cell p ty]) (tmps : Array Value) (P : Program) (w : World) (hp : tmps.getD p undef = .pointer (some A)) (hl : (loadVar ty A).run P w = .ok x w) :
    (results fn tmps).run P w = .ok x w := by
  simp only [results, h]
  simp only [asAddr, hp, Sem.run_bind, List.mapM_toArray, List.mapM_cons, List.mapM_nil, Sem.run_map, Sem.run_pure, Result.andThen, hl]
  simp
set_option maxRecDepth 100000 in
set_option maxHeartbeats 2000000 in
theorem countsOf_any {w : World} {v : Value} {l : List Opx} (A : OpsIn w v l) (hl : (l.length : Int) ≤ 1000000) :
    Calls Tryz.prog 205 #[v] w fun e w' => e = .returned (.agg #[.int .i64 (ctP 0 l : Int), .int .i64 (ctP 1 l : Int), .int .i64 (ctP 2 l : Int)]) ∧ Below w.heap.size w w' := by
  obtain ⟨ao, cap, rfl, hc, hh⟩ := A.sh
  have HH : Hid (0 < l.length → ∃ b off : Nat, ao = some ⟨b, off, none⟩ ∧ ∀ (i : Nat) (o : Opx), l[i]? = some o → ∀ (j : Nat) (u : Value), (opC o)[j]? = some u → w.cell? ⟨b, off + i * 6 + j, none⟩ = some u) := hh
  clear hh A
  have B0 : Below w.heap.size w ((w.alloc (.cells #[.int .i64 0, .int .i64 0, .int .i64 0] 294)).alloc (.cells #[.int .i64 0, .int .i64 0, .int .i64 0] 294)) := ((Below.refl _ _).alloc (Nat.le_refl _) _).alloc (by simp) _
  have C0 : C3 ((w.alloc (.cells #[.int .i64 0, .int .i64 0, .int .i64 0] 294)).alloc (.cells #[.int .i64 0, .int .i64 0, .int .i64 0] 294)) w.heap.size 0 0 0 := (C3.new w 0 0 0).stays ((Below.refl _ _).alloc (Nat.le_refl _) _)
  have C1 : C3 ((w.alloc (.cells #[.int .i64 0, .int .i64 0, .int .i64 0] 294)).alloc (.cells #[.int .i64 0, .int .i64 0, .int .i64 0] 294)) (w.heap.size + 1) 0 0 0 := by
    have := C3.new (w.alloc (.cells #[.int .i64 0, .int .i64 0, .int .i64 0] 294)) 0 0 0
    rwa [World.size_alloc] at this
  go_enter Tryz.func205, Tryz.ntmps205
  go_upto_region 2 with fail
  generalize ((w.alloc (.cells #[.int .i64 0, .int .i64 0, .int .i64 0] 294)).alloc (.cells #[.int .i64 0, .int .i64 0, .int .i64 0] 294)) = V at *
  have HV : Hid (Below w.heap.size w V ∧ C3 V w.heap.size 0 0 0 ∧ C3 V (w.heap.size + 1) 0 0 0) := ⟨B0, C0, C1⟩
  clear B0 C0 C1
  go_wp2
  go_loopw [8] (fun i wr => ∃ j : Nat, j ≤ l.length ∧ i = .int .i64 j ∧ C3 wr w.heap.size 0 0 0 ∧ C3 wr (w.heap.size + 1) (ctP 0 (l.take j) : Int) (ctP 1 (l.take j) : Int) (ctP 2 (l.take j) : Int) ∧ Below w.heap.size w wr) (fun i _ => l.length - (intOf i).toNat)
  case atStart => exact ⟨0, Nat.zero_le _, rfl, HV.out.2.1, HV.out.2.2, HV.out.1⟩
  case round =>
    obtain ⟨j, hj, rfl, hC0, hC1, hB⟩ := hrel
    clear HV
    by_cases hlt : j < l.length
    · have ho : l[j]? = some l[j] := List.getElem?_eq_getElem hlt
      obtain ⟨b, off, rfl, hcell⟩ := HH.out (by omega)
      obtain ⟨x0, x1, x2, x3, x4, x5⟩ := op_cells (w := wr) (fun k u hk => by rw [hB.cell (World.block_lt_of_cell? _ _ (hcell j _ ho k u hk))]; exact hcell j _ ho k u hk)
      have hb0 := ctP_le 0 (l.take j)
      have hb1 := ctP_le 1 (l.take j)
      have hb2 := ctP_le 2 (l.take j)
      have hbt : (l.take j).length ≤ j := List.length_take_le _ _
      have hlt' : (j : Int) < l.length := by omega
      have HS : Hid (∀ p, ctP p (l.take (j + 1)) = if p = ptO l[j] then ctP p (l.take j) + 1 else ctP p (l.take j)) := fun p => by rw [take_snoc' ho, ctP_snoc]
      have zb : b < wr.heap.size := World.block_lt_of_cell? _ _ x0
      clear ho hcell HH
      have B1 : Below wr.heap.size wr (wr.alloc (.cells #[.string l[j].s, .int .i64 l[j].d, .int .i64 l[j].a, .int .i64 l[j].b, .int .u32 l[j].i, .int .i64 l[j].t] 139)) := (Below.refl _ _).alloc (Nat.le_refl _) _
      generalize l[j] = o at *
      obtain ⟨p, hp⟩ : ∃ p, ptO o = p := ⟨_, rfl⟩
      have hp3 := ptO_lt o
      have hpc := fun w => partOf_is o p hp w
      unfold opV at hpc
      rw [hp] at hp3 HS
      have hsz := hB.size
      have HK : Hid (C3 wr w.heap.size 0 0 0 ∧ C3 wr (w.heap.size + 1) (ctP 0 (l.take j) : Int) (ctP 1 (l.take j) : Int) (ctP 2 (l.take j) : Int) ∧ Below w.heap.size w wr) := ⟨hC0, hC1, hB⟩
      clear hC0 hC1 hB hp
      go_wp2_with fail
      refine (hpc _).mono ?_
      rintro e w1 ⟨rfl, hb⟩
      have hbb := B1.trans (hb.mono (by simp))
      have K1 := HK.out.1.stays hbb
      have K2 := HK.out.2.1.stays hbb
      have K3 : Hid (Below w.heap.size w w1) := HK.out.2.2.trans (hbb.mono hsz)
      have K1H : Hid (C3 w1 w.heap.size 0 0 0) := K1
      have K2H : Hid (C3 w1 (w.heap.size + 1) (ctP 0 (l.take j) : Int) (ctP 1 (l.take j) : Int) (ctP 2 (l.take j) : Int)) := K2
      obtain ⟨q0, q1, q2, qf⟩ := K2
      have zq := World.block_lt_of_cell? _ _ q0
      clear HK hb hbb K1 B1 hpc x0 x1 x2 x3 x4 x5
      have hpp : p = 0 ∨ p = 1 ∨ p = 2 := by omega
      rcases hpp with rfl | rfl | rfl
      · have R : Hid (C3 (w1.setCell ⟨w.heap.size + 1, 0, none⟩ (.int .i64 ((ctP 0 (l.take j) : Int) + 1))) w.heap.size 0 0 0 ∧ C3 (w1.setCell ⟨w.heap.size + 1, 0, none⟩ (.int .i64 ((ctP 0 (l.take j) : Int) + 1))) (w.heap.size + 1) (ctP 0 (l.take (j + 1)) : Int) (ctP 1 (l.take (j + 1)) : Int) (ctP 2 (l.take (j + 1)) : Int) ∧ Below w.heap.size w (w1.setCell ⟨w.heap.size + 1, 0, none⟩ (.int .i64 ((ctP 0 (l.take j) : Int) + 1)))) := by
          refine ⟨K1H.out.other (by omega), ?_, K3.out.setCell (by show w.heap.size ≤ w.heap.size + 1; omega) _⟩
          rw [HS.out 0, HS.out 1, HS.out 2]
          exact K2H.out.put0 _
        have hcv0 : (0 : Int) ≤ (ctP 0 (l.take j) : Int) := by omega
        have hcv1 : (ctP 0 (l.take j) : Int) < 1000000 := by omega
        generalize (ctP 0 (l.take j) : Int) = cv at *
        clear hb0 hb1 hb2 hbt HS
        go_wp2
        go_roundw
        case rel => exact ⟨j + 1, by omega, by go_num, R.out.1, R.out.2.1, R.out.2.2⟩
        case measure => simp [intOf]; omega
      · have R : Hid (C3 (w1.setCell ⟨w.heap.size + 1, 1, none⟩ (.int .i64 ((ctP 1 (l.take j) : Int) + 1))) w.heap.size 0 0 0 ∧ C3 (w1.setCell ⟨w.heap.size + 1, 1, none⟩ (.int .i64 ((ctP 1 (l.take j) : Int) + 1))) (w.heap.size + 1) (ctP 0 (l.take (j + 1)) : Int) (ctP 1 (l.take (j + 1)) : Int) (ctP 2 (l.take (j + 1)) : Int) ∧ Below w.heap.size w (w1.setCell ⟨w.heap.size + 1, 1, none⟩ (.int .i64 ((ctP 1 (l.take j) : Int) + 1)))) := by
          refine ⟨K1H.out.other (by omega), ?_, K3.out.setCell (by show w.heap.size ≤ w.heap.size + 1; omega) _⟩
          rw [HS.out 0, HS.out 1, HS.out 2]
          exact K2H.out.put1 _
        have hcv0 : (0 : Int) ≤ (ctP 1 (l.take j) : Int) := by omega
        have hcv1 : (ctP 1 (l.take j) : Int) < 1000000 := by omega
        generalize (ctP 1 (l.take j) : Int) = cv at *
        clear hb0 hb1 hb2 hbt HS
        go_wp2
        go_roundw
        case rel => exact ⟨j + 1, by omega, by go_num, R.out.1, R.out.2.1, R.out.2.2⟩
        case measure => simp [intOf]; omega
      · have R : Hid (C3 (w1.setCell ⟨w.heap.size + 1, 2, none⟩ (.int .i64 ((ctP 2 (l.take j) : Int) + 1))) w.heap.size 0 0 0 ∧ C3 (w1.setCell ⟨w.heap.size + 1, 2, none⟩ (.int .i64 ((ctP 2 (l.take j) : Int) + 1))) (w.heap.size + 1) (ctP 0 (l.take (j + 1)) : Int) (ctP 1 (l.take (j + 1)) : Int) (ctP 2 (l.take (j + 1)) : Int) ∧ Below w.heap.size w (w1.setCell ⟨w.heap.size + 1, 2, none⟩ (.int .i64 ((ctP 2 (l.take j) : Int) + 1)))) := by
          refine ⟨K1H.out.other (by omega), ?_, K3.out.setCell (by show w.heap.size ≤ w.heap.size + 1; omega) _⟩
          rw [HS.out 0, HS.out 1, HS.out 2]
          exact K2H.out.put2 _
        have hcv0 : (0 : Int) ≤ (ctP 2 (l.take j) : Int) := by omega
        have hcv1 : (ctP 2 (l.take j) : Int) < 1000000 := by omega
        generalize (ctP 2 (l.take j) : Int) = cv at *
        clear hb0 hb1 hb2 hbt HS
        go_wp2
        go_roundw
        case rel => exact ⟨j + 1, by omega, by go_num, R.out.1, R.out.2.1, R.out.2.2⟩
        case measure => simp [intOf]; omega
    · obtain rfl : j = l.length := by omega
      rw [List.take_length] at hC1
      obtain ⟨u0, u1, u2, uf⟩ := hC0
      obtain ⟨y0, y1, y2, yf⟩ := id hC1
      have HL : Hid (∀ (x y z : Int), (loadVar 294 ⟨w.heap.size, 0, none⟩).run Tryz.prog (((wr.setCell ⟨w.heap.size, 0, none⟩ (.int .i64 x)).setCell ⟨w.heap.size, 1, none⟩ (.int .i64 y)).setCell ⟨w.heap.size, 2, none⟩ (.int .i64 z)) = .ok (.agg #[.int .i64 x, .int .i64 y, .int .i64 z]) (((wr.setCell ⟨w.heap.size, 0, none⟩ (.int .i64 x)).setCell ⟨w.heap.size, 1, none⟩ (.int .i64 y)).setCell ⟨w.heap.size, 2, none⟩ (.int .i64 z)) ∧ Below w.heap.size w (((wr.setCell ⟨w.heap.size, 0, none⟩ (.int .i64 x)).setCell ⟨w.heap.size, 1, none⟩ (.int .i64 y)).setCell ⟨w.heap.size, 2, none⟩ (.int .i64 z))) := fun x y z =>
        have G := ((((⟨u0, u1, u2, uf⟩ : C3 wr w.heap.size 0 0 0).put0 x).put1 y).put2 z)
        ⟨counts_load G.c0 G.c1 G.c2, ((hB.setCell (Nat.le_refl _) _).setCell (Nat.le_refl _) _).setCell (Nat.le_refl _) _⟩
      have f0 := uf 0
      have f1 := uf 1
      have f2 := uf 2
      have zz := World.block_lt_of_cell? _ _ u0
      have zy := World.block_lt_of_cell? _ _ y0
      clear hC1 HH
      go_wp2
      refine bodyPost_ret (results_cellA (A := ⟨w.heap.size, 0, none⟩) rfl _ _ _ rfl (HL.out _ _ _).1) rfl ?_
      exact ⟨rfl, (HL.out _ _ _).2⟩
end Go.Proofs.YtflagpkmebdckaaGreatDoor
/-
  Package plan: whether two ops of a row write one register; whether one leaves.
-/
namespace Go.Proofs.YtflagpkmebdckaaGreatDoor
open Go.RowKit Go.Maps
open Num
set_option linter.unusedVariables false
structure BoxP (W : World) (x : Nat) (o : Opx) : Prop where
  c0 : W.cell? ⟨x, 0, none⟩ = some (.string o.s)
  c1 : W.cell? ⟨x, 1, none⟩ = some (.int .i64 o.d)
  c2 : W.cell? ⟨x, 2, none⟩ = some (.int .i64 o.a)
  c3 : W.cell? ⟨x, 3, none⟩ = some (.int .i64 o.b)
  c4 : W.cell? ⟨x, 4, none⟩ = some (.int .u32 o.i)
  c5 : W.cell? ⟨x, 5, none⟩ = some (.int .i64 o.t)
theorem BoxP.lt {W : World} {x : Nat} {o : Opx} (B : BoxP W x o) : x < W.heap.size := World.block_lt_of_cell? _ _ B.c0
theorem BoxP.block {W W' : World} {x : Nat} {o : Opx} (B : BoxP W x o) (h : W'.heap[x]? = W.heap[x]?) : BoxP W' x o := by
  have c : ∀ j, W'.cell? ⟨x, j, none⟩ = W.cell? ⟨x, j, none⟩ := fun j => World.cell?_of_block (a := ⟨x, j, none⟩) h
  exact ⟨(c 0).trans B.c0, (c 1).trans B.c1, (c 2).trans B.c2, (c 3).trans B.c3, (c 4).trans B.c4, (c 5).trans B.c5⟩
theorem BoxP.stays {W W' : World} {x : Nat} {o : Opx} (B : BoxP W x o) (h : Below W.heap.size W W') : BoxP W' x o := B.block (h.block _ B.lt)
theorem BoxP.new (w : World) (o : Opx) : BoxP (w.alloc (.cells #[.string o.s, .int .i64 o.d, .int .i64 o.a, .int .i64 o.b, .int .u32 o.i, .int .i64 o.t] 139)) w.heap.size o := by
  have c : ∀ j, (w.alloc (.cells #[.string o.s, .int .i64 o.d, .int .i64 o.a, .int .i64 o.b, .int .u32 o.i, .int .i64 o.t] 139)).cell? ⟨w.heap.size, j, none⟩ = (#[.string o.s, .int .i64 o.d, .int .i64 o.a, .int .i64 o.b, .int .u32 o.i, .int .i64 o.t] : Array Value)[j]? := fun j => cell_of_row _ _ _ _ _ _ (heap_alloc_new w _)
  exact ⟨c 0, c 1, c 2, c 3, c 4, c 5⟩
structure CkS (W : World) (x b : Nat) (o : Opx) (to : Int) : Prop where
  bx : BoxP W x o
  c : W.cell? ⟨b, 0, none⟩ = some (.int .i64 to)
theorem OpsIn.takeP {w : World} {b off cap : Nat} {l : List Opx} (C : ∀ (i : Nat) (o : Opx), l[i]? = some o → ∀ (j : Nat) (u : Value), (opC o)[j]? = some u → w.cell? ⟨b, off + i * 6 + j, none⟩ = some u) (ok : ∀ o ∈ l, o.ok) (j : Nat) (hj : j ≤ l.length) (hc : l.length ≤ cap) : OpsIn w (.slice (some ⟨b, off, none⟩) j cap) (l.take j) := by
  have hlen : (l.take j).length = j := by rw [List.length_take]; omega
  refine ⟨⟨some ⟨b, off, none⟩, cap, by rw [hlen], by omega, fun _ => ⟨b, off, rfl, fun i o hi k u hk => C i o ?_ k u hk⟩⟩, fun o ho => ok o (List.mem_of_mem_take ho)⟩
  rw [List.getElem?_take] at hi
  split at hi
  · exact hi
  · cases hi
set_option maxRecDepth 100000 in
set_option maxHeartbeats 1000000 in
theorem same_any (o : Opx) (b : Nat) (to : Int) (w : World) (hc : w.cell? ⟨b, 0, none⟩ = some (.int .i64 to)) :
    Calls Tryz.prog 240 #[opV o, .pointer (some ⟨b, 0, none⟩)] w fun e w' => e = .returned (.bool (decide (wrX o = to))) ∧ Below w.heap.size w w' := by
  have hwr := fun W => writes_any o W
  have hb := World.block_lt_of_cell? _ _ hc
  have B0 : Below w.heap.size w (w.alloc (.cells #[.string o.s, .int .i64 o.d, .int .i64 o.a, .int .i64 o.b, .int .u32 o.i, .int .i64 o.t] 139)) := (Below.refl _ _).alloc (Nat.le_refl _) _
  have bx := BoxP.new w o
  have c1 := (B0.cell (p := ⟨b, 0, none⟩) hb).trans hc
  have HR : Hid (decide (wrX o = to) = (wrX o == to)) := by
    show _ = _
    rw [Bool.eq_iff_iff]; simp
  clear hc
  generalize wrX o = x at *
  rw [HR.out]
  clear HR
  unfold opV at *
  go_enter Tryz.func240, Tryz.ntmps240
  go_upto_region 1 with fail
  generalize w.alloc (.cells #[.string o.s, .int .i64 o.d, .int .i64 o.a, .int .i64 o.b, .int .u32 o.i, .int .i64 o.t] 139) = V at *
  have HB : Hid (Below w.heap.size w V) := B0
  clear B0
  refine wp_region_phase 5 [(0, 1), (2, 1), (1, 2), (3, 0), (4, 0)] (fun W => CkS W w.heap.size b o to) (by kernel_rfl) (by kernel_rfl) (fun _ _ _ d _ h => by cases d <;> exact h) ⟨⟨by simpa using bx.c0, by simpa using bx.c1, by simpa using bx.c2, by simpa using bx.c3, by simpa using bx.c4, by simpa using bx.c5⟩, by simpa using c1⟩ ?_
  repeat (first | (refine wpPlanZ_free (by rfl) (by rfl) (fun W => by (go_simp; try with_reducible rfl)) (fun K hK => ?_); go_simp; refine hK _ ?_; clear hK K) | (refine wpPlanZ_quiet (by rfl) (by rfl) (fun W hW => by (obtain ⟨⟨z0, z1, z2, z3, z4, z5⟩, z6⟩ := hW; go_simp; try with_reducible rfl)) (fun K hK => ?_); go_simp; refine hK _ ?_; clear hK K))
  refine wpPlanZ_serial (by rfl) (by rfl) (fun K hK => ?_)
  go_simp
  refine (hwr _).mono ?_
  rintro e w2 ⟨rfl, hb2⟩
  have B2 : Hid (Below w.heap.size w w2) := HB.out.drew.trans (hb2.mono HB.out.size)
  have hz := bx.lt
  have bx2 : BoxP w2 w.heap.size o := bx.block (hb2.block _ hz)
  have c2 : w2.cell? ⟨b, 0, none⟩ = some (.int .i64 to) := (hb2.cell (p := ⟨b, 0, none⟩) (World.block_lt_of_cell? _ _ c1)).trans c1
  refine hK _ _ (fun _ => ⟨bx2, c2⟩) ?_
  clear hK K hb2 bx c1 bx2 c2 hwr HB
  repeat (refine wpPlanZ_free (by rfl) (by rfl) (fun W => by (go_simp; try with_reducible rfl)) (fun K hK => ?_); go_simp; refine hK _ ?_; clear hK K)
  refine wpPlanZ_nil ?_
  go_wp2
  go_ret
  exact ⟨rfl, B2.out⟩
set_option maxRecDepth 100000 in
set_option maxHeartbeats 2000000 in
theorem idxOut {w : World} {v : Value} {l : List Opx} (A : OpsIn w v l) (hl : (l.length : Int) ≤ 1000000) :
    Calls Tryz.prog 241 #[v, .func (.func 214) #[] #[]] w fun e w' => (∃ r : Int, e = .returned (.int .i64 r) ∧ ((0 ≤ r ∧ l.any (fun o => outB o) = true) ∨ (r = -1 ∧ l.any (fun o => outB o) = false))) ∧ Below w.heap.size w w' := by
  obtain ⟨ao, cap, rfl, hc, hh⟩ := A.sh
  have HH : Hid (0 < l.length → ∃ b off : Nat, ao = some ⟨b, off, none⟩ ∧ ∀ (i : Nat) (o : Opx), l[i]? = some o → ∀ (j : Nat) (u : Value), (opC o)[j]? = some u → w.cell? ⟨b, off + i * 6 + j, none⟩ = some u) := hh
  clear hh A
  go_enter Tryz.func241, Tryz.ntmps241
  go_wp2
  go_loopw [8] (fun i wr => ∃ j : Nat, j ≤ l.length ∧ i = .int .i64 j ∧ Hid ((l.take j).any (fun o => outB o) = false) ∧ Below w.heap.size w wr) (fun i _ => l.length - (intOf i).toNat)
  case atStart => exact ⟨0, Nat.zero_le _, rfl, by show _ = _; simp, Below.refl _ _⟩
  case round =>
    obtain ⟨j, hj, rfl, HN, hB⟩ := hrel
    by_cases hlt : j < l.length
    · obtain ⟨o, ho⟩ : ∃ o, l[j]? = some o := ⟨_, List.getElem?_eq_getElem hlt⟩
      obtain ⟨bo, off, rfl, hcell⟩ := HH.out (by omega)
      obtain ⟨x0, x1, x2, x3, x4, x5⟩ := op_cells (w := wr) (fun k u hk => by rw [hB.cell (World.block_lt_of_cell? _ _ (hcell j _ ho k u hk))]; exact hcell j _ ho k u hk)
      have zb : bo < wr.heap.size := World.block_lt_of_cell? _ _ x0
      have hlt' : (j : Int) < l.length := by omega
      have HS : Hid ((l.take (j + 1)).any (fun o => outB o) = ((l.take j).any (fun o => outB o) || outB o)) := by
        show _ = _; rw [take_snoc' ho, List.any_append]; simp
      have HM : Hid (o ∈ l) := List.mem_of_getElem? ho
      have hcl := isOutP_any o wr
      unfold opV at hcl
      have HB : Hid (Below w.heap.size w wr) := hB
      clear ho hcell hB HH
      generalize hP : outB o = pb at *
      go_wp2_with fail
      refine hcl.mono ?_
      rintro e w1 ⟨rfl, hb1⟩
      have HB1 : Hid (Below w.heap.size w w1) := HB.out.trans (hb1.mono HB.out.size)
      clear hcl hb1 HB x0 x1 x2 x3 x4 x5 zb
      cases pb
      · go_wp2
        go_roundw
        case rel => exact ⟨j + 1, by omega, by go_num, by show _ = _; rw [HS.out, HN.out]; rfl, HB1.out⟩
        case measure => simp [intOf]; omega
      · have HT : Hid (l.any (fun o => outB o) = true) := by
          show _ = _; rw [List.any_eq_true]; exact ⟨o, HM.out, hP⟩
        clear hP
        go_wp2
        go_ret
        exact ⟨⟨(j : Int), rfl, .inl ⟨by omega, HT.out⟩⟩, HB1.out⟩
    · obtain rfl : j = l.length := by omega
      have HB : Hid (Below w.heap.size w wr) := hB
      have HT : Hid (l.any (fun o => outB o) = false) := by have := HN.out; rwa [List.take_length] at this
      clear hB HN HH
      go_wp2
      go_ret
      exact ⟨⟨-1, rfl, .inr ⟨rfl, HT.out⟩⟩, HB.out⟩
set_option maxRecDepth 100000 in
set_option maxHeartbeats 1000000 in
theorem hasOut {w : World} {v : Value} {l : List Opx} (A : OpsIn w v l) (hl : (l.length : Int) ≤ 1000000) :
    Calls Tryz.prog 213 #[v, .func (.func 214) #[] #[]] w fun e w' => e = .returned (.bool (l.any (fun o => outB o))) ∧ Below w.heap.size w w' := by
  have hi := idxOut A hl
  obtain ⟨ao, cap, rfl, hc, hh⟩ := A.sh
  clear hh A
  generalize hP : l.any (fun o => outB o) = pb at *
  clear hP
  go_enter Tryz.func213, Tryz.ntmps213
  go_wp2_with fail
  refine hi.mono ?_
  rintro e w1 ⟨⟨r, rfl, hr⟩, hb⟩
  have HB : Hid (Below w.heap.size w w1) := hb
  clear hb hi
  rcases hr with ⟨hr, rfl⟩ | ⟨rfl, rfl⟩
  · have hr' : ¬ r < 0 := by omega
    go_wp2
    go_ret
    first | exact ⟨rfl, HB.out⟩ | exact ⟨by simp [hr], HB.out⟩
  · go_wp2
    go_ret
    exact ⟨rfl, HB.out⟩
set_option maxRecDepth 100000 in
set_option maxHeartbeats 2000000 in
theorem idxSame {w : World} {v : Value} {l : List Opx} (A : OpsIn w v l) (hl : (l.length : Int) ≤ 1000000) {b : Nat} {to : Int} (hcc : w.cell? ⟨b, 0, none⟩ = some (.int .i64 to)) :
    Calls Tryz.prog 241 #[v, .func (.func 240) #[] #[.pointer (some ⟨b, 0, none⟩)]] w fun e w' => (∃ r : Int, e = .returned (.int .i64 r) ∧ ((0 ≤ r ∧ l.any (fun o => decide (wrX o = to)) = true) ∨ (r = -1 ∧ l.any (fun o => decide (wrX o = to)) = false))) ∧ Below w.heap.size w w' := by
  obtain ⟨ao, cap, rfl, hc, hh⟩ := A.sh
  have HH : Hid (0 < l.length → ∃ b off : Nat, ao = some ⟨b, off, none⟩ ∧ ∀ (i : Nat) (o : Opx), l[i]? = some o → ∀ (j : Nat) (u : Value), (opC o)[j]? = some u → w.cell? ⟨b, off + i * 6 + j, none⟩ = some u) := hh
  clear hh A
  go_enter Tryz.func241, Tryz.ntmps241
  go_wp2
  go_loopw [8] (fun i wr => ∃ j : Nat, j ≤ l.length ∧ i = .int .i64 j ∧ Hid ((l.take j).any (fun o => decide (wrX o = to)) = false) ∧ Below w.heap.size w wr) (fun i _ => l.length - (intOf i).toNat)
  case atStart => exact ⟨0, Nat.zero_le _, rfl, by show _ = _; simp, Below.refl _ _⟩
  case round =>
    obtain ⟨j, hj, rfl, HN, hB⟩ := hrel
    by_cases hlt : j < l.length
    · obtain ⟨o, ho⟩ : ∃ o, l[j]? = some o := ⟨_, List.getElem?_eq_getElem hlt⟩
      obtain ⟨bo, off, rfl, hcell⟩ := HH.out (by omega)
      obtain ⟨x0, x1, x2, x3, x4, x5⟩ := op_cells (w := wr) (fun k u hk => by rw [hB.cell (World.block_lt_of_cell? _ _ (hcell j _ ho k u hk))]; exact hcell j _ ho k u hk)
      have zb : bo < wr.heap.size := World.block_lt_of_cell? _ _ x0
      have hlt' : (j : Int) < l.length := by omega
      have HS : Hid ((l.take (j + 1)).any (fun o => decide (wrX o = to)) = ((l.take j).any (fun o => decide (wrX o = to)) || decide (wrX o = to))) := by
        show _ = _; rw [take_snoc' ho, List.any_append]; simp
      have HM : Hid (o ∈ l) := List.mem_of_getElem? ho
      have hcl := same_any o b to wr ((hB.cell (p := ⟨b, 0, none⟩) (World.block_lt_of_cell? _ _ hcc)).trans hcc)
      unfold opV at hcl
      have HB : Hid (Below w.heap.size w wr) := hB
      clear ho hcell hB HH
      generalize hP : decide (wrX o = to) = pb at *
      go_wp2_with fail
      refine hcl.mono ?_
      rintro e w1 ⟨rfl, hb1⟩
      have HB1 : Hid (Below w.heap.size w w1) := HB.out.trans (hb1.mono HB.out.size)
      clear hcl hb1 HB x0 x1 x2 x3 x4 x5 zb
      cases pb
      · go_wp2
        go_roundw
        case rel => exact ⟨j + 1, by omega, by go_num, by show _ = _; rw [HS.out, HN.out]; rfl, HB1.out⟩
        case measure => simp [intOf]; omega
      · have HT : Hid (l.any (fun o => decide (wrX o = to)) = true) := by
          show _ = _; rw [List.any_eq_true]; exact ⟨o, HM.out, hP⟩
        clear hP
        go_wp2
        go_ret
        exact ⟨⟨(j : Int), rfl, .inl ⟨by omega, HT.out⟩⟩, HB1.out⟩
    · obtain rfl : j = l.length := by omega
      have HB : Hid (Below w.heap.size w wr) := hB
      have HT : Hid (l.any (fun o => decide (wrX o = to)) = false) := by have := HN.out; rwa [List.take_length] at this
      clear hB HN HH
      go_wp2
      go_ret
      exact ⟨⟨-1, rfl, .inr ⟨rfl, HT.out⟩⟩, HB.out⟩
set_option maxRecDepth 100000 in
set_option maxHeartbeats 1000000 in
theorem hasSame {w : World} {v : Value} {l : List Opx} (A : OpsIn w v l) (hl : (l.length : Int) ≤ 1000000) {b : Nat} {to : Int} (hcc : w.cell? ⟨b, 0, none⟩ = some (.int .i64 to)) :
    Calls Tryz.prog 213 #[v, .func (.func 240) #[] #[.pointer (some ⟨b, 0, none⟩)]] w fun e w' => e = .returned (.bool (l.any (fun o => decide (wrX o = to)))) ∧ Below w.heap.size w w' := by
  have hi := idxSame A hl hcc
  obtain ⟨ao, cap, rfl, hc, hh⟩ := A.sh
  clear hh A
  generalize hP : l.any (fun o => decide (wrX o = to)) = pb at *
  clear hP
  go_enter Tryz.func213, Tryz.ntmps213
  go_wp2_with fail
  refine hi.mono ?_
  rintro e w1 ⟨⟨r, rfl, hr⟩, hb⟩
  have HB : Hid (Below w.heap.size w w1) := hb
  clear hb hi
  rcases hr with ⟨hr, rfl⟩ | ⟨rfl, rfl⟩
  · have hr' : ¬ r < 0 := by omega
    go_wp2
    go_ret
    first | exact ⟨rfl, HB.out⟩ | exact ⟨by simp [hr], HB.out⟩
  · go_wp2
    go_ret
    exact ⟨rfl, HB.out⟩
end Go.Proofs.YtflagpkmebdckaaGreatDoor
/-
  Package plan: whether a row's parts fit; whether it has room.
-/
namespace Go.Proofs.YtflagpkmebdckaaGreatDoor
open Go.RowKit Go.Maps
open Num
set_option linter.unusedVariables false
/-- how many each part may have -/
structure Mst (w : World) : Prop where
  c0 : w.cell? ⟨12, 0, none⟩ = some (.int .i64 3)
  c1 : w.cell? ⟨12, 1, none⟩ = some (.int .i64 1)
  c2 : w.cell? ⟨12, 2, none⟩ = some (.int .i64 1)
theorem Mst.lt {w : World} (M : Mst w) : 12 < w.heap.size := World.block_lt_of_cell? _ _ M.c0
theorem Mst.stays {w w' : World} (M : Mst w) (h : Below w.heap.size w w') : Mst w' := ⟨(h.cell (p := ⟨12, 0, none⟩) M.lt).trans M.c0, (h.cell (p := ⟨12, 1, none⟩) M.lt).trans M.c1, (h.cell (p := ⟨12, 2, none⟩) M.lt).trans M.c2⟩
theorem idx3 (x y z : Value) (W : World) : (Instr.index 294 (.agg #[x, y, z]) (.int .i64 0)).run Tryz.prog W = .ok x W ∧ (Instr.index 294 (.agg #[x, y, z]) (.int .i64 1)).run Tryz.prog W = .ok y W ∧ (Instr.index 294 (.agg #[x, y, z]) (.int .i64 2)).run Tryz.prog W = .ok z W := by
  have e1 : (sizeOf 3).run Tryz.prog W = .ok 1 W := by kernel_rfl
  refine ⟨?_, ?_, ?_⟩ <;> simp [Instr.index, run_underlying Tryz.underlying294, e1, part, go_sem]
set_option maxRecDepth 100000 in
set_option maxHeartbeats 2000000 in
theorem fit_any {w : World} (M : Mst w) (a b c : Nat) (ha : a ≤ 1000000) (hb : b ≤ 1000000) (hc : c ≤ 1000000) :
    Calls Tryz.prog 207 #[.agg #[.int .i64 (a : Int), .int .i64 (b : Int), .int .i64 (c : Int)]] w fun e w' => e = .returned (.bool (fitC a b c)) ∧ Below w.heap.size w w' := by
  have B0 : Below w.heap.size w (w.alloc (.cells #[.int .i64 (a : Int), .int .i64 (b : Int), .int .i64 (c : Int)] 294)) := (Below.refl _ _).alloc (Nat.le_refl _) _
  have M1 := M.stays B0
  have C1 := C3.new w a b c
  have hz := M.lt
  have hi0 : ∀ W, (Instr.index 294 (.agg #[.int .i64 (a : Int), .int .i64 (b : Int), .int .i64 (c : Int)]) (.int .i64 0)).run Tryz.prog W = .ok (.int .i64 (a : Int)) W := fun W => (idx3 _ _ _ W).1
  have hi1 : ∀ W, (Instr.index 294 (.agg #[.int .i64 (a : Int), .int .i64 (b : Int), .int .i64 (c : Int)]) (.int .i64 1)).run Tryz.prog W = .ok (.int .i64 (b : Int)) W := fun W => (idx3 _ _ _ W).2.1
  have hi2 : ∀ W, (Instr.index 294 (.agg #[.int .i64 (a : Int), .int .i64 (b : Int), .int .i64 (c : Int)]) (.int .i64 2)).run Tryz.prog W = .ok (.int .i64 (c : Int)) W := fun W => (idx3 _ _ _ W).2.2
  obtain ⟨R, hR⟩ : ∃ R, fitC a b c = R := ⟨_, rfl⟩
  have HR : Hid (fitC a b c = R) := hR
  rw [hR]
  clear hR M
  go_enter Tryz.func207, Tryz.ntmps207
  go_upto_region 1 with fail
  generalize w.alloc (.cells #[.int .i64 (a : Int), .int .i64 (b : Int), .int .i64 (c : Int)] 294) = V at *
  obtain ⟨m0, m1, m2⟩ := M1
  obtain ⟨y0, y1, y2, yf⟩ := C1
  have HB : Hid (Below w.heap.size w V) := B0
  clear B0
  go_wp2
  go_loop [3, 7] (fun n i => (i = .int .i64 0 ∧ n = .int .i64 0) ∨ (i = .int .i64 1 ∧ n = .int .i64 (a : Int) ∧ Hid (a ≤ 3)) ∨ (i = .int .i64 2 ∧ n = .int .i64 ((a : Int) + b) ∧ Hid (a ≤ 3 ∧ b ≤ 1)) ∨ (i = .int .i64 3 ∧ n = .int .i64 ((a : Int) + b + c) ∧ Hid (a ≤ 3 ∧ b ≤ 1 ∧ c ≤ 1))) (fun _ i => 3 - (intOf i).toNat)
  case atStart => exact .inl ⟨rfl, rfl⟩
  case round =>
    rcases hrel with ⟨rfl, rfl⟩ | ⟨rfl, rfl, HI⟩ | ⟨rfl, rfl, HI⟩ | ⟨rfl, rfl, HI⟩
    · by_cases hx : (3 : Int) < a
      · have E : Hid (R = false) := by
          show _ = _; rw [← HR.out]; unfold fitC
          rw [show decide (a ≤ 3) = false by simp only [decide_eq_false_iff_not]; omega]; simp
        clear HR
        go_wp2
        go_ret
        exact ⟨by rw [E.out]; rfl, HB.out⟩
      · have hx2 : Hid (a ≤ 3) := by show _ ≤ _; omega
        go_wp2
        go_round
        case rel => exact .inr (.inl ⟨rfl, by first | rfl | go_num, hx2.out⟩)
        case measure => simp [intOf]
    · by_cases hx : (1 : Int) < b
      · have E : Hid (R = false) := by
          show _ = _; rw [← HR.out]; unfold fitC
          rw [show decide (b ≤ 1) = false by simp only [decide_eq_false_iff_not]; omega]; simp
        clear HR
        go_wp2
        go_ret
        exact ⟨by rw [E.out]; rfl, HB.out⟩
      · have hx2 : Hid (b ≤ 1) := by show _ ≤ _; omega
        go_wp2
        go_round
        case rel => exact .inr (.inr (.inl ⟨rfl, by first | rfl | go_num, ⟨HI.out, hx2.out⟩⟩))
        case measure => simp [intOf]
    · by_cases hx : (1 : Int) < c
      · have E : Hid (R = false) := by
          show _ = _; rw [← HR.out]; unfold fitC
          rw [show decide (c ≤ 1) = false by simp only [decide_eq_false_iff_not]; omega]; simp
        clear HR
        go_wp2
        go_ret
        exact ⟨by rw [E.out]; rfl, HB.out⟩
      · have hx2 : Hid (c ≤ 1) := by show _ ≤ _; omega
        go_wp2
        go_round
        case rel => exact .inr (.inr (.inr ⟨rfl, by first | rfl | go_num, ⟨HI.out.1, HI.out.2, hx2.out⟩⟩))
        case measure => simp [intOf]
    · obtain ⟨h1, h2, h3⟩ := HI.out
      have E : Hid (R = decide ((a : Int) + b + c ≤ 4)) := by
        show _ = _; rw [← HR.out]; unfold fitC
        simp only [h1, h2, h3, decide_true, Bool.true_and]
        by_cases h : a + b + c ≤ 4
        · rw [decide_eq_true h, decide_eq_true (by omega)]
        · rw [decide_eq_false h, decide_eq_false (by omega)]
      clear HR h1 h2 h3 HI
      go_wp2
      go_ret
      exact ⟨by rw [E.out]; rfl, HB.out⟩
set_option maxRecDepth 100000 in
set_option maxHeartbeats 2000000 in
theorem hasRoom_any {w : World} (M : Mst w) {v : Value} {l : List Opx} (A : OpsIn w v l) (hl : (l.length : Int) ≤ 100000) (o : Opx) :
    Calls Tryz.prog 142 #[v, opV o] w fun e w' => e = .returned (.bool (roomB o l)) ∧ Below w.heap.size w w' := by
  have B0 : Below w.heap.size w (w.alloc (.cells #[.string o.s, .int .i64 o.d, .int .i64 o.a, .int .i64 o.b, .int .u32 o.i, .int .i64 o.t] 139)) := (Below.refl _ _).alloc (Nat.le_refl _) _
  have hct := countsOf_any (A.stays B0) (by omega)
  obtain ⟨ao, cap, rfl, _, _⟩ := A.sh
  have b0 := ctP_le 0 l
  have b1 := ctP_le 1 l
  have b2 := ctP_le 2 l
  obtain ⟨p, hp⟩ : ∃ p, ptO o = p := ⟨_, rfl⟩
  have hp3 := ptO_lt o
  have hpc := fun w => partOf_is o p hp w
  have HF : Hid (∀ W, Mst W → ∀ a b c : Nat, a ≤ 1000000 → b ≤ 1000000 → c ≤ 1000000 → a = (if 0 = p then ctP 0 l + 1 else ctP 0 l) → b = (if 1 = p then ctP 1 l + 1 else ctP 1 l) → c = (if 2 = p then ctP 2 l + 1 else ctP 2 l) → Calls Tryz.prog 207 #[.agg #[.int .i64 (a : Int), .int .i64 (b : Int), .int .i64 (c : Int)]] W fun e w' => e = .returned (.bool (roomB o l)) ∧ Below W.heap.size W w') := by
    intro W hW a b c ha hb hc ea eb ec
    have := fit_any hW a b c ha hb hc
    unfold roomB fitB
    rw [ctP_snoc, ctP_snoc, ctP_snoc, hp, ← ea, ← eb, ← ec]
    exact this
  have MH : Hid (Mst w) := M
  unfold opV at hpc ⊢
  rw [hp] at hp3
  have c0 : (w.alloc (.cells #[.string o.s, .int .i64 o.d, .int .i64 o.a, .int .i64 o.b, .int .u32 o.i, .int .i64 o.t] 139)).heap[w.heap.size]? = some (.cells #[.string o.s, .int .i64 o.d, .int .i64 o.a, .int .i64 o.b, .int .u32 o.i, .int .i64 o.t] 139 (0, 0)) := heap_alloc_new w _
  generalize hR : roomB o l = R at *
  clear A hp M hR
  go_enter Tryz.func142, Tryz.ntmps142
  go_upto_region 1 with fail
  generalize w.alloc (.cells #[.string o.s, .int .i64 o.d, .int .i64 o.a, .int .i64 o.b, .int .u32 o.i, .int .i64 o.t] 139) = V at *
  have HB : Hid (Below w.heap.size w V) := B0
  have hV0 : w.heap.size < V.heap.size := by
    have h := c0
    rcases Nat.lt_or_ge w.heap.size V.heap.size with h' | h'
    · exact h'
    · rw [Array.getElem?_eq_none h'] at h; cases h
  have HC : Hid (V.heap[w.heap.size]? = some (.cells #[.string o.s, .int .i64 o.d, .int .i64 o.a, .int .i64 o.b, .int .u32 o.i, .int .i64 o.t] 139 (0, 0))) := c0
  clear B0 c0
  go_wp2_with fail
  refine hct.mono ?_
  rintro e w1 ⟨rfl, hb1⟩
  have hs1 := hb1.size
  have HB1 : Hid (Below w.heap.size w w1) := HB.out.trans (hb1.mono HB.out.size)
  have hC1 : w1.heap[w.heap.size]? = some (.cells #[.string o.s, .int .i64 o.d, .int .i64 o.a, .int .i64 o.b, .int .u32 o.i, .int .i64 o.t] 139 (0, 0)) := (hb1.block _ hV0).trans HC.out
  have N1 := C3.new w1 (ctP 0 l) (ctP 1 l) (ctP 2 l)
  have B2 : Below w1.heap.size w1 (w1.alloc (.cells #[.int .i64 (ctP 0 l : Int), .int .i64 (ctP 1 l : Int), .int .i64 (ctP 2 l : Int)] 294)) := (Below.refl _ _).alloc (Nat.le_refl _) _
  have hz1 : w.heap.size < w1.heap.size := by omega
  have hC2 := (B2.block _ hz1).trans hC1
  clear hb1 hct HB HC hC1
  go_upto_region 2 with fail
  generalize w1.alloc (.cells #[.int .i64 (ctP 0 l : Int), .int .i64 (ctP 1 l : Int), .int .i64 (ctP 2 l : Int)] 294) = V2 at *
  have y0 : V2.cell? ⟨w.heap.size, 0, none⟩ = some (.string o.s) := by rw [cell_of_row _ _ _ _ _ _ hC2]; rfl
  have y1 : V2.cell? ⟨w.heap.size, 1, none⟩ = some (.int .i64 o.d) := by rw [cell_of_row _ _ _ _ _ _ hC2]; rfl
  have y2 : V2.cell? ⟨w.heap.size, 2, none⟩ = some (.int .i64 o.a) := by rw [cell_of_row _ _ _ _ _ _ hC2]; rfl
  have y3 : V2.cell? ⟨w.heap.size, 3, none⟩ = some (.int .i64 o.b) := by rw [cell_of_row _ _ _ _ _ _ hC2]; rfl
  have y4 : V2.cell? ⟨w.heap.size, 4, none⟩ = some (.int .u32 o.i) := by rw [cell_of_row _ _ _ _ _ _ hC2]; rfl
  have y5 : V2.cell? ⟨w.heap.size, 5, none⟩ = some (.int .i64 o.t) := by rw [cell_of_row _ _ _ _ _ _ hC2]; rfl
  have HN : Hid (C3 V2 w1.heap.size (ctP 0 l) (ctP 1 l) (ctP 2 l)) := N1
  have HB2 : Hid (Below w.heap.size w V2) := HB1.out.trans (B2.mono (by omega))
  have hs2 : w1.heap.size < V2.heap.size := N1.lt
  clear N1 hC2 HB1 B2
  go_wp2_with fail
  refine (hpc _).mono ?_
  rintro e w3 ⟨rfl, hb3⟩
  have hs3 := hb3.size
  have N3 := HN.out.stays hb3
  have HN3 : Hid (C3 w3 w1.heap.size (ctP 0 l) (ctP 1 l) (ctP 2 l)) := N3
  have HB3 : Hid (Below w.heap.size w w3) := HB2.out.trans (hb3.mono HB2.out.size)
  obtain ⟨q0, q1, q2, qf⟩ := N3
  have zq : w1.heap.size < w3.heap.size := by omega
  clear hb3 hpc HN HB2 y0 y1 y2 y3 y4 y5
  have hpp : p = 0 ∨ p = 1 ∨ p = 2 := by omega
  rcases hpp with rfl | rfl | rfl
  · have R2 : Hid (C3 (w3.setCell ⟨w1.heap.size, 0, none⟩ (.int .i64 ((ctP 0 l : Int) + 1))) w1.heap.size ((ctP 0 l : Int) + 1) ((ctP 1 l : Int)) ((ctP 2 l : Int)) ∧ Below w.heap.size w (w3.setCell ⟨w1.heap.size, 0, none⟩ (.int .i64 ((ctP 0 l : Int) + 1)))) := ⟨HN3.out.put0 _, HB3.out.setCell (by show w.heap.size ≤ w1.heap.size; omega) _⟩
    have HFH : Hid (∀ W, Mst W → Calls Tryz.prog 207 #[.agg #[.int .i64 ((ctP 0 l : Int) + 1), .int .i64 ((ctP 1 l : Int)), .int .i64 ((ctP 2 l : Int))]] W fun e w' => e = .returned (.bool R) ∧ Below W.heap.size W w') := fun W hW => HF.out W hW (ctP 0 l + 1) (ctP 1 l) (ctP 2 l) (by omega) (by omega) (by omega) rfl rfl rfl
    have k00 : (0 : Int) ≤ (ctP 0 l : Int) := by omega
    have k01 : (ctP 0 l : Int) ≤ 100000 := by omega
    have k10 : (0 : Int) ≤ (ctP 1 l : Int) := by omega
    have k11 : (ctP 1 l : Int) ≤ 100000 := by omega
    have k20 : (0 : Int) ≤ (ctP 2 l : Int) := by omega
    have k21 : (ctP 2 l : Int) ≤ 100000 := by omega
    clear b0 b1 b2
    clear HF HN3 HB3
    generalize (ctP 0 l : Int) = k0 at *
    generalize (ctP 1 l : Int) = k1 at *
    generalize (ctP 2 l : Int) = k2 at *
    go_upto_region 3 with fail
    generalize w3.setCell ⟨w1.heap.size, 0, none⟩ (.int .i64 (k0 + 1)) = V4 at *
    obtain ⟨⟨q0, q1, q2, qf⟩, B4⟩ := R2.out
    have zq4 := World.block_lt_of_cell? _ _ q0
    have hfit := HFH.out V4 (MH.out.stays B4)
    have HB4 : Hid (Below w.heap.size w V4) := B4
    clear HFH R2 B4
    go_wp2_with fail
    refine hfit.mono ?_
    rintro e w5 ⟨rfl, hb5⟩
    have HB5 : Hid (Below w.heap.size w w5) := HB4.out.trans (hb5.mono HB4.out.size)
    clear hb5 hfit
    go_wp2
    go_ret
    exact ⟨rfl, HB5.out⟩
  · have R2 : Hid (C3 (w3.setCell ⟨w1.heap.size, 1, none⟩ (.int .i64 ((ctP 1 l : Int) + 1))) w1.heap.size ((ctP 0 l : Int)) ((ctP 1 l : Int) + 1) ((ctP 2 l : Int)) ∧ Below w.heap.size w (w3.setCell ⟨w1.heap.size, 1, none⟩ (.int .i64 ((ctP 1 l : Int) + 1)))) := ⟨HN3.out.put1 _, HB3.out.setCell (by show w.heap.size ≤ w1.heap.size; omega) _⟩
    have HFH : Hid (∀ W, Mst W → Calls Tryz.prog 207 #[.agg #[.int .i64 ((ctP 0 l : Int)), .int .i64 ((ctP 1 l : Int) + 1), .int .i64 ((ctP 2 l : Int))]] W fun e w' => e = .returned (.bool R) ∧ Below W.heap.size W w') := fun W hW => HF.out W hW (ctP 0 l) (ctP 1 l + 1) (ctP 2 l) (by omega) (by omega) (by omega) rfl rfl rfl
    have k00 : (0 : Int) ≤ (ctP 0 l : Int) := by omega
    have k01 : (ctP 0 l : Int) ≤ 100000 := by omega
    have k10 : (0 : Int) ≤ (ctP 1 l : Int) := by omega
    have k11 : (ctP 1 l : Int) ≤ 100000 := by omega
    have k20 : (0 : Int) ≤ (ctP 2 l : Int) := by omega
    have k21 : (ctP 2 l : Int) ≤ 100000 := by omega
    clear b0 b1 b2
    clear HF HN3 HB3
    generalize (ctP 0 l : Int) = k0 at *
    generalize (ctP 1 l : Int) = k1 at *
    generalize (ctP 2 l : Int) = k2 at *
    go_upto_region 3 with fail
    generalize w3.setCell ⟨w1.heap.size, 1, none⟩ (.int .i64 (k1 + 1)) = V4 at *
    obtain ⟨⟨q0, q1, q2, qf⟩, B4⟩ := R2.out
    have zq4 := World.block_lt_of_cell? _ _ q0
    have hfit := HFH.out V4 (MH.out.stays B4)
    have HB4 : Hid (Below w.heap.size w V4) := B4
    clear HFH R2 B4
    go_wp2_with fail
    refine hfit.mono ?_
    rintro e w5 ⟨rfl, hb5⟩
    have HB5 : Hid (Below w.heap.size w w5) := HB4.out.trans (hb5.mono HB4.out.size)
    clear hb5 hfit
    go_wp2
    go_ret
    exact ⟨rfl, HB5.out⟩
  · have R2 : Hid (C3 (w3.setCell ⟨w1.heap.size, 2, none⟩ (.int .i64 ((ctP 2 l : Int) + 1))) w1.heap.size ((ctP 0 l : Int)) ((ctP 1 l : Int)) ((ctP 2 l : Int) + 1) ∧ Below w.heap.size w (w3.setCell ⟨w1.heap.size, 2, none⟩ (.int .i64 ((ctP 2 l : Int) + 1)))) := ⟨HN3.out.put2 _, HB3.out.setCell (by show w.heap.size ≤ w1.heap.size; omega) _⟩
    have HFH : Hid (∀ W, Mst W → Calls Tryz.prog 207 #[.agg #[.int .i64 ((ctP 0 l : Int)), .int .i64 ((ctP 1 l : Int)), .int .i64 ((ctP 2 l : Int) + 1)]] W fun e w' => e = .returned (.bool R) ∧ Below W.heap.size W w') := fun W hW => HF.out W hW (ctP 0 l) (ctP 1 l) (ctP 2 l + 1) (by omega) (by omega) (by omega) rfl rfl rfl
    have k00 : (0 : Int) ≤ (ctP 0 l : Int) := by omega
    have k01 : (ctP 0 l : Int) ≤ 100000 := by omega
    have k10 : (0 : Int) ≤ (ctP 1 l : Int) := by omega
    have k11 : (ctP 1 l : Int) ≤ 100000 := by omega
    have k20 : (0 : Int) ≤ (ctP 2 l : Int) := by omega
    have k21 : (ctP 2 l : Int) ≤ 100000 := by omega
    clear b0 b1 b2
    clear HF HN3 HB3
    generalize (ctP 0 l : Int) = k0 at *
    generalize (ctP 1 l : Int) = k1 at *
    generalize (ctP 2 l : Int) = k2 at *
    go_upto_region 3 with fail
    generalize w3.setCell ⟨w1.heap.size, 2, none⟩ (.int .i64 (k2 + 1)) = V4 at *
    obtain ⟨⟨q0, q1, q2, qf⟩, B4⟩ := R2.out
    have zq4 := World.block_lt_of_cell? _ _ q0
    have hfit := HFH.out V4 (MH.out.stays B4)
    have HB4 : Hid (Below w.heap.size w V4) := B4
    clear HFH R2 B4
    go_wp2_with fail
    refine hfit.mono ?_
    rintro e w5 ⟨rfl, hb5⟩
    have HB5 : Hid (Below w.heap.size w w5) := HB4.out.trans (hb5.mono HB4.out.size)
    clear hb5 hfit
    go_wp2
    go_ret
    exact ⟨rfl, HB5.out⟩
end Go.Proofs.YtflagpkmebdckaaGreatDoor
/-
  Package plan: writesTwice, checkRow.
-/
namespace Go.Proofs.YtflagpkmebdckaaGreatDoor
open Go.RowKit Go.Maps
open Num
set_option linter.unusedVariables false
set_option maxRecDepth 100000 in
set_option maxHeartbeats 2000000 in
theorem writesTwice_any {w : World} {v : Value} {l : List Opx} (A : OpsIn w v l) (hl : (l.length : Int) ≤ 100000) :
    Calls Tryz.prog 212 #[v] w fun e w' => e = .returned (.bool (dupA [] l)) ∧ Below w.heap.size w w' := by
  obtain ⟨ao, cap, rfl, hc, hh⟩ := A.sh
  have HH : Hid (0 < l.length → ∃ b off : Nat, ao = some ⟨b, off, none⟩ ∧ ∀ (i : Nat) (o : Opx), l[i]? = some o → ∀ (j : Nat) (u : Value), (opC o)[j]? = some u → w.cell? ⟨b, off + i * 6 + j, none⟩ = some u) := hh
  have OK : Hid (∀ o ∈ l, o.ok) := A.ok
  have hmf : ∀ (fn : Fn) (first cap : Array Value) (w : World), (Instr.makeFunc fn first cap).run Tryz.prog w = .ok (.func fn first cap) w := fun _ _ _ _ => rfl
  clear hh A
  go_enter Tryz.func212, Tryz.ntmps212
  go_wp2
  go_loopw [9] (fun i wr => ∃ j : Nat, j ≤ l.length ∧ i = .int .i64 j ∧ Hid (dupA [] (l.take j) = false) ∧ Below w.heap.size w wr) (fun i _ => l.length - (intOf i).toNat)
  case atStart => exact ⟨0, Nat.zero_le _, rfl, by show _ = _; simp [dupA], Below.refl _ _⟩
  case round =>
    obtain ⟨j, hj, rfl, HN, hB⟩ := hrel
    by_cases hlt : j < l.length
    · obtain ⟨o, ho⟩ : ∃ o, l[j]? = some o := ⟨_, List.getElem?_eq_getElem hlt⟩
      obtain ⟨bo, off, rfl, hcell⟩ := HH.out (by omega)
      obtain ⟨x0, x1, x2, x3, x4, x5⟩ := op_cells (w := wr) (fun k u hk => by rw [hB.cell (World.block_lt_of_cell? _ _ (hcell j _ ho k u hk))]; exact hcell j _ ho k u hk)
      have hbl : bo < w.heap.size := World.block_lt_of_cell? _ _ (hcell j o ho 0 _ rfl)
      have HI : Hid (∀ W, Below w.heap.size w W → OpsIn W (.slice (some ⟨bo, off, none⟩) j cap) (l.take j)) := fun W hW => OpsIn.takeP (fun i o hi k u hk => (hW.cell (p := ⟨bo, off + i * 6 + k, none⟩) hbl).trans (hcell i o hi k u hk)) OK.out j hj hc
      have HTL : Hid ((l.take j).length = j) := by show _ = _; rw [List.length_take]; omega
      have zb : bo < wr.heap.size := World.block_lt_of_cell? _ _ x0
      have hlt' : (j : Int) < l.length := by omega
      have hlt2 : (j : Int) ≤ cap := by omega
      have HS : Hid (dupA [] (l.take (j + 1)) = (decide (wrX o ≠ 0) && (l.take j).any fun p => decide (wrX p = wrX o))) := by
        show _ = _; rw [dupA_take ho, HN.out]; rfl
      have HF : Hid (dupA [] (l.take (j + 1)) = true → dupA [] l = true) := fun h => dupA_found h
      have hwr := fun W => writes_any o W
      unfold opV at hwr
      have HB : Hid (Below w.heap.size w wr) := hB
      have B1 : Below wr.heap.size wr (wr.alloc (.cells #[.string o.s, .int .i64 o.d, .int .i64 o.a, .int .i64 o.b, .int .u32 o.i, .int .i64 o.t] 139)) := (Below.refl _ _).alloc (Nat.le_refl _) _
      have hsz := hB.size
      clear ho hcell hB HH hc
      generalize wrX o = x at *
      go_wp2_with fail
      refine (hwr _).mono ?_
      rintro e w1 ⟨rfl, hb1⟩
      have HB1 : Hid (Below w.heap.size w w1) := HB.out.trans ((B1.trans (hb1.mono (by simp))).mono hsz)
      have hs1 : w.heap.size ≤ w1.heap.size := HB1.out.size
      clear hwr hb1 B1 HB x0 x1 x2 x3 x4 x5 zb hsz
      by_cases hx : x = 0
      · have hx0 : (x != 0) = false := by simp [hx]
        have HZ : Hid (dupA [] (l.take (j + 1)) = false) := by show _ = _; rw [HS.out, hx]; rfl
        have HB2 : Hid (Below w.heap.size w (w1.alloc (.cells #[.int .i64 x] 3))) := HB1.out.alloc (by omega) _
        clear hx HS HF HI HTL
        go_wp2
        go_roundw
        case rel => exact ⟨j + 1, by omega, by go_num, HZ.out, HB2.out⟩
        case measure => simp [intOf]; omega
      · have hx0 : (x != 0) = true := by simp [hx]
        have HZ : Hid (dupA [] (l.take (j + 1)) = ((l.take j).any fun p => decide (wrX p = x))) := by show _ = _; rw [HS.out]; simp [hx]
        have HB2 : Hid (Below w.heap.size w (w1.alloc (.cells #[.int .i64 x] 3))) := HB1.out.alloc (by omega) _
        have hcx : (w1.alloc (.cells #[.int .i64 x] 3)).cell? ⟨w1.heap.size, 0, none⟩ = some (.int .i64 x) := by simp
        have hhs := hasSame (HI.out _ HB2.out) (by rw [HTL.out]; omega) hcx
        clear hx HS HI HTL
        generalize ((l.take j).any fun p => decide (wrX p = x)) = rb at *
        go_wp2_with fail
        refine hhs.mono ?_
        rintro e w3 ⟨rfl, hb3⟩
        have HB3 : Hid (Below w.heap.size w w3) := HB2.out.trans (hb3.mono HB2.out.size)
        clear hhs hb3 HB2 hcx
        cases rb
        · go_wp2
          go_roundw
          case rel => exact ⟨j + 1, by omega, by go_num, HZ.out, HB3.out⟩
          case measure => simp [intOf]; omega
        · have HT : Hid (dupA [] l = true) := HF.out HZ.out
          clear HF HZ
          go_wp2
          go_ret
          exact ⟨by rw [HT.out]; rfl, HB3.out⟩
    · obtain rfl : j = l.length := by omega
      have HB : Hid (Below w.heap.size w wr) := hB
      have HT : Hid (dupA [] l = false) := by have := HN.out; rwa [List.take_length] at this
      clear hB HN HH
      go_wp2
      go_ret
      exact ⟨by rw [HT.out]; rfl, HB.out⟩
/-- the program's variables that a plan's check reads -/
structure Ep (pe : Nat → Addr) (w : World) : Prop where
  e : Eg pe w
  x : w.cell? ⟨8, 0, none⟩ = some (.iface 332 (.pointer (some (pe 7))))
  m : Mst w
theorem Ep.stays {pe : Nat → Addr} {w w' : World} (E : Ep pe w) (h : Below w.heap.size w w') : Ep pe w' := ⟨E.e.stays h, (h.cell (p := ⟨8, 0, none⟩) (World.block_lt_of_cell? _ _ E.x)).trans E.x, E.m.stays h⟩
theorem rowE_len {many : Int} {last : Bool} {l : List Opx} (h : l = [] ∨ 4 < l.length) : rowE many last l = 3 := by unfold rowE; rw [if_pos h]
theorem rowE_fir {many : Int} {last : Bool} {l : List Opx} (h : ¬ (l = [] ∨ 4 < l.length)) (hf : firE many l ≠ 0) : rowE many last l = firE many l := by unfold rowE; rw [if_neg h, if_pos hf]
theorem rowE_fit {many : Int} {last : Bool} {l : List Opx} (h : ¬ (l = [] ∨ 4 < l.length)) (hf : firE many l = 0) (hi : fitB l = false) : rowE many last l = 8 := by unfold rowE; rw [if_neg h, if_neg (by rw [hf]; simp), if_pos hi]
theorem rowE_dup {many : Int} {last : Bool} {l : List Opx} (h : ¬ (l = [] ∨ 4 < l.length)) (hf : firE many l = 0) (hi : fitB l = true) (hd : dupA [] l = true) : rowE many last l = 7 := by unfold rowE; rw [if_neg h, if_neg (by rw [hf]; simp), if_neg (by rw [hi]; simp), if_pos hd]
theorem rowE_end {many : Int} {last : Bool} {l : List Opx} (h : ¬ (l = [] ∨ 4 < l.length)) (hf : firE many l = 0) (hi : fitB l = true) (hd : dupA [] l = false) : rowE many last l = if last ≠ l.any outB then 3 else 0 := by unfold rowE; rw [if_neg h, if_neg (by rw [hf]; simp), if_neg (by rw [hi]; simp), if_neg (by rw [hd]; simp)]
set_option maxRecDepth 100000 in
set_option maxHeartbeats 4000000 in
theorem checkRow_any (pe : Nat → Addr) {w : World} (E : Ep pe w) {v : Value} {l : List Opx} (A : OpsIn w v l) (hl : (l.length : Int) ≤ 1000000) (many : Int) (last : Bool) :
    Calls Tryz.prog 151 #[v, .int .i64 many, .bool last] w fun e w' => e = .returned (erV pe (rowE many last l)) ∧ Below w.heap.size w w' := by
  have A0 := A
  obtain ⟨ao, cap, rfl, hc, hh⟩ := A.sh
  have EH : Hid (Ep pe w) := E
  obtain ⟨z2, z3, z4, z8⟩ := E.e.size
  obtain ⟨⟨e2, e3, e4, e8⟩, e7, _⟩ := E
  by_cases h0 : l = []
  · have HF : Hid (rowE many last l = 3) := rowE_len (.inl h0)
    subst h0
    clear hh A A0
    go_enter Tryz.func151, Tryz.ntmps151
    go_wp2
    go_ret
    exact ⟨by rw [HF.out]; rfl, Below.refl _ _⟩
  have hpos : 0 < l.length := List.length_pos_iff.2 h0
  have hp0 : ¬ (l.length : Int) = 0 := by omega
  have hpb : ((l.length : Int) == 0) = false := by simpa using hp0
  by_cases h4 : 4 < l.length
  · have HF : Hid (rowE many last l = 3) := rowE_len (.inr h4)
    have h4' : (4 : Int) < l.length := by omega
    clear hh A A0
    go_enter Tryz.func151, Tryz.ntmps151
    go_wp2
    go_ret
    exact ⟨by rw [HF.out]; rfl, Below.refl _ _⟩
  have hlen : Hid (¬ (l = [] ∨ 4 < l.length)) := fun h => h.elim h0 h4
  have h4' : ¬ (4 : Int) < l.length := by omega
  have h4i : (l.length : Int) ≤ 4 := by omega
  obtain ⟨bo, off, rfl, hcell⟩ := hh hpos
  have hbl : bo < w.heap.size := by
    obtain ⟨o, ho⟩ : ∃ o, l[0]? = some o := ⟨_, List.getElem?_eq_getElem hpos⟩
    exact World.block_lt_of_cell? _ _ (hcell 0 o ho 0 _ rfl)
  have HH : Hid (∀ (i : Nat) (o : Opx), l[i]? = some o → ∀ (j : Nat) (u : Value), (opC o)[j]? = some u → w.cell? ⟨bo, off + i * 6 + j, none⟩ = some u) := hcell
  have OK : Hid (∀ o ∈ l, o.ok) := A.ok
  have AH : Hid (∀ W, Below w.heap.size w W → OpsIn W (.slice (some ⟨bo, off, none⟩) l.length cap) l) := fun W hW => A0.stays hW
  clear hh A A0 hcell h0 h4 e2 e3 e4 e7 e8
  go_enter Tryz.func151, Tryz.ntmps151
  go_wp2
  go_loopw [21] (fun i wr => ∃ j : Nat, j ≤ l.length ∧ i = .int .i64 j ∧ Hid (∀ k p, k < j → l[k]? = some p → opE p many = 0) ∧ Below w.heap.size w wr) (fun i _ => l.length - (intOf i).toNat)
  case atStart => exact ⟨0, Nat.zero_le _, rfl, (by intro k p hk; omega), Below.refl _ _⟩
  case round =>
    obtain ⟨j, hj, rfl, HN, hB⟩ := hrel
    have HB : Hid (Below w.heap.size w wr) := hB
    have hsz := hB.size
    by_cases hlt : j < l.length
    · obtain ⟨o, ho⟩ : ∃ o, l[j]? = some o := ⟨_, List.getElem?_eq_getElem hlt⟩
      obtain ⟨x0, x1, x2, x3, x4, x5⟩ := op_cells (w := wr) (fun k u hk => by rw [hB.cell (World.block_lt_of_cell? _ _ (HH.out j _ ho k u hk))]; exact HH.out j _ ho k u hk)
      have zb : bo < wr.heap.size := World.block_lt_of_cell? _ _ x0
      have hlt' : (j : Int) < l.length := by omega
      have hok := OK.out o (List.mem_of_getElem? ho)
      have B1 : Below wr.heap.size wr (wr.alloc (.cells #[.string o.s, .int .i64 o.d, .int .i64 o.a, .int .i64 o.b, .int .u32 o.i, .int .i64 o.t] 139)) := (Below.refl _ _).alloc (Nat.le_refl _) _
      have E1 := EH.out.e.stays (hB.trans (B1.mono hsz))
      by_cases hbad : opE o many ≠ 0
      · have HF : Hid (rowE many last l = opE o many) := by
          have hf := firE_at many l j o ho HN.out hbad
          show _ = _
          rw [rowE_fir hlen.out (by rw [hf]; exact hbad), hf]
        have HV := erV_some (pe := pe) hbad
        have hck := checkOp_bad pe E1 o hok many hbad
        unfold opV at hck
        clear ho hB HN HH OK AH E1 hbad hok
        go_wp2_with fail
        refine hck.mono ?_
        rintro e w1 ⟨rfl, hb1⟩
        have HB1 : Hid (Below w.heap.size w w1) := HB.out.trans ((B1.trans (hb1.mono (by simp))).mono hsz)
        clear hck hb1 B1 x0 x1 x2 x3 x4 x5 zb HB
        go_wp2
        go_ret
        exact ⟨by rw [HF.out, HV]; rfl, HB1.out⟩
      · have hgood : opE o many = 0 := by simpa using hbad
        have HN2 : Hid (∀ k p, k < j + 1 → l[k]? = some p → opE p many = 0) := by
          intro k p hk hp
          by_cases hkj : k = j
          · subst hkj
            rw [ho] at hp
            obtain rfl := Option.some.inj hp
            exact hgood
          · exact HN.out k p (by omega) hp
        have hck := checkOp_ok pe E1 o hok many hgood
        unfold opV at hck
        clear ho hB HN E1 hbad hok hgood
        go_wp2_with fail
        refine hck.mono ?_
        rintro e w1 ⟨rfl, hb1⟩
        have HB1 : Hid (Below w.heap.size w w1) := HB.out.trans ((B1.trans (hb1.mono (by simp))).mono hsz)
        clear hck hb1 B1 x0 x1 x2 x3 x4 x5 zb HB
        go_wp2
        go_roundw
        case rel => exact ⟨j + 1, by omega, by go_num, HN2.out, HB1.out⟩
        case measure => simp [intOf]; omega
    · obtain rfl : j = l.length := by omega
      have HFI : Hid (firE many l = 0) := firE_none many l (fun o ho => by
        obtain ⟨k, hk, he⟩ := List.getElem_of_mem ho
        exact HN.out k o hk (by rw [List.getElem?_eq_getElem hk, he]))
      have hco := countsOf_any (AH.out _ hB) (by omega)
      clear hB HN HH OK
      go_wp2_with fail
      refine hco.mono ?_
      rintro e w1 ⟨rfl, hb1⟩
      have HB1 : Hid (Below w.heap.size w w1) := HB.out.trans (hb1.mono hsz)
      have c0 := ctP_le 0 l
      have c1 := ctP_le 1 l
      have c2 := ctP_le 2 l
      have hfi := fit_any (EH.out.m.stays HB1.out) (ctP 0 l) (ctP 1 l) (ctP 2 l) (by omega) (by omega) (by omega)
      have hff : fitC (ctP 0 l) (ctP 1 l) (ctP 2 l) = fitB l := rfl
      rw [hff] at hfi
      clear hco hb1 HB hsz c0 c1 c2 hff
      go_wp2_with fail
      refine hfi.mono ?_
      rintro e w2 ⟨rfl, hb2⟩
      have HB2 : Hid (Below w.heap.size w w2) := HB1.out.trans (hb2.mono HB1.out.size)
      clear hfi hb2 HB1
      cases hfb : fitB l with
      | false =>
        have HF : Hid (rowE many last l = 8) := rowE_fit hlen.out HFI.out hfb
        obtain ⟨⟨e2, e3, e4, e8⟩, e7, _⟩ := EH.out.stays HB2.out
        have zz := World.block_lt_of_cell? _ _ e8
        go_wp2
        go_ret
        exact ⟨by rw [HF.out]; rfl, HB2.out⟩
      | true =>
        have hwt := writesTwice_any (AH.out _ HB2.out) (by omega)
        have HFB : Hid (fitB l = true) := hfb
        clear hfb
        go_wp2_with fail
        refine hwt.mono ?_
        rintro e w3 ⟨rfl, hb3⟩
        have HB3 : Hid (Below w.heap.size w w3) := HB2.out.trans (hb3.mono HB2.out.size)
        clear hwt hb3 HB2
        cases hdb : dupA [] l with
        | true =>
          have HF : Hid (rowE many last l = 7) := rowE_dup hlen.out HFI.out HFB.out hdb
          obtain ⟨⟨e2, e3, e4, e8⟩, e7, _⟩ := EH.out.stays HB3.out
          have zz := World.block_lt_of_cell? _ _ e7
          go_wp2
          go_ret
          exact ⟨by rw [HF.out]; rfl, HB3.out⟩
        | false =>
          have hio := hasOut (AH.out _ HB3.out) (by omega)
          have HR : Hid (rowE many last l = if last ≠ l.any (fun o => outB o) then 3 else 0) := rowE_end hlen.out HFI.out HFB.out hdb
          clear hdb
          generalize l.any (fun o => outB o) = ob at *
          go_wp2_with fail
          refine hio.mono ?_
          rintro e w4 ⟨rfl, hb4⟩
          have HB4 : Hid (Below w.heap.size w w4) := HB3.out.trans (hb4.mono HB3.out.size)
          obtain ⟨⟨e2, e3, e4, e8⟩, e7, _⟩ := EH.out.stays HB4.out
          have zz := World.block_lt_of_cell? _ _ e3
          clear hio hb4 HB3
          cases last <;> cases ob
          all_goals
            go_wp2
            go_ret
            exact ⟨by rw [HR.out]; rfl, HB4.out⟩
end Go.Proofs.YtflagpkmebdckaaGreatDoor
