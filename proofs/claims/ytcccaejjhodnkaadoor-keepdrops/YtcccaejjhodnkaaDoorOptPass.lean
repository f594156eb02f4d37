/-
  Package opt: an op that is passed.
-/
import Derived.Test.YtcccaejjhodnkaaDoorOptNeeds
namespace Go.Proofs.YtcccaejjhodnkaaDoor
open Go.RowKit Go.Maps
open Num
set_option linter.unusedVariables false
/-- six cells of an op in a box -/
structure BoxO (W : World) (x : Nat) (o : Opx) : Prop where
  c0 : W.cell? ⟨x, 0, none⟩ = some (.string o.s)
  c1 : W.cell? ⟨x, 1, none⟩ = some (.int .i64 o.d)
  c2 : W.cell? ⟨x, 2, none⟩ = some (.int .i64 o.a)
  c3 : W.cell? ⟨x, 3, none⟩ = some (.int .i64 o.b)
  c4 : W.cell? ⟨x, 4, none⟩ = some (.int .u32 o.i)
  c5 : W.cell? ⟨x, 5, none⟩ = some (.int .i64 o.t)
theorem BoxO.lt {W : World} {x : Nat} {o : Opx} (B : BoxO W x o) : x < W.heap.size := World.block_lt_of_cell? _ _ B.c0
theorem BoxO.block {W W' : World} {x : Nat} {o : Opx} (B : BoxO W x o) (h : W'.heap[x]? = W.heap[x]?) : BoxO W' x o := by
  have c : ∀ j, W'.cell? ⟨x, j, none⟩ = W.cell? ⟨x, j, none⟩ := fun j => World.cell?_of_block (a := ⟨x, j, none⟩) h
  exact ⟨(c 0).trans B.c0, (c 1).trans B.c1, (c 2).trans B.c2, (c 3).trans B.c3, (c 4).trans B.c4, (c 5).trans B.c5⟩
theorem BoxO.new (w : World) (o : Opx) : BoxO (w.alloc (.cells #[.string o.s, .int .i64 o.d, .int .i64 o.a, .int .i64 o.b, .int .u32 o.i, .int .i64 o.t] 60)) w.heap.size o := by
  have c : ∀ j, (w.alloc (.cells #[.string o.s, .int .i64 o.d, .int .i64 o.a, .int .i64 o.b, .int .u32 o.i, .int .i64 o.t] 60)).cell? ⟨w.heap.size, j, none⟩ = (#[.string o.s, .int .i64 o.d, .int .i64 o.a, .int .i64 o.b, .int .u32 o.i, .int .i64 o.t] : Array Value)[j]? := fun j => cell_of_row _ _ _ _ _ _ (heap_alloc_new w _)
  exact ⟨c 0, c 1, c 2, c 3, c 4, c 5⟩
/-- pass, on its way: w as it began, W now -/
structure PsAt (w W : World) (b : Nat) (o : Opx) (n : Nx) : Prop where
  g : w.grownBy W (some b)
  nd : NeedAt W b n
  bx : BoxO W w.heap.size o
  hb : b < w.heap.size
theorem PsAt.stays {w W W' : World} {b : Nat} {o : Opx} {n : Nx} (P : PsAt w W b o n) (h : Below W.heap.size W W') : PsAt w W' b o n :=
  ⟨grown_trans P.g (grown_below h), RowIs.stays P.nd h, P.bx.block (h.block _ P.bx.lt), P.hb⟩
theorem PsAt.turn {w W W' : World} {b : Nat} {o : Opx} {n n' : Nx} (P : PsAt w W b o n) (h : W.grownBy W' (some b)) (hn : NeedAt W' b n') : PsAt w W' b o n' :=
  ⟨grown_trans P.g h, hn, P.bx.block (h.block _ P.bx.lt (by intro e; have := Option.some.inj e; have := P.hb; omega)), P.hb⟩
theorem PsAt.drew {w W : World} {b : Nat} {o : Opx} {n : Nx} (P : PsAt w W b o n) : PsAt w W.drew b o n := ⟨⟨P.g.os, P.g.tape, P.g.output, P.g.size, P.g.block⟩, P.nd, ⟨P.bx.c0, P.bx.c1, P.bx.c2, P.bx.c3, P.bx.c4, P.bx.c5⟩, P.hb⟩
theorem PsAt.put {w W : World} {b : Nat} {o : Opx} {n : Nx} (P : PsAt w W b o n) (i : Nat) (v : Bool) : PsAt w (W.setCell ⟨b, i, none⟩ (.bool v)) b o (fun r => if r = i then v else n r) := by
  refine P.turn (grown_set ⟨b, i, none⟩ _) (RowIs.put P.nd i (.bool v) _ ?_ ?_)
  · simp
  · intro j hj hne
    simp only [Value.bool.injEq]
    rw [if_neg (by omega)]
set_option maxRecDepth 100000 in
set_option maxHeartbeats 4000000 in
theorem pass_0 {w : World} {b : Nat} {n : Nx} (N : NeedAt w b n) (o : Opx) (d : Nat) (hd : wrX o = d) (h1 : d < 64) (hr : ∀ r ∈ rdX o, 0 ≤ r ∧ r < 64) (hk : o.k < 25) : Calls Tryd.prog 59 #[.pointer (some ⟨b, 0, none⟩), opV o] w fun e w' => e = .returned (.tuple #[]) ∧ NeedAt w' b (passN n o) ∧ w.grownBy w' (some b) := by
  have hwr := fun w => writes_any o w
  have hrd := fun w => reads_any o w
  rw [hd] at hwr
  obtain ⟨L, hL⟩ : ∃ L, rdX o = L := ⟨_, rfl⟩
  rw [hL] at hrd hr
  have hl3 : (L.length : Int) ≤ 3 := by rw [← hL]; rcases rd_ways o with ⟨_, _, _, h⟩ | ⟨_, _, _, h⟩ | ⟨_, _, _, h⟩ | ⟨_, _, _, h⟩ <;> rw [h] <;> simp
  have P0 : PsAt w (w.alloc (.cells #[.string o.s, .int .i64 o.d, .int .i64 o.a, .int .i64 o.b, .int .u32 o.i, .int .i64 o.t] 60)) b o n := ⟨grown_below ((Below.refl _ _).alloc (Nat.le_refl _) _), RowIs.stays N ((Below.refl _ _).alloc (Nat.le_refl _) _), BoxO.new w o, RowIs.lt N⟩
  obtain ⟨nz, hnz⟩ : ∃ nz : Nx, nz = fun r => if 25 ≤ o.k ∧ 0 ≤ r ∧ r ≤ 33 then true else n r := ⟨_, rfl⟩
  have HP : Hid (passN n o = fun r => if r ∈ L then true else if r = d then false else nz r) := by
    show _ = _; funext r; unfold passN; rw [hL, hd, hnz]
  have HNZ : Hid (nz = fun r => if 25 ≤ o.k ∧ 0 ≤ r ∧ r ≤ 33 then true else n r) := hnz
  have HR : Hid (∀ r ∈ L, 0 ≤ r ∧ r < 64) := hr
  have h1' : (d : Int) < 64 := by omega
  have hbx := P0.hb
  have e25 : (o.s.toList == [105, 102]) = false := by rw [show (o.s.toList == [105, 102]) = _ from kn_eq o.s 25 (by omega) (by omega)]; simp; unfold Opx.k at hk; omega
  have e26 : (o.s.toList == [111, 117, 116]) = false := by rw [show (o.s.toList == [111, 117, 116]) = _ from kn_eq o.s 26 (by omega) (by omega)]; simp; unfold Opx.k at hk; omega
  have e27 : (o.s.toList == [111, 117, 116, 114]) = false := by rw [show (o.s.toList == [111, 117, 116, 114]) = _ from kn_eq o.s 27 (by omega) (by omega)]; simp; unfold Opx.k at hk; omega
  have HK : Hid (o.k < 25) := hk
  clear hk
  clear N hd hL hnz hr
  unfold opV at *
  go_enter Tryd.func59, Tryd.ntmps59
  go_upto_region 6 with fail
  have P1 : Hid (PsAt w (w.alloc (.cells #[.string o.s, .int .i64 o.d, .int .i64 o.a, .int .i64 o.b, .int .u32 o.i, .int .i64 o.t] 60)) b o nz) := by
    rw [show nz = n by rw [HNZ.out]; funext r; rw [if_neg (by have := HK.out; omega)]]
    exact P0
  clear P0
  generalize w.alloc (.cells #[.string o.s, .int .i64 o.d, .int .i64 o.a, .int .i64 o.b, .int .u32 o.i, .int .i64 o.t] 60) = V at *
  obtain ⟨k0, k1, k2, k3, k4, k5⟩ := P1.out.bx
  refine wp_region_phase 5 [(0, 0), (1, 1), (3, 0), (2, 2), (4, 0), (5, 2)] (fun W => BoxO W w.heap.size o) (by kernel_rfl) (by kernel_rfl) (fun _ _ _ d _ h => by cases d <;> exact h) ⟨by simpa using k0, by simpa using k1, by simpa using k2, by simpa using k3, by simpa using k4, by simpa using k5⟩ ?_
  repeat (first | (refine wpPlanZ_free (by rfl) (by rfl) (fun W => by (go_simp; try with_reducible rfl)) (fun K hK => ?_); go_simp; refine hK _ ?_; clear hK K) | (refine wpPlanZ_quiet (by rfl) (by rfl) (fun W hW => by (obtain ⟨z0, z1, z2, z3, z4, z5⟩ := hW; go_simp; try with_reducible rfl)) (fun K hK => ?_); go_simp; refine hK _ ?_; clear hK K))
  refine wpPlanZ_serial (by rfl) (by rfl) (fun K hK => ?_)
  go_simp
  refine (hwr _).mono ?_
  rintro e w3 ⟨rfl, hb3⟩
  have P2 : PsAt w w3 b o nz := P1.out.drew.stays hb3
  have P2H : Hid (PsAt w w3 b o nz) := P2
  refine hK _ _ (fun _ => ⟨P2.bx.c0, P2.bx.c1, P2.bx.c2, P2.bx.c3, P2.bx.c4, P2.bx.c5⟩) ?_
  have c := RowIs.cell P2.nd (j := d) h1
  have f := RowIs.fz P2.nd d
  have hbz := RowIs.lt P2.nd
  clear hK K hwr hb3 P2 k0 k1 k2 k3 k4 k5 P1
  repeat (refine wpPlanZ_free (by rfl) (by rfl) (fun W => by (go_simp; try with_reducible rfl)) (fun K hK => ?_); go_simp; refine hK _ ?_; clear hK K)
  refine wpPlanZ_serial (by rfl) (by rfl) (fun K hK => ?_)
  go_simp
  refine hK _ _ (fun h => absurd h (by decide)) ?_
  clear hK K
  refine wpPlanZ_nil ?_
  have P3 : PsAt w (w3.setCell ⟨b, d, none⟩ (.bool false)) b o (fun r => if r = d then false else nz r) := P2H.out.put d false
  clear c f hbz P2H
  generalize w3.setCell ⟨b, d, none⟩ (.bool false) = U at *
  have P3H : Hid (PsAt w U b o (fun r => if r = d then false else nz r)) := P3
  obtain ⟨k0, k1, k2, k3, k4, k5⟩ := P3.bx
  have hxz := P3.bx.lt
  clear P3
  go_wp2_with fail
  refine (hrd _).mono ?_
  rintro e w4 ⟨v, rfl, ho, hb4⟩
  obtain ⟨ao, cap, rfl, hcap, hcl⟩ := ints_cell ho
  have P4 : Hid (PsAt w w4 b o (fun r => if r = d then false else nz r)) := P3H.out.stays hb4
  have HC : Hid (0 < L.length → ∃ g, ao = some ⟨g, 0, none⟩ ∧ U.heap.size ≤ g ∧ ∀ (i : Nat) (x : Int), L[i]? = some x → w4.cell? ⟨g, i, none⟩ = some (.int .i64 x)) := hcl
  have hUz : Hid (w.heap.size ≤ U.heap.size) := P3H.out.g.size
  clear hrd hb4 ho hcl k0 k1 k2 k3 k4 k5 P3H
  go_wp2
  go_loopw [5, 22] (fun _ i wr => ∃ j : Nat, j ≤ L.length ∧ i = .int .i64 j ∧ PsAt w wr b o (fun r => if r ∈ L.take j then true else if r = d then false else nz r) ∧ w4.grownBy wr (some b)) (fun _ i _ => L.length - (intOf i).toNat)
  case atStart => exact ⟨0, Nat.zero_le _, rfl, by simpa using P4.out, grown_refl _ _⟩
  case round =>
    obtain ⟨j, hj, rfl, hP, hG⟩ := hrel
    have HG : Hid (w4.grownBy wr (some b)) := hG
    have HPs : Hid (PsAt w wr b o (fun r => if r ∈ L.take j then true else if r = d then false else nz r)) := hP
    clear hG hP P4
    by_cases hlt : j < L.length
    · obtain ⟨x, hx, hxm⟩ : ∃ x, L[j]? = some x ∧ x ∈ L := ⟨L[j], List.getElem?_eq_getElem hlt, List.getElem_mem hlt⟩
      obtain ⟨g, rfl, hgU, hcell⟩ := HC.out (by omega)
      have hc4 := hcell j x hx
      have hcx : wr.cell? ⟨g, j, none⟩ = some (.int .i64 x) := (World.cell?_of_block (a := ⟨g, j, none⟩) (HG.out.block g (World.block_lt_of_cell? _ _ hc4) (by intro e; have := Option.some.inj e; have := hUz.out; omega))).trans hc4
      obtain ⟨x0, x1⟩ := HR.out x hxm
      obtain ⟨x, rfl⟩ : ∃ y : Nat, x = y := ⟨x.toNat, by omega⟩
      have c := RowIs.cell HPs.out.nd (j := x) (by omega)
      have f := RowIs.fz HPs.out.nd x
      have hbz := RowIs.lt HPs.out.nd
      have hlt' : (j : Int) < L.length := by omega
      have HX : Hid (L[j]? = some (x : Int)) := hx
      have hgz := World.block_lt_of_cell? _ _ hcx
      clear hx hxm hcell hc4
      go_wp2
      go_roundw
      case rel =>
        refine ⟨j + 1, by omega, by go_num, ?_, grown_trans HG.out (grown_set ⟨b, x, none⟩ _)⟩
        have := HPs.out.put x true
        refine ⟨this.g, this.nd.congr fun r hr => ?_, this.bx, this.hb⟩
        rw [List.take_add_one, HX.out]
        simp only [Option.toList_some, List.mem_append, List.mem_singleton]
        by_cases hrx : (r : Int) = x
        · rw [if_pos (.inr hrx), if_pos hrx]
        · by_cases hm : (r : Int) ∈ L.take j
          · rw [if_pos (.inl hm), if_neg hrx, if_pos hm]
          · rw [if_neg (by intro h; rcases h with h | h; exact hm h; exact hrx h), if_neg hrx, if_neg hm]
      case measure => simp [intOf]; omega
    · obtain rfl : j = L.length := by omega
      go_wp2
      go_end0
      refine ⟨rfl, ?_, HPs.out.g⟩
      rw [HP.out]
      have := HPs.out.nd
      rw [List.take_length] at this
      exact this
set_option maxRecDepth 100000 in
set_option maxHeartbeats 4000000 in
theorem pass_25 {w : World} {b : Nat} {n : Nx} (N : NeedAt w b n) (o : Opx) (d : Nat) (hd : wrX o = d) (h1 : d < 64) (hr : ∀ r ∈ rdX o, 0 ≤ r ∧ r < 64) (hk : o.k = 25) : Calls Tryd.prog 59 #[.pointer (some ⟨b, 0, none⟩), opV o] w fun e w' => e = .returned (.tuple #[]) ∧ NeedAt w' b (passN n o) ∧ w.grownBy w' (some b) := by
  have hwr := fun w => writes_any o w
  have hrd := fun w => reads_any o w
  rw [hd] at hwr
  obtain ⟨L, hL⟩ : ∃ L, rdX o = L := ⟨_, rfl⟩
  rw [hL] at hrd hr
  have hl3 : (L.length : Int) ≤ 3 := by rw [← hL]; rcases rd_ways o with ⟨_, _, _, h⟩ | ⟨_, _, _, h⟩ | ⟨_, _, _, h⟩ | ⟨_, _, _, h⟩ <;> rw [h] <;> simp
  have P0 : PsAt w (w.alloc (.cells #[.string o.s, .int .i64 o.d, .int .i64 o.a, .int .i64 o.b, .int .u32 o.i, .int .i64 o.t] 60)) b o n := ⟨grown_below ((Below.refl _ _).alloc (Nat.le_refl _) _), RowIs.stays N ((Below.refl _ _).alloc (Nat.le_refl _) _), BoxO.new w o, RowIs.lt N⟩
  obtain ⟨nz, hnz⟩ : ∃ nz : Nx, nz = fun r => if 25 ≤ o.k ∧ 0 ≤ r ∧ r ≤ 33 then true else n r := ⟨_, rfl⟩
  have HP : Hid (passN n o = fun r => if r ∈ L then true else if r = d then false else nz r) := by
    show _ = _; funext r; unfold passN; rw [hL, hd, hnz]
  have HNZ : Hid (nz = fun r => if 25 ≤ o.k ∧ 0 ≤ r ∧ r ≤ 33 then true else n r) := hnz
  have HR : Hid (∀ r ∈ L, 0 ≤ r ∧ r < 64) := hr
  have h1' : (d : Int) < 64 := by omega
  have hbx := P0.hb
  have e25 : (o.s.toList == [105, 102]) = true := by rw [show (o.s.toList == [105, 102]) = _ from kn_eq o.s 25 (by omega) (by omega)]; simp; unfold Opx.k at hk; omega
  have e26 : (o.s.toList == [111, 117, 116]) = false := by rw [show (o.s.toList == [111, 117, 116]) = _ from kn_eq o.s 26 (by omega) (by omega)]; simp; unfold Opx.k at hk; omega
  have e27 : (o.s.toList == [111, 117, 116, 114]) = false := by rw [show (o.s.toList == [111, 117, 116, 114]) = _ from kn_eq o.s 27 (by omega) (by omega)]; simp; unfold Opx.k at hk; omega
  have HK : Hid (o.k = 25) := hk
  clear hk
  clear N hd hL hnz hr
  unfold opV at *
  go_enter Tryd.func59, Tryd.ntmps59
  go_wp2_with fail
  generalize w.alloc (.cells #[.string o.s, .int .i64 o.d, .int .i64 o.a, .int .i64 o.b, .int .u32 o.i, .int .i64 o.t] 60) = V0 at *
  refine (leaveN_any P0.nd).mono ?_
  rintro e V ⟨rfl, hN, hg⟩
  have P1 : Hid (PsAt w V b o nz) := by
    have := P0.turn hg hN
    rw [show nz = fun r => if 0 ≤ r ∧ r ≤ 33 then true else n r by rw [HNZ.out]; funext r; rw [HK.out]; simp]
    exact this
  clear hN hg P0
  go_upto_region 6 with fail
  obtain ⟨k0, k1, k2, k3, k4, k5⟩ := P1.out.bx
  refine wp_region_phase 5 [(0, 0), (1, 1), (3, 0), (2, 2), (4, 0), (5, 2)] (fun W => BoxO W w.heap.size o) (by kernel_rfl) (by kernel_rfl) (fun _ _ _ d _ h => by cases d <;> exact h) ⟨by simpa using k0, by simpa using k1, by simpa using k2, by simpa using k3, by simpa using k4, by simpa using k5⟩ ?_
  repeat (first | (refine wpPlanZ_free (by rfl) (by rfl) (fun W => by (go_simp; try with_reducible rfl)) (fun K hK => ?_); go_simp; refine hK _ ?_; clear hK K) | (refine wpPlanZ_quiet (by rfl) (by rfl) (fun W hW => by (obtain ⟨z0, z1, z2, z3, z4, z5⟩ := hW; go_simp; try with_reducible rfl)) (fun K hK => ?_); go_simp; refine hK _ ?_; clear hK K))
  refine wpPlanZ_serial (by rfl) (by rfl) (fun K hK => ?_)
  go_simp
  refine (hwr _).mono ?_
  rintro e w3 ⟨rfl, hb3⟩
  have P2 : PsAt w w3 b o nz := P1.out.drew.stays hb3
  have P2H : Hid (PsAt w w3 b o nz) := P2
  refine hK _ _ (fun _ => ⟨P2.bx.c0, P2.bx.c1, P2.bx.c2, P2.bx.c3, P2.bx.c4, P2.bx.c5⟩) ?_
  have c := RowIs.cell P2.nd (j := d) h1
  have f := RowIs.fz P2.nd d
  have hbz := RowIs.lt P2.nd
  clear hK K hwr hb3 P2 k0 k1 k2 k3 k4 k5 P1
  repeat (refine wpPlanZ_free (by rfl) (by rfl) (fun W => by (go_simp; try with_reducible rfl)) (fun K hK => ?_); go_simp; refine hK _ ?_; clear hK K)
  refine wpPlanZ_serial (by rfl) (by rfl) (fun K hK => ?_)
  go_simp
  refine hK _ _ (fun h => absurd h (by decide)) ?_
  clear hK K
  refine wpPlanZ_nil ?_
  have P3 : PsAt w (w3.setCell ⟨b, d, none⟩ (.bool false)) b o (fun r => if r = d then false else nz r) := P2H.out.put d false
  clear c f hbz P2H
  generalize w3.setCell ⟨b, d, none⟩ (.bool false) = U at *
  have P3H : Hid (PsAt w U b o (fun r => if r = d then false else nz r)) := P3
  obtain ⟨k0, k1, k2, k3, k4, k5⟩ := P3.bx
  have hxz := P3.bx.lt
  clear P3
  go_wp2_with fail
  refine (hrd _).mono ?_
  rintro e w4 ⟨v, rfl, ho, hb4⟩
  obtain ⟨ao, cap, rfl, hcap, hcl⟩ := ints_cell ho
  have P4 : Hid (PsAt w w4 b o (fun r => if r = d then false else nz r)) := P3H.out.stays hb4
  have HC : Hid (0 < L.length → ∃ g, ao = some ⟨g, 0, none⟩ ∧ U.heap.size ≤ g ∧ ∀ (i : Nat) (x : Int), L[i]? = some x → w4.cell? ⟨g, i, none⟩ = some (.int .i64 x)) := hcl
  have hUz : Hid (w.heap.size ≤ U.heap.size) := P3H.out.g.size
  clear hrd hb4 ho hcl k0 k1 k2 k3 k4 k5 P3H
  go_wp2
  go_loopw [5, 22] (fun _ i wr => ∃ j : Nat, j ≤ L.length ∧ i = .int .i64 j ∧ PsAt w wr b o (fun r => if r ∈ L.take j then true else if r = d then false else nz r) ∧ w4.grownBy wr (some b)) (fun _ i _ => L.length - (intOf i).toNat)
  case atStart => exact ⟨0, Nat.zero_le _, rfl, by simpa using P4.out, grown_refl _ _⟩
  case round =>
    obtain ⟨j, hj, rfl, hP, hG⟩ := hrel
    have HG : Hid (w4.grownBy wr (some b)) := hG
    have HPs : Hid (PsAt w wr b o (fun r => if r ∈ L.take j then true else if r = d then false else nz r)) := hP
    clear hG hP P4
    by_cases hlt : j < L.length
    · obtain ⟨x, hx, hxm⟩ : ∃ x, L[j]? = some x ∧ x ∈ L := ⟨L[j], List.getElem?_eq_getElem hlt, List.getElem_mem hlt⟩
      obtain ⟨g, rfl, hgU, hcell⟩ := HC.out (by omega)
      have hc4 := hcell j x hx
      have hcx : wr.cell? ⟨g, j, none⟩ = some (.int .i64 x) := (World.cell?_of_block (a := ⟨g, j, none⟩) (HG.out.block g (World.block_lt_of_cell? _ _ hc4) (by intro e; have := Option.some.inj e; have := hUz.out; omega))).trans hc4
      obtain ⟨x0, x1⟩ := HR.out x hxm
      obtain ⟨x, rfl⟩ : ∃ y : Nat, x = y := ⟨x.toNat, by omega⟩
      have c := RowIs.cell HPs.out.nd (j := x) (by omega)
      have f := RowIs.fz HPs.out.nd x
      have hbz := RowIs.lt HPs.out.nd
      have hlt' : (j : Int) < L.length := by omega
      have HX : Hid (L[j]? = some (x : Int)) := hx
      have hgz := World.block_lt_of_cell? _ _ hcx
      clear hx hxm hcell hc4
      go_wp2
      go_roundw
      case rel =>
        refine ⟨j + 1, by omega, by go_num, ?_, grown_trans HG.out (grown_set ⟨b, x, none⟩ _)⟩
        have := HPs.out.put x true
        refine ⟨this.g, this.nd.congr fun r hr => ?_, this.bx, this.hb⟩
        rw [List.take_add_one, HX.out]
        simp only [Option.toList_some, List.mem_append, List.mem_singleton]
        by_cases hrx : (r : Int) = x
        · rw [if_pos (.inr hrx), if_pos hrx]
        · by_cases hm : (r : Int) ∈ L.take j
          · rw [if_pos (.inl hm), if_neg hrx, if_pos hm]
          · rw [if_neg (by intro h; rcases h with h | h; exact hm h; exact hrx h), if_neg hrx, if_neg hm]
      case measure => simp [intOf]; omega
    · obtain rfl : j = L.length := by omega
      go_wp2
      go_end0
      refine ⟨rfl, ?_, HPs.out.g⟩
      rw [HP.out]
      have := HPs.out.nd
      rw [List.take_length] at this
      exact this
set_option maxRecDepth 100000 in
set_option maxHeartbeats 4000000 in
theorem pass_26 {w : World} {b : Nat} {n : Nx} (N : NeedAt w b n) (o : Opx) (d : Nat) (hd : wrX o = d) (h1 : d < 64) (hr : ∀ r ∈ rdX o, 0 ≤ r ∧ r < 64) (hk : o.k = 26) : Calls Tryd.prog 59 #[.pointer (some ⟨b, 0, none⟩), opV o] w fun e w' => e = .returned (.tuple #[]) ∧ NeedAt w' b (passN n o) ∧ w.grownBy w' (some b) := by
  have hwr := fun w => writes_any o w
  have hrd := fun w => reads_any o w
  rw [hd] at hwr
  obtain ⟨L, hL⟩ : ∃ L, rdX o = L := ⟨_, rfl⟩
  rw [hL] at hrd hr
  have hl3 : (L.length : Int) ≤ 3 := by rw [← hL]; rcases rd_ways o with ⟨_, _, _, h⟩ | ⟨_, _, _, h⟩ | ⟨_, _, _, h⟩ | ⟨_, _, _, h⟩ <;> rw [h] <;> simp
  have P0 : PsAt w (w.alloc (.cells #[.string o.s, .int .i64 o.d, .int .i64 o.a, .int .i64 o.b, .int .u32 o.i, .int .i64 o.t] 60)) b o n := ⟨grown_below ((Below.refl _ _).alloc (Nat.le_refl _) _), RowIs.stays N ((Below.refl _ _).alloc (Nat.le_refl _) _), BoxO.new w o, RowIs.lt N⟩
  obtain ⟨nz, hnz⟩ : ∃ nz : Nx, nz = fun r => if 25 ≤ o.k ∧ 0 ≤ r ∧ r ≤ 33 then true else n r := ⟨_, rfl⟩
  have HP : Hid (passN n o = fun r => if r ∈ L then true else if r = d then false else nz r) := by
    show _ = _; funext r; unfold passN; rw [hL, hd, hnz]
  have HNZ : Hid (nz = fun r => if 25 ≤ o.k ∧ 0 ≤ r ∧ r ≤ 33 then true else n r) := hnz
  have HR : Hid (∀ r ∈ L, 0 ≤ r ∧ r < 64) := hr
  have h1' : (d : Int) < 64 := by omega
  have hbx := P0.hb
  have e25 : (o.s.toList == [105, 102]) = false := by rw [show (o.s.toList == [105, 102]) = _ from kn_eq o.s 25 (by omega) (by omega)]; simp; unfold Opx.k at hk; omega
  have e26 : (o.s.toList == [111, 117, 116]) = true := by rw [show (o.s.toList == [111, 117, 116]) = _ from kn_eq o.s 26 (by omega) (by omega)]; simp; unfold Opx.k at hk; omega
  have e27 : (o.s.toList == [111, 117, 116, 114]) = false := by rw [show (o.s.toList == [111, 117, 116, 114]) = _ from kn_eq o.s 27 (by omega) (by omega)]; simp; unfold Opx.k at hk; omega
  have HK : Hid (o.k = 26) := hk
  clear hk
  clear N hd hL hnz hr
  unfold opV at *
  go_enter Tryd.func59, Tryd.ntmps59
  go_wp2_with fail
  generalize w.alloc (.cells #[.string o.s, .int .i64 o.d, .int .i64 o.a, .int .i64 o.b, .int .u32 o.i, .int .i64 o.t] 60) = V0 at *
  refine (leaveN_any P0.nd).mono ?_
  rintro e V ⟨rfl, hN, hg⟩
  have P1 : Hid (PsAt w V b o nz) := by
    have := P0.turn hg hN
    rw [show nz = fun r => if 0 ≤ r ∧ r ≤ 33 then true else n r by rw [HNZ.out]; funext r; rw [HK.out]; simp]
    exact this
  clear hN hg P0
  go_upto_region 6 with fail
  obtain ⟨k0, k1, k2, k3, k4, k5⟩ := P1.out.bx
  refine wp_region_phase 5 [(0, 0), (1, 1), (3, 0), (2, 2), (4, 0), (5, 2)] (fun W => BoxO W w.heap.size o) (by kernel_rfl) (by kernel_rfl) (fun _ _ _ d _ h => by cases d <;> exact h) ⟨by simpa using k0, by simpa using k1, by simpa using k2, by simpa using k3, by simpa using k4, by simpa using k5⟩ ?_
  repeat (first | (refine wpPlanZ_free (by rfl) (by rfl) (fun W => by (go_simp; try with_reducible rfl)) (fun K hK => ?_); go_simp; refine hK _ ?_; clear hK K) | (refine wpPlanZ_quiet (by rfl) (by rfl) (fun W hW => by (obtain ⟨z0, z1, z2, z3, z4, z5⟩ := hW; go_simp; try with_reducible rfl)) (fun K hK => ?_); go_simp; refine hK _ ?_; clear hK K))
  refine wpPlanZ_serial (by rfl) (by rfl) (fun K hK => ?_)
  go_simp
  refine (hwr _).mono ?_
  rintro e w3 ⟨rfl, hb3⟩
  have P2 : PsAt w w3 b o nz := P1.out.drew.stays hb3
  have P2H : Hid (PsAt w w3 b o nz) := P2
  refine hK _ _ (fun _ => ⟨P2.bx.c0, P2.bx.c1, P2.bx.c2, P2.bx.c3, P2.bx.c4, P2.bx.c5⟩) ?_
  have c := RowIs.cell P2.nd (j := d) h1
  have f := RowIs.fz P2.nd d
  have hbz := RowIs.lt P2.nd
  clear hK K hwr hb3 P2 k0 k1 k2 k3 k4 k5 P1
  repeat (refine wpPlanZ_free (by rfl) (by rfl) (fun W => by (go_simp; try with_reducible rfl)) (fun K hK => ?_); go_simp; refine hK _ ?_; clear hK K)
  refine wpPlanZ_serial (by rfl) (by rfl) (fun K hK => ?_)
  go_simp
  refine hK _ _ (fun h => absurd h (by decide)) ?_
  clear hK K
  refine wpPlanZ_nil ?_
  have P3 : PsAt w (w3.setCell ⟨b, d, none⟩ (.bool false)) b o (fun r => if r = d then false else nz r) := P2H.out.put d false
  clear c f hbz P2H
  generalize w3.setCell ⟨b, d, none⟩ (.bool false) = U at *
  have P3H : Hid (PsAt w U b o (fun r => if r = d then false else nz r)) := P3
  obtain ⟨k0, k1, k2, k3, k4, k5⟩ := P3.bx
  have hxz := P3.bx.lt
  clear P3
  go_wp2_with fail
  refine (hrd _).mono ?_
  rintro e w4 ⟨v, rfl, ho, hb4⟩
  obtain ⟨ao, cap, rfl, hcap, hcl⟩ := ints_cell ho
  have P4 : Hid (PsAt w w4 b o (fun r => if r = d then false else nz r)) := P3H.out.stays hb4
  have HC : Hid (0 < L.length → ∃ g, ao = some ⟨g, 0, none⟩ ∧ U.heap.size ≤ g ∧ ∀ (i : Nat) (x : Int), L[i]? = some x → w4.cell? ⟨g, i, none⟩ = some (.int .i64 x)) := hcl
  have hUz : Hid (w.heap.size ≤ U.heap.size) := P3H.out.g.size
  clear hrd hb4 ho hcl k0 k1 k2 k3 k4 k5 P3H
  go_wp2
  go_loopw [5, 22] (fun _ i wr => ∃ j : Nat, j ≤ L.length ∧ i = .int .i64 j ∧ PsAt w wr b o (fun r => if r ∈ L.take j then true else if r = d then false else nz r) ∧ w4.grownBy wr (some b)) (fun _ i _ => L.length - (intOf i).toNat)
  case atStart => exact ⟨0, Nat.zero_le _, rfl, by simpa using P4.out, grown_refl _ _⟩
  case round =>
    obtain ⟨j, hj, rfl, hP, hG⟩ := hrel
    have HG : Hid (w4.grownBy wr (some b)) := hG
    have HPs : Hid (PsAt w wr b o (fun r => if r ∈ L.take j then true else if r = d then false else nz r)) := hP
    clear hG hP P4
    by_cases hlt : j < L.length
    · obtain ⟨x, hx, hxm⟩ : ∃ x, L[j]? = some x ∧ x ∈ L := ⟨L[j], List.getElem?_eq_getElem hlt, List.getElem_mem hlt⟩
      obtain ⟨g, rfl, hgU, hcell⟩ := HC.out (by omega)
      have hc4 := hcell j x hx
      have hcx : wr.cell? ⟨g, j, none⟩ = some (.int .i64 x) := (World.cell?_of_block (a := ⟨g, j, none⟩) (HG.out.block g (World.block_lt_of_cell? _ _ hc4) (by intro e; have := Option.some.inj e; have := hUz.out; omega))).trans hc4
      obtain ⟨x0, x1⟩ := HR.out x hxm
      obtain ⟨x, rfl⟩ : ∃ y : Nat, x = y := ⟨x.toNat, by omega⟩
      have c := RowIs.cell HPs.out.nd (j := x) (by omega)
      have f := RowIs.fz HPs.out.nd x
      have hbz := RowIs.lt HPs.out.nd
      have hlt' : (j : Int) < L.length := by omega
      have HX : Hid (L[j]? = some (x : Int)) := hx
      have hgz := World.block_lt_of_cell? _ _ hcx
      clear hx hxm hcell hc4
      go_wp2
      go_roundw
      case rel =>
        refine ⟨j + 1, by omega, by go_num, ?_, grown_trans HG.out (grown_set ⟨b, x, none⟩ _)⟩
        have := HPs.out.put x true
        refine ⟨this.g, this.nd.congr fun r hr => ?_, this.bx, this.hb⟩
        rw [List.take_add_one, HX.out]
        simp only [Option.toList_some, List.mem_append, List.mem_singleton]
        by_cases hrx : (r : Int) = x
        · rw [if_pos (.inr hrx), if_pos hrx]
        · by_cases hm : (r : Int) ∈ L.take j
          · rw [if_pos (.inl hm), if_neg hrx, if_pos hm]
          · rw [if_neg (by intro h; rcases h with h | h; exact hm h; exact hrx h), if_neg hrx, if_neg hm]
      case measure => simp [intOf]; omega
    · obtain rfl : j = L.length := by omega
      go_wp2
      go_end0
      refine ⟨rfl, ?_, HPs.out.g⟩
      rw [HP.out]
      have := HPs.out.nd
      rw [List.take_length] at this
      exact this
set_option maxRecDepth 100000 in
set_option maxHeartbeats 4000000 in
theorem pass_27 {w : World} {b : Nat} {n : Nx} (N : NeedAt w b n) (o : Opx) (d : Nat) (hd : wrX o = d) (h1 : d < 64) (hr : ∀ r ∈ rdX o, 0 ≤ r ∧ r < 64) (hk : o.k = 27) : Calls Tryd.prog 59 #[.pointer (some ⟨b, 0, none⟩), opV o] w fun e w' => e = .returned (.tuple #[]) ∧ NeedAt w' b (passN n o) ∧ w.grownBy w' (some b) := by
  have hwr := fun w => writes_any o w
  have hrd := fun w => reads_any o w
  rw [hd] at hwr
  obtain ⟨L, hL⟩ : ∃ L, rdX o = L := ⟨_, rfl⟩
  rw [hL] at hrd hr
  have hl3 : (L.length : Int) ≤ 3 := by rw [← hL]; rcases rd_ways o with ⟨_, _, _, h⟩ | ⟨_, _, _, h⟩ | ⟨_, _, _, h⟩ | ⟨_, _, _, h⟩ <;> rw [h] <;> simp
  have P0 : PsAt w (w.alloc (.cells #[.string o.s, .int .i64 o.d, .int .i64 o.a, .int .i64 o.b, .int .u32 o.i, .int .i64 o.t] 60)) b o n := ⟨grown_below ((Below.refl _ _).alloc (Nat.le_refl _) _), RowIs.stays N ((Below.refl _ _).alloc (Nat.le_refl _) _), BoxO.new w o, RowIs.lt N⟩
  obtain ⟨nz, hnz⟩ : ∃ nz : Nx, nz = fun r => if 25 ≤ o.k ∧ 0 ≤ r ∧ r ≤ 33 then true else n r := ⟨_, rfl⟩
  have HP : Hid (passN n o = fun r => if r ∈ L then true else if r = d then false else nz r) := by
    show _ = _; funext r; unfold passN; rw [hL, hd, hnz]
  have HNZ : Hid (nz = fun r => if 25 ≤ o.k ∧ 0 ≤ r ∧ r ≤ 33 then true else n r) := hnz
  have HR : Hid (∀ r ∈ L, 0 ≤ r ∧ r < 64) := hr
  have h1' : (d : Int) < 64 := by omega
  have hbx := P0.hb
  have e25 : (o.s.toList == [105, 102]) = false := by rw [show (o.s.toList == [105, 102]) = _ from kn_eq o.s 25 (by omega) (by omega)]; simp; unfold Opx.k at hk; omega
  have e26 : (o.s.toList == [111, 117, 116]) = false := by rw [show (o.s.toList == [111, 117, 116]) = _ from kn_eq o.s 26 (by omega) (by omega)]; simp; unfold Opx.k at hk; omega
  have e27 : (o.s.toList == [111, 117, 116, 114]) = true := by rw [show (o.s.toList == [111, 117, 116, 114]) = _ from kn_eq o.s 27 (by omega) (by omega)]; simp; unfold Opx.k at hk; omega
  have HK : Hid (o.k = 27) := hk
  clear hk
  clear N hd hL hnz hr
  unfold opV at *
  go_enter Tryd.func59, Tryd.ntmps59
  go_wp2_with fail
  generalize w.alloc (.cells #[.string o.s, .int .i64 o.d, .int .i64 o.a, .int .i64 o.b, .int .u32 o.i, .int .i64 o.t] 60) = V0 at *
  refine (leaveN_any P0.nd).mono ?_
  rintro e V ⟨rfl, hN, hg⟩
  have P1 : Hid (PsAt w V b o nz) := by
    have := P0.turn hg hN
    rw [show nz = fun r => if 0 ≤ r ∧ r ≤ 33 then true else n r by rw [HNZ.out]; funext r; rw [HK.out]; simp]
    exact this
  clear hN hg P0
  go_upto_region 6 with fail
  obtain ⟨k0, k1, k2, k3, k4, k5⟩ := P1.out.bx
  refine wp_region_phase 5 [(0, 0), (1, 1), (3, 0), (2, 2), (4, 0), (5, 2)] (fun W => BoxO W w.heap.size o) (by kernel_rfl) (by kernel_rfl) (fun _ _ _ d _ h => by cases d <;> exact h) ⟨by simpa using k0, by simpa using k1, by simpa using k2, by simpa using k3, by simpa using k4, by simpa using k5⟩ ?_
  repeat (first | (refine wpPlanZ_free (by rfl) (by rfl) (fun W => by (go_simp; try with_reducible rfl)) (fun K hK => ?_); go_simp; refine hK _ ?_; clear hK K) | (refine wpPlanZ_quiet (by rfl) (by rfl) (fun W hW => by (obtain ⟨z0, z1, z2, z3, z4, z5⟩ := hW; go_simp; try with_reducible rfl)) (fun K hK => ?_); go_simp; refine hK _ ?_; clear hK K))
  refine wpPlanZ_serial (by rfl) (by rfl) (fun K hK => ?_)
  go_simp
  refine (hwr _).mono ?_
  rintro e w3 ⟨rfl, hb3⟩
  have P2 : PsAt w w3 b o nz := P1.out.drew.stays hb3
  have P2H : Hid (PsAt w w3 b o nz) := P2
  refine hK _ _ (fun _ => ⟨P2.bx.c0, P2.bx.c1, P2.bx.c2, P2.bx.c3, P2.bx.c4, P2.bx.c5⟩) ?_
  have c := RowIs.cell P2.nd (j := d) h1
  have f := RowIs.fz P2.nd d
  have hbz := RowIs.lt P2.nd
  clear hK K hwr hb3 P2 k0 k1 k2 k3 k4 k5 P1
  repeat (refine wpPlanZ_free (by rfl) (by rfl) (fun W => by (go_simp; try with_reducible rfl)) (fun K hK => ?_); go_simp; refine hK _ ?_; clear hK K)
  refine wpPlanZ_serial (by rfl) (by rfl) (fun K hK => ?_)
  go_simp
  refine hK _ _ (fun h => absurd h (by decide)) ?_
  clear hK K
  refine wpPlanZ_nil ?_
  have P3 : PsAt w (w3.setCell ⟨b, d, none⟩ (.bool false)) b o (fun r => if r = d then false else nz r) := P2H.out.put d false
  clear c f hbz P2H
  generalize w3.setCell ⟨b, d, none⟩ (.bool false) = U at *
  have P3H : Hid (PsAt w U b o (fun r => if r = d then false else nz r)) := P3
  obtain ⟨k0, k1, k2, k3, k4, k5⟩ := P3.bx
  have hxz := P3.bx.lt
  clear P3
  go_wp2_with fail
  refine (hrd _).mono ?_
  rintro e w4 ⟨v, rfl, ho, hb4⟩
  obtain ⟨ao, cap, rfl, hcap, hcl⟩ := ints_cell ho
  have P4 : Hid (PsAt w w4 b o (fun r => if r = d then false else nz r)) := P3H.out.stays hb4
  have HC : Hid (0 < L.length → ∃ g, ao = some ⟨g, 0, none⟩ ∧ U.heap.size ≤ g ∧ ∀ (i : Nat) (x : Int), L[i]? = some x → w4.cell? ⟨g, i, none⟩ = some (.int .i64 x)) := hcl
  have hUz : Hid (w.heap.size ≤ U.heap.size) := P3H.out.g.size
  clear hrd hb4 ho hcl k0 k1 k2 k3 k4 k5 P3H
  go_wp2
  go_loopw [5, 22] (fun _ i wr => ∃ j : Nat, j ≤ L.length ∧ i = .int .i64 j ∧ PsAt w wr b o (fun r => if r ∈ L.take j then true else if r = d then false else nz r) ∧ w4.grownBy wr (some b)) (fun _ i _ => L.length - (intOf i).toNat)
  case atStart => exact ⟨0, Nat.zero_le _, rfl, by simpa using P4.out, grown_refl _ _⟩
  case round =>
    obtain ⟨j, hj, rfl, hP, hG⟩ := hrel
    have HG : Hid (w4.grownBy wr (some b)) := hG
    have HPs : Hid (PsAt w wr b o (fun r => if r ∈ L.take j then true else if r = d then false else nz r)) := hP
    clear hG hP P4
    by_cases hlt : j < L.length
    · obtain ⟨x, hx, hxm⟩ : ∃ x, L[j]? = some x ∧ x ∈ L := ⟨L[j], List.getElem?_eq_getElem hlt, List.getElem_mem hlt⟩
      obtain ⟨g, rfl, hgU, hcell⟩ := HC.out (by omega)
      have hc4 := hcell j x hx
      have hcx : wr.cell? ⟨g, j, none⟩ = some (.int .i64 x) := (World.cell?_of_block (a := ⟨g, j, none⟩) (HG.out.block g (World.block_lt_of_cell? _ _ hc4) (by intro e; have := Option.some.inj e; have := hUz.out; omega))).trans hc4
      obtain ⟨x0, x1⟩ := HR.out x hxm
      obtain ⟨x, rfl⟩ : ∃ y : Nat, x = y := ⟨x.toNat, by omega⟩
      have c := RowIs.cell HPs.out.nd (j := x) (by omega)
      have f := RowIs.fz HPs.out.nd x
      have hbz := RowIs.lt HPs.out.nd
      have hlt' : (j : Int) < L.length := by omega
      have HX : Hid (L[j]? = some (x : Int)) := hx
      have hgz := World.block_lt_of_cell? _ _ hcx
      clear hx hxm hcell hc4
      go_wp2
      go_roundw
      case rel =>
        refine ⟨j + 1, by omega, by go_num, ?_, grown_trans HG.out (grown_set ⟨b, x, none⟩ _)⟩
        have := HPs.out.put x true
        refine ⟨this.g, this.nd.congr fun r hr => ?_, this.bx, this.hb⟩
        rw [List.take_add_one, HX.out]
        simp only [Option.toList_some, List.mem_append, List.mem_singleton]
        by_cases hrx : (r : Int) = x
        · rw [if_pos (.inr hrx), if_pos hrx]
        · by_cases hm : (r : Int) ∈ L.take j
          · rw [if_pos (.inl hm), if_neg hrx, if_pos hm]
          · rw [if_neg (by intro h; rcases h with h | h; exact hm h; exact hrx h), if_neg hrx, if_neg hm]
      case measure => simp [intOf]; omega
    · obtain rfl : j = L.length := by omega
      go_wp2
      go_end0
      refine ⟨rfl, ?_, HPs.out.g⟩
      rw [HP.out]
      have := HPs.out.nd
      rw [List.take_length] at this
      exact this
theorem pass_any {w : World} {b : Nat} {n : Nx} (N : NeedAt w b n) (o : Opx) (h0 : 0 ≤ wrX o) (h1 : wrX o < 64) (hr : ∀ r ∈ rdX o, 0 ≤ r ∧ r < 64) : Calls Tryd.prog 59 #[.pointer (some ⟨b, 0, none⟩), opV o] w fun e w' => e = .returned (.tuple #[]) ∧ NeedAt w' b (passN n o) ∧ w.grownBy w' (some b) := by
  have hl := kn_lt o.s
  have hd : wrX o = ((wrX o).toNat : Int) := by omega
  have hk : o.k < 25 ∨ o.k = 25 ∨ o.k = 26 ∨ o.k = 27 := by unfold Opx.k; omega
  rcases hk with hk | hk | hk | hk
  · exact pass_0 N o _ hd (by omega) hr hk
  · exact pass_25 N o _ hd (by omega) hr hk
  · exact pass_26 N o _ hd (by omega) hr hk
  · exact pass_27 N o _ hd (by omega) hr hk
end Go.Proofs.YtcccaejjhodnkaaDoor
