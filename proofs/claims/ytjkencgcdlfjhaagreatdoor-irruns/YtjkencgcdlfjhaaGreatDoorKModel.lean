/-
  AlikeWords; model: a place's memory as the document has it.
-/
import Derived.WalkSmall
import Derived.Test.YtjkencgcdlfjhaaGreatDoorJReads
import Derived.Test.YtjkencgcdlfjhaaGreatDoorJNew
import Derived.Test.YtjkencgcdlfjhaaGreatDoorQGRead
namespace Go.Proofs.YtjkencgcdlfjhaaGreatDoor
open Go.RowKit Go.Maps
open Num
set_option linter.unusedVariables false
set_option maxRecDepth 100000 in
set_option maxHeartbeats 2000000 in
theorem alikeD_any {w : World} {g h n : Nat} {f : Nat → Int} (hA : ∀ i, i < n → w.cell? ⟨g, i, none⟩ = some (.int .u32 (f i))) (hB : ∀ i, i < n → w.cell? ⟨h, i, none⟩ = some (.int .u32 (f i))) (hl : (n : Int) ≤ 1000000) :
    Calls Tryz.prog 22 #[.slice (some ⟨g, 0, none⟩) n n, .slice (some ⟨h, 0, none⟩) n n] w fun e w' => e = .returned (.int .i64 1) ∧ Below w.heap.size w w' := by
  have HA : Hid (∀ i, i < n → w.cell? ⟨g, i, none⟩ = some (.int .u32 (f i))) := hA
  have HB : Hid (∀ i, i < n → w.cell? ⟨h, i, none⟩ = some (.int .u32 (f i))) := hB
  clear hA hB
  go_enter Tryz.func22, Tryz.ntmps22
  go_wp2
  go_loopw [5] (fun i wr => ∃ (j q : Nat), j ≤ n ∧ i = .int .i64 j ∧ wr = w.drewN q) (fun i _ => n - (intOf i).toNat)
  case atStart => exact ⟨0, 0, Nat.zero_le _, rfl, rfl⟩
  case round =>
    obtain ⟨j, q, hj, rfl, rfl⟩ := hrel
    by_cases hlt : j < n
    · have yg := HA.out j hlt
      have yh := HB.out j hlt
      have zg := World.block_lt_of_cell? _ _ yg
      have zh := World.block_lt_of_cell? _ _ yh
      have hlt' : (j : Int) < n := by omega
      generalize f j = y at *
      clear HA HB
      go_wp2
      go_quiet (fail)
      go_wp2
      go_roundw
      case rel => exact ⟨j + 1, q + nq, by omega, by go_num, by first | rfl | (rw [World.drewN_drewN]; done) | (simp; done)⟩
      case measure => simp [intOf]; omega
    · obtain rfl : j = n := by omega
      go_wp2
      go_ret
      exact ⟨rfl, below_drewN (Below.refl _ _) q⟩
structure Ck2 (W : World) (rb kb pb : Nat) (wa : Int) : Prop where
  z0 : W.cell? ⟨rb, 1, none⟩ = some (.slice (some ⟨kb, 0, none⟩) 64 64)
  z1 : W.cell? ⟨pb, 44, none⟩ = some (.int .i64 wa)
theorem WordsIn.stays {w w' : World} {v : Value} {xs : List Int} (X : WordsIn w v xs) (h : Below w.heap.size w w') : WordsIn w' v xs := by
  obtain ⟨ao, cap, e, hc, hh⟩ := X.sh
  exact ⟨⟨ao, cap, e, hc, fun hp => let ⟨b, off, eb, hcell⟩ := hh hp; ⟨b, off, eb, fun i hi => (h.cell (World.block_lt_of_cell? _ _ (hcell i hi))).trans (hcell i hi)⟩⟩, X.wf⟩
set_option maxRecDepth 100000 in
set_option maxHeartbeats 2000000 in
theorem model_any {w : World} {ps : Array Value} {v : Value} {wa : Int} {xs : List Int} (h43 : ps[43]? = some v) (h44 : ps[44]? = some (.int .i64 wa)) (X : WordsIn w v xs) (hx : xs.length ≤ 5000) :
    Calls Tryz.prog 20 #[.agg ps] w fun e w' => ∃ rb gb kb hb : Nat, e = .returned (.pointer (some ⟨rb, 0, none⟩)) ∧ DMem w' rb gb kb hb (mw xs) (fun p => decide (p = wa)) (fun _ => false) ∧ Below w.heap.size w w' ∧ w.heap.size ≤ rb ∧ w.heap.size ≤ gb ∧ w.heap.size ≤ kb ∧ w.heap.size ≤ hb := by
  have B0 : Below w.heap.size w (w.alloc (.cells ps 29)) := (Below.refl _ _).alloc (Nat.le_refl _) _
  have c43 : (w.alloc (.cells ps 29)).cell? ⟨w.heap.size, 43, none⟩ = some v := by rw [World.cell?_alloc_at _ _ _ _ rfl]; exact h43
  have c44 : (w.alloc (.cells ps 29)).cell? ⟨w.heap.size, 44, none⟩ = some (.int .i64 wa) := by rw [World.cell?_alloc_at _ _ _ _ rfl]; exact h44
  have hnw := dnew_any (X.stays B0) hx
  obtain ⟨ao, cap, rfl, _⟩ := X.sh
  clear X h43 h44
  go_enter Tryz.func20, Tryz.ntmps20
  go_upto_region 1 with fail
  generalize w.alloc (.cells ps 29) = W at *
  have q0 := World.block_lt_of_cell? _ _ c43
  go_wp2_with fail
  refine hnw.mono ?_
  rintro e w1 ⟨rb, gb, kb, hb, rfl, D1, b1, l1, l2, l3, l4⟩
  have hW := B0.size
  have HD : Hid (DMem w1 rb gb kb hb (mw xs) (fun _ => false) (fun _ => false)) := D1
  have HB : Hid (Below w.heap.size w w1) := B0.trans (b1.mono hW)
  have LL : Hid (w.heap.size ≤ rb ∧ w.heap.size ≤ gb ∧ w.heap.size ≤ kb ∧ w.heap.size ≤ hb) := ⟨by omega, by omega, by omega, by omega⟩
  have d44 : w1.cell? ⟨w.heap.size, 44, none⟩ = some (.int .i64 wa) := (b1.cell (p := ⟨w.heap.size, 44, none⟩) q0).trans c44
  have c1 := D1.d.c1
  have q1 := World.block_lt_of_cell? _ _ c1
  have q2 := World.block_lt_of_cell? _ _ d44
  clear hnw D1 b1 l1 l2 l3 l4 c43 c44 q0 B0 hW
  by_cases h0 : 0 ≤ wa
  · by_cases h1 : wa < 64
    · have g1 := HD.out.d.wc wa.toNat (by omega)
      have f1 := HD.out.fk wa.toNat
      have q3 := World.block_lt_of_cell? _ _ g1
      have D2 : Hid (DMem (w1.setCell ⟨kb, wa.toNat, none⟩ (.bool true)).drew rb gb kb hb (mw xs) (fun p => decide (p = wa)) (fun _ => false)) := HD.out.flagK wa.toNat (by omega) true _ (fun p _ => by
        by_cases e : p = wa.toNat
        · rw [if_pos e]; simp; omega
        · rw [if_neg e]; simp; omega)
      have B2 : Hid (Below w.heap.size w (w1.setCell ⟨kb, wa.toNat, none⟩ (.bool true)).drew) := (HB.out.setCell LL.out.2.2.1 _).drew
      go_wp2
      refine wp_region_phase 7 [(0, 0), (1, 0), (2, 0), (3, 1), (4, 0), (5, 1), (6, 0), (7, 2)] (fun W => Ck2 W rb kb w.heap.size wa) (by kernel_rfl) (by kernel_rfl) (fun _ _ _ d _ h => by cases d <;> exact h) ⟨by simpa using c1, by simpa using d44⟩ ?_
      repeat (first | (refine wpPlanZ_free (by rfl) (by rfl) (fun W => by (go_simp; try with_reducible rfl)) (fun K hK => ?_); go_simp; refine hK _ ?_; clear hK K) | (refine wpPlanZ_quiet (by rfl) (by rfl) (fun W hW => by (obtain ⟨z0, z1⟩ := hW; go_simp; try with_reducible rfl)) (fun K hK => ?_); go_simp; refine hK _ ?_; clear hK K))
      refine wpPlanZ_serial (by rfl) (by rfl) (fun K hK => ?_)
      go_simp
      refine hK _ _ (fun h => absurd h (by decide)) ?_
      clear hK K
      refine wpPlanZ_nil ?_
      clear c1 g1 f1 q1 q2 q3 d44 HB HD
      generalize (w1.setCell ⟨kb, wa.toNat, none⟩ (.bool true)).drew = W2 at *
      go_wp2
      go_ret
      first | exact ⟨rb, gb, kb, hb, rfl, D2.out, B2.out, LL.out⟩ | exact ⟨rb, rfl, gb, kb, hb, D2.out, B2.out, LL.out⟩
    · have D2 : Hid (DMem w1 rb gb kb hb (mw xs) (fun p => decide (p = wa)) (fun _ => false)) := HD.out.same (fun p hp => by simp; omega) (fun _ _ => rfl)
      go_wp2
      go_ret
      first | exact ⟨rb, gb, kb, hb, rfl, D2.out, HB.out, LL.out⟩ | exact ⟨rb, rfl, gb, kb, hb, D2.out, HB.out, LL.out⟩
  · have D2 : Hid (DMem w1 rb gb kb hb (mw xs) (fun p => decide (p = wa)) (fun _ => false)) := HD.out.same (fun p hp => by simp; omega) (fun _ _ => rfl)
    go_wp2
    go_ret
    first | exact ⟨rb, gb, kb, hb, rfl, D2.out, HB.out, LL.out⟩ | exact ⟨rb, rfl, gb, kb, hb, D2.out, HB.out, LL.out⟩
end Go.Proofs.YtjkencgcdlfjhaaGreatDoor
/-
  A Guest's Read of a store.
-/
namespace Go.Proofs.YtjkencgcdlfjhaaGreatDoor
open Go.RowKit Go.Maps
open Num
set_option linter.unusedVariables false
theorem pd_put {W : World} {B : Nat} (h : ∀ j, j < 3 → ∃ u, W.cell? ⟨B, j, none⟩ = some u) (v0 v1 v2 : Value) : ((((W.setCell ⟨B, 0, none⟩ v0).setCell ⟨B, 1, none⟩ v1).setCell ⟨B, 2, none⟩ v2).drew.cell? ⟨B, 0, none⟩ = some v0) ∧ ((((W.setCell ⟨B, 0, none⟩ v0).setCell ⟨B, 1, none⟩ v1).setCell ⟨B, 2, none⟩ v2).drew.cell? ⟨B, 1, none⟩ = some v1) ∧ ((((W.setCell ⟨B, 0, none⟩ v0).setCell ⟨B, 1, none⟩ v1).setCell ⟨B, 2, none⟩ v2).drew.cell? ⟨B, 2, none⟩ = some v2) := by
  have c := fun j (hj : j < 3) => putN_cell (W := W) (B := B) (v := fun j => match j with | 0 => v0 | 1 => v1 | _ => v2) 3 j (h j hj)
  exact ⟨(cell_drewG _ _).trans (c 0 (by omega)), (cell_drewG _ _).trans (c 1 (by omega)), (cell_drewG _ _).trans (c 2 (by omega))⟩
theorem ef_other (W : World) {B k : Nat} (h : k ≠ B) (v0 v1 v2 v3 v4 v5 v6 : Value) : (((((((W.setCell ⟨B, 0, none⟩ v0).setCell ⟨B, 1, none⟩ v1).setCell ⟨B, 2, none⟩ v2).setCell ⟨B, 3, none⟩ v3).setCell ⟨B, 4, none⟩ v4).setCell ⟨B, 5, none⟩ v5).setCell ⟨B, 6, none⟩ v6).heap[k]? = W.heap[k]? := by
  have e : ∀ (U : World) (j : Nat) (v : Value), (U.setCell ⟨B, j, none⟩ v).heap[k]? = U.heap[k]? := fun U j v => Below.heap_setCell U ⟨B, j, none⟩ v k h
  rw [e, e, e, e, e, e, e]
theorem alloc_belowG (w : World) (b : Obj) : Below w.heap.size w (w.alloc b) := (Below.refl _ _).alloc (Nat.le_refl _) _
section
variable {w : World} {base mb stb sb bp bw bh N : Nat} {X : Nat → Int} {p : List Pq} {vi : Value} {m : Nat → Int} {wt ht : Int → Bool}
set_option maxRecDepth 100000 in
set_option maxHeartbeats 4000000 in
theorem read_24 (pe : Nat → Addr) (E : Eg pe w) (R : RamIs w sb bp bw bh N m wt ht) (G : GAt w base mb stb sb X p vi) (a b : Nat) (ha : a < 64) (hb : b < 64) (d i t : Int) (d0 : -9223372036854775808 ≤ d) (d1 : d ≤ 9223372036854775807) :
    Calls Tryz.prog 51 #[.pointer (some ⟨mb, 0, none⟩), .agg #[.string ⟨#[115, 116, 111, 114, 101]⟩, .int .i64 d, .int .i64 a, .int .i64 b, .int .u32 i, .int .i64 t]] w fun e w' => e = .returned (.tuple #[.agg #[.int .i64 0, .int .u32 0, .int .u32 (lo (X a + i)), .int .i64 d, .int .u32 (X b), .bool false, .int .u32 0], .bool (decide (chk (lo (X a + i)) d = 0) && !wt (lo (X a + i) / 256))]) ∧ Below w.heap.size w w' := by
  have B1 : Below w.heap.size w (w.alloc (.cells #[.string ⟨#[115, 116, 111, 114, 101]⟩, .int .i64 d, .int .i64 a, .int .i64 b, .int .u32 i, .int .i64 t] 92)) := (Below.refl _ _).alloc (Nat.le_refl _) _
  have B2 : Below (w.alloc (.cells #[.string ⟨#[115, 116, 111, 114, 101]⟩, .int .i64 d, .int .i64 a, .int .i64 b, .int .u32 i, .int .i64 t] 92)).heap.size (w.alloc (.cells #[.string ⟨#[115, 116, 111, 114, 101]⟩, .int .i64 d, .int .i64 a, .int .i64 b, .int .u32 i, .int .i64 t] 92)) ((w.alloc (.cells #[.string ⟨#[115, 116, 111, 114, 101]⟩, .int .i64 d, .int .i64 a, .int .i64 b, .int .u32 i, .int .i64 t] 92)).alloc (.cells #[.int .i64 0, .int .u32 0, .int .u32 0, .int .i64 0, .int .u32 0, .bool false, .int .u32 0] 110)) := (Below.refl _ _).alloc (Nat.le_refl _) _
  have O := (OAt.new w ⟨#[115, 116, 111, 114, 101]⟩ d a b i t).stays B2
  have G0 := (G.stays B1).stays B2
  have XB := XBox.new (w.alloc (.cells #[.string ⟨#[115, 116, 111, 114, 101]⟩, .int .i64 d, .int .i64 a, .int .i64 b, .int .u32 i, .int .i64 t] 92))
  rw [World.size_alloc] at XB
  have hB0 : Hid (Below w.heap.size w ((w.alloc (.cells #[.string ⟨#[115, 116, 111, 114, 101]⟩, .int .i64 d, .int .i64 a, .int .i64 b, .int .u32 i, .int .i64 t] 92)).alloc (.cells #[.int .i64 0, .int .u32 0, .int .u32 0, .int .i64 0, .int .u32 0, .bool false, .int .u32 0] 110))) := B1.trans (B2.mono B1.size)
  have hmw := G.lt
  have GG : Hid (∀ W, Below w.heap.size w W → GAt W base mb stb sb X p vi) := fun W hW => G.stays hW
  clear B1 B2
  have ha' : (a : Int) < 64 := by omega
  have hb' : (b : Int) < 64 := by omega
  have hlo := lo_bd (X a + i)
  have HR : Hid (∀ W, Below w.heap.size w W → RamIs W sb bp bw bh N m wt ht) := fun W hW => R.stays hW (Nat.le_refl _)
  have HE : Hid (∀ W, Below w.heap.size w W → Eg pe W) := fun W hW => E.stays hW
  have hVs : ((w.alloc (.cells #[.string ⟨#[115, 116, 111, 114, 101]⟩, .int .i64 d, .int .i64 a, .int .i64 b, .int .u32 i, .int .i64 t] 92)).alloc (.cells #[.int .i64 0, .int .u32 0, .int .u32 0, .int .i64 0, .int .u32 0, .bool false, .int .u32 0] 110)).heap.size = w.heap.size + 2 := by simp
  clear R E
  go_enter Tryz.func51, Tryz.ntmps51
  go_upto_region 12 with fail
  clear G
  generalize ((w.alloc (.cells #[.string ⟨#[115, 116, 111, 114, 101]⟩, .int .i64 d, .int .i64 a, .int .i64 b, .int .u32 i, .int .i64 t] 92)).alloc (.cells #[.int .i64 0, .int .u32 0, .int .u32 0, .int .i64 0, .int .u32 0, .bool false, .int .u32 0] 110)) = V at *
  obtain ⟨k0, k1, k2, k3, k4, k5⟩ := id O
  have hnV := XB.lt
  have xa := G0.x a ha
  have xb := G0.x b hb
  have GA := G0.opened (.cells #[.int .u32 0, .int .i64 0, .int .u32 0] 108)
  have OA := O.stays (alloc_belowG V (.cells #[.int .u32 0, .int .i64 0, .int .u32 0] 108))
  have hBA : Hid (Below w.heap.size w (V.alloc (.cells #[.int .u32 0, .int .i64 0, .int .u32 0] 108))) := hB0.out.alloc (by omega) _
  have XA : Hid (XBox (V.alloc (.cells #[.int .u32 0, .int .i64 0, .int .u32 0] 108)) (w.heap.size + 1)) := XB.stays (alloc_belowG V _)
  have n0 : (V.alloc (.cells #[.int .u32 0, .int .i64 0, .int .u32 0] 108)).cell? ⟨w.heap.size + 2, 0, none⟩ = some (.int .u32 0) := by rw [← hVs]; simp
  have n1 : (V.alloc (.cells #[.int .u32 0, .int .i64 0, .int .u32 0] 108)).cell? ⟨w.heap.size + 2, 1, none⟩ = some (.int .i64 0) := by rw [← hVs]; simp
  have n2 : (V.alloc (.cells #[.int .u32 0, .int .i64 0, .int .u32 0] 108)).cell? ⟨w.heap.size + 2, 2, none⟩ = some (.int .u32 0) := by rw [← hVs]; simp
  have nf : ∀ j, (V.alloc (.cells #[.int .u32 0, .int .i64 0, .int .u32 0] 108)).frozen? ⟨w.heap.size + 2, j, none⟩ = false := fun j => by rw [← hVs]; exact World.frozen?_alloc_at _ _ _ _ rfl
  have nz : w.heap.size + 2 < (V.alloc (.cells #[.int .u32 0, .int .i64 0, .int .u32 0] 108)).heap.size := by simp [hVs]
  refine wp_region_phase 21 [(0, 0), (1, 0), (2, 1), (3, 0), (4, 0), (5, 0), (6, 1), (7, 0), (8, 1), (9, 0), (10, 0), (11, 1), (12, 0), (13, 0), (14, 1), (15, 0), (16, 0), (17, 0), (18, 1), (19, 0), (20, 2), (21, 2)] (fun W => W.cell? ⟨w.heap.size, 1, none⟩ = some (.int .i64 d) ∧ W.cell? ⟨w.heap.size, 2, none⟩ = some (.int .i64 a) ∧ W.cell? ⟨w.heap.size, 3, none⟩ = some (.int .i64 b) ∧ W.cell? ⟨w.heap.size, 4, none⟩ = some (.int .u32 i) ∧ W.cell? ⟨mb, 1 + a, none⟩ = some (.int .u32 (X a)) ∧ W.cell? ⟨mb, 1 + b, none⟩ = some (.int .u32 (X b))) (by kernel_rfl) (by kernel_rfl) (fun _ _ _ d _ h => by cases d <;> exact h) ⟨k1, k2, k3, k4, xa, xb⟩ ?_
  repeat (first | (refine wpPlanZ_free (by rfl) (by rfl) (fun W => by (go_simp; try with_reducible rfl)) (fun K hK => ?_); go_simp; refine hK _ ?_; clear hK K) | (refine wpPlanZ_quiet (by rfl) (by rfl) (fun W hW => by (obtain ⟨z0, z1, z2, z3, z4, z5⟩ := hW; go_simp; try with_reducible rfl)) (fun K hK => ?_); go_simp; refine hK _ ?_; clear hK K))
  refine wpPlanZ_serial (by rfl) (by rfl) (fun K hK => ?_)
  go_simp
  refine hK _ _ (fun _ => ⟨OA.c1, OA.c2, OA.c3, OA.c4, GA.x a ha, GA.x b hb⟩) ?_
  clear hK K
  generalize V.alloc (.cells #[.int .u32 0, .int .i64 0, .int .u32 0] 108) = A at *
  refine wpPlanZ_serial (by rfl) (by rfl) (fun K hK => ?_)
  go_simp
  refine hK _ _ (fun h => absurd h (by decide)) ?_
  clear hK K
  refine wpPlanZ_nil ?_
  rw [show IntKind.u32.wrap (X a + i) = lo (X a + i) from wrap_u32 _]
  obtain ⟨p0, p1, p2⟩ := pd_put (W := A) (B := w.heap.size + 2) (fun j hj => by
    have : j = 0 ∨ j = 1 ∨ j = 2 := by omega
    rcases this with rfl | rfl | rfl
    · exact ⟨_, n0⟩
    · exact ⟨_, n1⟩
    · exact ⟨_, n2⟩) (.int .u32 (lo (X a + i))) (.int .i64 d) (.int .u32 (X b))
  have hBU : Hid (Below w.heap.size w (((A.setCell ⟨w.heap.size + 2, 0, none⟩ (.int .u32 (lo (X a + i)))).setCell ⟨w.heap.size + 2, 1, none⟩ (.int .i64 d)).setCell ⟨w.heap.size + 2, 2, none⟩ (.int .u32 (X b))).drew) := (((hBA.out.setCell (p := ⟨w.heap.size + 2, 0, none⟩) (by show w.heap.size ≤ w.heap.size + 2; omega) _).setCell (p := ⟨w.heap.size + 2, 1, none⟩) (by show w.heap.size ≤ w.heap.size + 2; omega) _).setCell (p := ⟨w.heap.size + 2, 2, none⟩) (by show w.heap.size ≤ w.heap.size + 2; omega) _).drew
  have hoth : ∀ k, k ≠ w.heap.size + 2 → (((A.setCell ⟨w.heap.size + 2, 0, none⟩ (.int .u32 (lo (X a + i)))).setCell ⟨w.heap.size + 2, 1, none⟩ (.int .i64 d)).setCell ⟨w.heap.size + 2, 2, none⟩ (.int .u32 (X b))).drew.heap[k]? = A.heap[k]? := fun k hk => ((Below.heap_setCell _ ⟨w.heap.size + 2, 2, none⟩ _ k hk).trans (Below.heap_setCell _ ⟨w.heap.size + 2, 1, none⟩ _ k hk)).trans (Below.heap_setCell _ ⟨w.heap.size + 2, 0, none⟩ _ k hk)
  have XU := XA.out.block (hoth (w.heap.size + 1) (by omega))
  generalize (((A.setCell ⟨w.heap.size + 2, 0, none⟩ (.int .u32 (lo (X a + i)))).setCell ⟨w.heap.size + 2, 1, none⟩ (.int .i64 d)).setCell ⟨w.heap.size + 2, 2, none⟩ (.int .u32 (X b))).drew = U at *
  generalize hAD : lo (X a + i) = ad at *
  have HAD : Hid (lo (X a + i) = ad) := hAD
  clear hoth n0 n1 n2 nf nz XA hBA GA OA k0 k1 k2 k3 k4 k5 xa xb hnV O hAD
  have GU : Hid (GAt U base mb stb sb X p vi) := GG.out U hBU.out
  clear G0 XB hVs hB0
  go_upto_region 13 with fail
  refine wp_region_phase 9 [(0, 1), (1, 0), (2, 0), (3, 0), (4, 0), (5, 1), (6, 2), (7, 2), (8, 0)] (fun W => W.cell? ⟨w.heap.size + 2, 0, none⟩ = some (.int .u32 ad) ∧ W.cell? ⟨w.heap.size + 2, 1, none⟩ = some (.int .i64 d) ∧ W.cell? ⟨w.heap.size + 2, 2, none⟩ = some (.int .u32 (X b))) (by kernel_rfl) (by kernel_rfl) (fun _ _ _ d _ h => by cases d <;> exact h) ⟨p0, p1, p2⟩ ?_
  repeat (first | (refine wpPlanZ_free (by rfl) (by rfl) (fun W => by (go_simp; try with_reducible rfl)) (fun K hK => ?_); go_simp; refine hK _ ?_; clear hK K) | (refine wpPlanZ_quiet (by rfl) (by rfl) (fun W hW => by (obtain ⟨z0, z1, z2⟩ := hW; go_simp; try with_reducible rfl)) (fun K hK => ?_); go_simp; refine hK _ ?_; clear hK K))
  refine wpPlanZ_serial (by rfl) (by rfl) (fun K hK => ?_)
  go_simp
  refine (admits_any pe (HE.out _ hBU.out.drew) (HR.out _ hBU.out.drew) GU.out.drew ad d (X b) hlo.1 hlo.2 d0 d1).mono ?_
  rintro e w2 ⟨rfl, hb2⟩
  have hB2 : Hid (Below w.heap.size w w2) := hBU.out.drew.trans (hb2.mono hBU.out.size)
  have hU2 : w.heap.size + 2 < U.drew.heap.size := World.block_lt_of_cell? U _ p0
  have XB := XU.drew.stays hb2
  refine hK _ _ (fun _ => ⟨(hb2.cell (p := ⟨w.heap.size + 2, 0, none⟩) hU2).trans p0, (hb2.cell (p := ⟨w.heap.size + 2, 1, none⟩) hU2).trans p1, (hb2.cell (p := ⟨w.heap.size + 2, 2, none⟩) hU2).trans p2⟩) ?_
  have P0 := (hb2.cell (p := ⟨w.heap.size + 2, 0, none⟩) hU2).trans p0
  have P1 := (hb2.cell (p := ⟨w.heap.size + 2, 1, none⟩) hU2).trans p1
  have P2 := (hb2.cell (p := ⟨w.heap.size + 2, 2, none⟩) hU2).trans p2
  clear hK K p0 p1 p2 hU2 hb2 hBU GU
  have hnV := XB.lt
  obtain ⟨u0, y0⟩ := XB.c 0 (by omega)
  obtain ⟨u1, y1⟩ := XB.c 1 (by omega)
  obtain ⟨u2, y2⟩ := XB.c 2 (by omega)
  obtain ⟨u3, y3⟩ := XB.c 3 (by omega)
  obtain ⟨u4, y4⟩ := XB.c 4 (by omega)
  obtain ⟨u5, y5⟩ := XB.c 5 (by omega)
  obtain ⟨u6, y6⟩ := XB.c 6 (by omega)
  have fz := XB.f
  refine wpPlanZ_serial (by rfl) (by rfl) (fun K hK => ?_)
  go_simp
  refine hK _ _ (fun _ => ⟨(World.cell?_of_block (a := ⟨w.heap.size + 2, 0, none⟩) (ef_other w2 (B := w.heap.size + 1) (k := w.heap.size + 2) (by omega) _ _ _ _ _ _ _)).trans P0, (World.cell?_of_block (a := ⟨w.heap.size + 2, 1, none⟩) (ef_other w2 (B := w.heap.size + 1) (k := w.heap.size + 2) (by omega) _ _ _ _ _ _ _)).trans P1, (World.cell?_of_block (a := ⟨w.heap.size + 2, 2, none⟩) (ef_other w2 (B := w.heap.size + 1) (k := w.heap.size + 2) (by omega) _ _ _ _ _ _ _)).trans P2⟩) ?_
  clear hK K
  refine wpPlanZ_free (by rfl) (by rfl) (fun W => by (go_simp; try with_reducible rfl)) (fun K hK => ?_); go_simp; refine hK _ ?_; clear hK K
  refine wpPlanZ_nil ?_
  go_wp2
  refine bodyPost_ret (results_cell1G (A := ⟨w.heap.size + 1, 0, none⟩) rfl _ _ _ rfl (ef_put XB _ _ _ _ _ _ _)) rfl ?_
  exact ⟨by rw [HAD.out]; rfl, ef_below hB2.out (by omega) _ _ _ _ _ _ _⟩
end
end Go.Proofs.YtjkencgcdlfjhaaGreatDoor
/-
  longPlace.
-/
namespace Go.Proofs.YtjkencgcdlfjhaaGreatDoor
open Go.RowKit Go.Maps
open Num
set_option linter.unusedVariables false
set_option maxRecDepth 100000 in
set_option maxHeartbeats 1000000 in
theorem longPl_any {w : World} {ps : Array Value} {ao : Option Addr} {n cap : Nat} {ct : Int} (h43 : ps[43]? = some (.slice ao n cap)) (h42 : ps[42]? = some (.int .i64 ct)) :
    Calls Tryz.prog 10 #[.agg ps] w fun e w' => e = .returned (.bool (decide (200 < (n : Int)) || decide (ct < 0) || decide (1099511627776 < ct))) ∧ Below w.heap.size w w' := by
  have B0 : Hid (Below w.heap.size w (w.alloc (.cells ps 29))) := (Below.refl _ _).alloc (Nat.le_refl _) _
  have c43 : (w.alloc (.cells ps 29)).cell? ⟨w.heap.size, 43, none⟩ = some (.slice ao n cap) := by rw [World.cell?_alloc_at _ _ _ _ rfl]; exact h43
  have c42 : (w.alloc (.cells ps 29)).cell? ⟨w.heap.size, 42, none⟩ = some (.int .i64 ct) := by rw [World.cell?_alloc_at _ _ _ _ rfl]; exact h42
  clear h43 h42
  obtain ⟨R, hR⟩ : ∃ R, (decide (200 < (n : Int)) || decide (ct < 0) || decide (1099511627776 < ct)) = R := ⟨_, rfl⟩
  have HR : Hid ((decide (200 < (n : Int)) || decide (ct < 0) || decide (1099511627776 < ct)) = R) := hR
  rw [hR]
  clear hR
  go_enter Tryz.func10, Tryz.ntmps10
  go_upto_region 1 with fail
  generalize w.alloc (.cells ps 29) = W at *
  have q0 := World.block_lt_of_cell? _ _ c43
  by_cases h1 : 200 < (n : Int)
  · have E : Hid (R = true) := by show _ = _; rw [← HR.out]; simp [h1]
    clear HR
    go_wp2
    go_ret
    exact ⟨by rw [E.out]; rfl, B0.out⟩
  by_cases h2 : ct < 0
  · have E : Hid (R = true) := by show _ = _; rw [← HR.out]; simp [h2]
    clear HR
    go_wp2
    go_ret
    exact ⟨by rw [E.out]; rfl, B0.out⟩
  by_cases h3 : 1099511627776 < ct
  · have E : Hid (R = true) := by show _ = _; rw [← HR.out]; simp [h3]
    clear HR
    go_wp2
    go_ret
    exact ⟨by rw [E.out]; rfl, B0.out⟩
  · have E : Hid (R = false) := by show _ = _; rw [← HR.out]; simp [h1, h2, h3]
    clear HR
    go_wp2
    go_ret
    exact ⟨by rw [E.out]; rfl, B0.out⟩
end Go.Proofs.YtjkencgcdlfjhaaGreatDoor
