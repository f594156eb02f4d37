/-
  IrTraps: the walk.
-/
import Derived.Test.YtkehhlibkebomaaDoorKOwn
import Derived.Test.YtkehhlibkebomaaDoorQOwnOps
import Derived.Test.YtkehhlibkebomaaDoorQEqSt0
import Derived.Test.YtkehhlibkebomaaDoorKPartsWalk
import Derived.Test.YtkehhlibkebomaaDoorKOpsOf
import Derived.Test.YtkehhlibkebomaaDoorQGEval
import Derived.Test.YtkehhlibkebomaaDoorKModel
import Derived.Test.YtkehhlibkebomaaDoorKGMem
import Derived.Test.YtkehhlibkebomaaDoorKGEvE
import Derived.Test.YtkehhlibkebomaaDoorQGEvald
namespace Go.Proofs.YtkehhlibkebomaaDoor
open Go.RowKit Go.Maps
open Num
set_option linter.unusedVariables false
def longP (xs : List Int) (S : St) : Bool := decide (200 < (xs.length : Int)) || decide (S.ct < 0) || decide (1099511627776 < S.ct)
theorem longPlace_any (w : World) (S : St) (ao : Option Addr) (xs : List Int) (cap : Nat) (wc : Int) :
    Calls Tryd.prog 6 #[.agg (plA S (.slice ao xs.length cap) wc)] w fun e w' => e = .returned (.bool (longP xs S)) ∧ Below w.heap.size w w' :=
  longPl_any (w := w) (by rw [plA_get _ _ _ 43 (by omega)]; rfl) (by rw [plA_get _ _ _ 42 (by omega)]; rfl)
theorem noKeys {w : World} {b n : Nat} {D : DataW Unit} {ss : List Int} (hown : w.ownsMap Tryd.prog 3 unitElem b n D) (h : ∀ x : Int, Maps.has D (.int .i64 x) = false) (hp : ss.Perm (intKeys D)) : ss = [] := by
  obtain ⟨es, rfl, hko⟩ := hown.keysOf
  have hn : intKeys (.map es : DataW Unit) = [] := by
    rw [List.eq_nil_iff_forall_not_mem]
    intro x hx
    obtain ⟨p, hp, rfl⟩ := List.mem_map.1 hx
    obtain ⟨v, hv⟩ := hko p hp
    obtain ⟨y, _, hy, hl⟩ := Maps.keyOf_i64 Tryd.underlying3 hv
    have h1 : Maps.has (.map es : DataW Unit) (.int .i64 y) = true := List.any_eq_true.2 ⟨p, hp, by rw [hy]; simp [Lit.sameKey]⟩
    rw [h y] at h1
    cases h1
  rw [hn] at hp
  exact hp.eq_nil
set_option maxRecDepth 100000 in
set_option maxHeartbeats 4000000 in
theorem irTraps_any (pe : Nat → Addr) {w : World} (E : Eg pe w) {v : Value} {l : List Opx} (A : OpsIn w v l) (hl : (l.length : Int) ≤ 9223372036854775807) (hs : ∀ o ∈ l, (o.s.size : Int) ≤ 9223372036854775807) (S : St) (ok : 0 ≤ S.ct → S.ct ≤ 1099511627776 → S.ok) {vx : Value} {xs : List Int} (X : WordsIn w vx xs) (wc many : Int) (m0 : -9223372036854775808 ≤ many) (m1 : many ≤ 9223372036854775807) :
    Calls Tryd.prog 3 #[.int .i64 many, v, .agg (plA S vx wc)] w fun e w' => e = .returned (.bool true) ∧ Below w.heap.size w w' := by
  have hrow := pl_row w S vx wc
  have hB0 : Below w.heap.size w (w.alloc (.cells (plA S vx wc) 29)) := (Below.refl _ _).alloc (Nat.le_refl _) _
  have hz0 : (w.alloc (.cells (plA S vx wc) 29)).heap.size = w.heap.size + 1 := by simp
  go_enter Tryd.func3, Tryd.ntmps3
  go_upto_region 1 with fail
  generalize w.alloc (.cells (plA S vx wc) 29) = W0 at *
  have E0 := E.stays hB0
  have A0 := A.stays hB0
  have X0 := X.stays hB0
  go_upto_region 2 with (go_at_call 4; refine (evaluated_any pe E0).mono ?_; rintro e w1 ⟨rfl, b1⟩)
  have E1 : Hid (Eg pe w1) := E0.stays b1
  have A1 : Hid (OpsIn w1 v l) := A0.stays b1
  have X1 : Hid (WordsIn w1 vx xs) := X0.stays b1
  have P1 : Hid (RowIs w1 w.heap.size 29 45 (plV S vx wc)) := hrow.stays b1
  have hz1 : w.heap.size + 1 ≤ w1.heap.size := by have := b1.size; omega
  have BW : Hid (Below w.heap.size w w1) := hB0.trans (b1.mono (by omega))
  clear E0 A0 X0 E A X hrow hB0 b1
  by_cases hLO : longO l 40 = true
  · have cL := longOps_any A1.out hl hs 40
    rw [if_pos hLO] at cL
    go_wp2_with (go_at_call 5; refine cL.mono ?_; rintro e w2 ⟨rfl, rfl⟩)
    go_ret
    exact ⟨rfl, BW.out⟩
  have cL := longOps_any A1.out hl hs 40
  rw [if_neg hLO] at cL
  obtain ⟨ao, cap, hv, hcap, _⟩ := X1.out.sh
  subst hv
  by_cases hLP : longP xs S = true
  · have cP := longPlace_any w1 S ao xs cap wc
    rw [hLP] at cP
    go_wp2_with (first | (go_at_call 5; refine cL.mono ?_; rintro e w2 ⟨rfl, rfl⟩) | (refine wpList_loadT 29 _ (by rfl) w.heap.size _ (by rfl) (by rfl) (load_place P1.out) ?_) | (go_at_call 6; refine cP.mono ?_; rintro e w2 ⟨rfl, b2⟩))
    go_ret
    exact ⟨rfl, BW.out.trans (b2.mono (by omega))⟩
  rw [Bool.not_eq_true] at hLP
  have cP := longPlace_any w1 S ao xs cap wc
  rw [hLP] at cP
  have hl2 : l.length ≤ 201 := by
    simp [longO] at hLO
    by_cases h : l.length = 201
    · omega
    · have := hLO.1; omega
  have hp2 : xs.length ≤ 200 ∧ 0 ≤ S.ct ∧ S.ct ≤ 1099511627776 := by
    simp [longP] at hLP
    omega
  go_upto_region 4 with (first | (go_at_call 5; refine cL.mono ?_; rintro e w2 ⟨rfl, rfl⟩) | (refine wpList_loadT 29 _ (by rfl) w.heap.size _ (by rfl) (by rfl) (load_place P1.out) ?_) | (go_at_call 6; refine cP.mono ?_; rintro e w2 ⟨rfl, b2⟩))
  rename_i W1
  have A2 := A1.out.stays b2
  have E2 := E1.out.stays b2
  have X2 := X1.out.stays b2
  have P2 := P1.out.stays b2
  have hz2 := b2.size
  have BW2 : Hid (Below w.heap.size w w2) := BW.out.trans (b2.mono (by omega))
  clear A1 E1 X1 P1 cL cP BW
  go_upto_region 5 with (go_at_call 7; refine (ownOps_any A2 (by omega)).mono ?_; rintro e w3 ⟨v', rfl, A3, b3⟩; obtain ⟨ao', cap', hv', hc', _⟩ := A3.sh; subst hv')
  have b4 : Below w3.heap.size w3 (w3.alloc (.cells #[.int .u32 64, .int .i64 many, .slice ao' l.length cap'] 35)) := (Below.refl _ _).alloc (Nat.le_refl _) _
  have hC4 : (w3.alloc (.cells #[.int .u32 64, .int .i64 many, .slice ao' l.length cap'] 35)).heap[w3.heap.size]? = some (.cells #[.int .u32 64, .int .i64 many, .slice ao' l.length cap'] 35) := heap_alloc_new _ _
  have hz4 : (w3.alloc (.cells #[.int .u32 64, .int .i64 many, .slice ao' l.length cap'] 35)).heap.size = w3.heap.size + 1 := by simp
  have hz3 := b3.size
  generalize w3.alloc (.cells #[.int .u32 64, .int .i64 many, .slice ao' l.length cap'] 35) = W4 at *
  have b24 : Below w2.heap.size w2 W4 := b3.trans (b4.mono hz3)
  have A4 := A3.stays b4
  have E4 := E2.stays b24
  have X4 := X2.stays b24
  have P4 := P2.stays b24
  have BW4 : Hid (Below w.heap.size w W4) := BW2.out.trans (b24.mono (by omega))
  clear BW2
  generalize hcb : w3.heap.size = cb at *
  clear A2 E2 X2 P2 A3 b3 b4 b24 b2
  go_upto_region 6 with (first | (refine wpList_loadT 29 _ (by rfl) w.heap.size _ (by rfl) (by rfl) (load_place P4) ?_) | (go_at_call 8; refine (placed_any W4 S _ wc 64 (by decide) (by decide)).mono ?_; rintro e w5 ⟨rfl, b5⟩) | (refine wpList_allocSt rfl rfl ?_) | (refine wpList_storeSt rfl _ _ rfl (stA zS) (stA (plS S 64)) rfl rfl (stA_size _) (stA_size _) (stA_one _) ?_))
  have okS : (plS S 64).ok := plS_ok (ok hp2.2.1 hp2.2.2) ⟨by decide, by decide⟩
  have hsl : (plS S 64).sl = false := rfl
  have hpc : (plS S 64).pc = 64 := rfl
  have hnx : (plS S 64).nx = lo (64 + 4) := rfl
  have hr0 : (plS S 64).r 0 = 0 := rfl
  have hct : (plS S 64).ct = S.ct := rfl
  generalize plS S 64 = T at *
  have sS5 := st_row w5 T
  have b6 : Below w5.heap.size w5 (w5.alloc (.cells (stA T) 26)) := (Below.refl _ _).alloc (Nat.le_refl _) _
  have hz6 : (w5.alloc (.cells (stA T) 26)).heap.size = w5.heap.size + 1 := by simp
  have hz5 := b5.size
  generalize w5.alloc (.cells (stA T) 26) = W5 at *
  have b46 : Below W4.heap.size W4 W5 := b5.trans (b6.mono hz5)
  have A5 := A4.stays b46
  have E5 := E4.stays b46
  have X5 := X4.stays b46
  have P5 := P4.stays b46
  have hC5 := (b46.block cb (by omega)).trans hC4
  have BW5 : Hid (Below w.heap.size w W5) := BW4.out.trans (b46.mono (by omega))
  clear BW4
  generalize hsbl : w5.heap.size = s9 at *
  clear A4 E4 X4 P4 hC4 b5 b6 b46
  have hlS := load_st sS5.at
  have lk : (loadVar 26 ⟨s9, 0, none⟩).run Tryd.prog W5 = .ok (.agg (stA T)) W5 := hlS
  go_upto_region 7 with (first | (refine wpList_loadT 26 _ (by rfl) s9 _ (by rfl) (by rfl) lk ?_) | (refine wpList_allocSt rfl rfl ?_) | (refine wpList_storeSt rfl _ _ rfl (stA zS) (stA T) rfl rfl (stA_size _) (stA_size _) (stA_one _) ?_))
  have sX6 := st_row W5 T
  have b6 : Below W5.heap.size W5 (W5.alloc (.cells (stA T) 26)) := (Below.refl _ _).alloc (Nat.le_refl _) _
  have hz7 : (W5.alloc (.cells (stA T) 26)).heap.size = W5.heap.size + 1 := by simp
  generalize W5.alloc (.cells (stA T) 26) = W6 at *
  have A6 := A5.stays b6
  have E6 := E5.stays b6
  have X6 := X5.stays b6
  have P6 := P5.stays b6
  have sS6 := sS5.stays b6
  have hC6 := (b6.block cb (by omega)).trans hC5
  have BW6 : Hid (Below w.heap.size w W6) := BW5.out.trans (b6.mono (by omega))
  clear BW5
  generalize hxb : W5.heap.size = x10 at *
  have hq1 : s9 < x10 := by omega
  have hq2 : cb < s9 := by omega
  have hq3 : x10 < W6.heap.size := by omega
  clear hz6 hz7 hxb
  clear A5 E5 X5 P5 hC5 b6 sS5 hlS lk
  go_upto_region 8 with (first | (refine wpList_loadT 29 _ (by rfl) w.heap.size _ (by rfl) (by rfl) (load_place P6) ?_) | (go_at_call 9; refine (memory_any pe E6 S X6 hp2.1 wc).mono ?_; rintro e w7 ⟨sb, bp, bw, bh, rfl, R7, b7, q1, q2, q3, q4⟩))
  have A7 := A6.stays b7
  have E7 := E6.stays b7
  have X7 := X6.stays b7
  have P7 := P6.stays b7
  have sS7 : Hid (StRow w7 s9 T) := sS6.stays b7
  have sX7 : Hid (StRow w7 x10 T) := sX6.stays b7
  have hC7 : Hid (w7.heap[cb]? = some _) := (b7.block cb (by omega)).trans hC6
  have hz8 := b7.size
  have BW7 : Hid (Below w.heap.size w w7) := BW6.out.trans (b7.mono (by omega))
  clear BW6
  have hq5 : w.heap.size < x10 := by omega
  have hq6 : x10 < bp := by omega
  have hq7 : x10 < bh := by omega
  have hq8 : w.heap.size ≤ w7.heap.size := by omega
  have hq4 : x10 < w7.heap.size := by omega
  have n1 : sb ≠ x10 := by omega
  have n2 : bp ≠ x10 := by omega
  have n3 : bw ≠ x10 := by omega
  have n4 : bh ≠ x10 := by omega
  clear A6 E6 X6 P6 sS6 sX6 hC6 b7
  have d0 : w7.cell? ⟨cb, 0, none⟩ = some (.int .u32 64) := by rw [cell_of_row _ _ _ _ _ _ hC7.out]; rfl
  have d1 : w7.cell? ⟨cb, 1, none⟩ = some (.int .i64 many) := by rw [cell_of_row _ _ _ _ _ _ hC7.out]; rfl
  have d2 : w7.cell? ⟨cb, 2, none⟩ = some (.slice ao' l.length cap') := by rw [cell_of_row _ _ _ _ _ _ hC7.out]; rfl
  by_cases hbad : codeF many l ≠ (0, -1)
  · have cE := ieval_bad pe E7 A7 (by omega) 64 many m0 m1 hbad x10 sb
    go_upto_region 9 with (go_at_call 10; refine cE.mono ?_; rintro e w8 ⟨⟨yt, yp, rfl, hy⟩, b8⟩)
    have b9 : Below w7.heap.size w7 (w8.alloc (.cells #[.bool false, .int .i64 0] 40)) := b8.trans (((Below.refl _ w8).alloc (Nat.le_refl _) _).mono b8.size)
    have hE8 : (w8.alloc (.cells #[.bool false, .int .i64 0] 40)).heap[w8.heap.size]? = some (.cells #[.bool false, .int .i64 0] 40) := heap_alloc_new _ _
    generalize w8.alloc (.cells #[.bool false, .int .i64 0] 40) = W8 at *
    have t0 : W8.cell? ⟨w8.heap.size, 0, none⟩ = some (.bool false) := by rw [cell_of_row _ _ _ _ _ _ hE8]; rfl
    have sS8 := sS7.out.stays b9
    have sX8 := sX7.out.stays b9
    have R8 := R7.stays b9 (Nat.le_refl _)
    have X8 := X7.stays b9
    have P8 := P7.stays b9
    have BW8 : Below w.heap.size w W8 := BW7.out.trans (b9.mono hq8)
    clear hE8 b8 hy A7 E7 X7 P7 sS7 sX7 R7 hC7 d0 d1 d2 cE
    go_upto_region 12 with fail
    refine wp_region_phase 14 [(0, 1), (1, 1), (2, 0), (3, 0), (4, 0), (6, 0), (7, 1), (5, 2), (8, 2), (9, 2), (10, 2), (11, 0), (12, 0), (13, 0)] (fun W => StRow W x10 T ∧ StRow W s9 T ∧ RowIs W w.heap.size 29 45 (plV S (.slice ao xs.length cap) wc)) (by kernel_rfl) (by kernel_rfl) (fun _ _ _ d _ h => by cases d <;> exact h) ⟨sX8.stays (below_drew (Below.refl _ _)), sS8.stays (below_drew (Below.refl _ _)), P8.stays (below_drew (Below.refl _ _))⟩ ?_
    refine wpPlanZ_quiet (by rfl) (by rfl) (fun W hW => exec_loadT rfl rfl W (load_st hW.1.at)) (fun K hK => ?_)
    go_simp
    refine hK _ ?_
    clear hK K
    refine wpPlanZ_quiet (by rfl) (by rfl) (fun W hW => exec_loadT rfl rfl W (load_st hW.2.1.at)) (fun K hK => ?_)
    go_simp
    refine hK _ ?_
    clear hK K
    refine wpPlanZ_free (by rfl) (by rfl) (fun W => exec_eq rfl rfl rfl W (eq_st T W)) (fun K hK => ?_)
    go_simp
    refine hK _ ?_
    clear hK K
    repeat (refine wpPlanZ_free (by rfl) (by rfl) (fun W => by (go_simp; try with_reducible rfl)) (fun K hK => ?_); go_simp; refine hK _ ?_; clear hK K)
    refine wpPlanZ_quiet (by rfl) (by rfl) (fun W hW => by (have c := hW.2.2.cell (j := 43) (by decide); go_simp; try with_reducible rfl)) (fun K hK => ?_)
    go_simp
    refine hK _ ?_
    clear hK K
    have bd : Below W8.heap.size W8 W8.drew := below_drew (Below.refl _ _)
    refine wpPlanZ_serial (by rfl) (by rfl) (fun K hK => ?_)
    go_simp
    refine (words_ex (R8.stays bd (Nat.le_refl _))).mono ?_
    rintro e u1 ⟨g1, rfl, k1, c1, h1⟩
    have f1 : Below W8.heap.size W8 u1 := bd.trans (c1.mono (by simp))
    refine hK _ _ (fun _ => ⟨sX8.stays f1, sS8.stays f1, P8.stays f1⟩) ?_
    clear hK K
    refine wpPlanZ_serial (by rfl) (by rfl) (fun K hK => ?_)
    go_simp
    refine (new_ex (X8.stays f1) (by omega)).mono ?_
    rintro e u2 ⟨sb2, bp2, bw2, bh2, rfl, R2', c2, _, _⟩
    have f2 : Below W8.heap.size W8 u2 := f1.trans (c2.mono f1.size)
    refine hK _ _ (fun _ => ⟨sX8.stays f2, sS8.stays f2, P8.stays f2⟩) ?_
    clear hK K
    refine wpPlanZ_serial (by rfl) (by rfl) (fun K hK => ?_)
    go_simp
    refine (words_ex R2').mono ?_
    rintro e u3 ⟨g3, rfl, k3, c3, h3⟩
    have f3 : Below W8.heap.size W8 u3 := f2.trans (c3.mono f2.size)
    refine hK _ _ (fun _ => ⟨sX8.stays f3, sS8.stays f3, P8.stays f3⟩) ?_
    clear hK K
    have kk1 : ∀ i, i < 4096 → u3.cell? ⟨g1, 0 + i, none⟩ = some (.int .u32 (mw xs i)) := fun i hi => by
      rw [Nat.zero_add]
      have hg := World.block_lt_of_cell? _ _ (k1 i hi)
      exact (c3.cell (p := ⟨g1, i, none⟩) (show g1 < _ from Nat.lt_of_lt_of_le hg c2.size)).trans ((c2.cell (p := ⟨g1, i, none⟩) hg).trans (k1 i hi))
    have kk3 : ∀ i, i < 4096 → u3.cell? ⟨g3, 0 + i, none⟩ = some (.int .u32 (mw xs i)) := fun i hi => by rw [Nat.zero_add]; exact k3 i hi
    refine wpPlanZ_serial (by rfl) (by rfl) (fun K hK => ?_)
    go_simp
    refine (alike_eq u3 g1 0 g3 0 4096 4096 4096 (mw xs) (by decide) kk1 kk3).mono ?_
    rintro e u4 ⟨rfl, k, rfl⟩
    have f4 : Below W8.heap.size W8 (u3.drewN k) := below_drewN f3 k
    refine hK _ _ (fun _ => ⟨sX8.stays f4, sS8.stays f4, P8.stays f4⟩) ?_
    clear hK K
    repeat (refine wpPlanZ_free (by rfl) (by rfl) (fun W => by (go_simp; try with_reducible rfl)) (fun K hK => ?_); go_simp; refine hK _ ?_; clear hK K)
    refine wpPlanZ_nil ?_
    go_wp2
    go_ret
    exact ⟨rfl, BW8.trans (f4.mono BW8.size)⟩
  have hgood : codeF many l = (0, -1) := Decidable.not_not.1 hbad
  have WL := codeF_well.1 hgood
  have hmem : ∀ r ∈ eachL l, ∀ o ∈ r, o ∈ l := fun r hr o ho => by
    unfold eachL at hr
    obtain ⟨q, hq, rfl⟩ := List.mem_map.1 hr
    rw [List.mem_singleton.1 ho]; exact hq
  have hwell : ∀ r ∈ eachL l, ∀ o ∈ r, o.ok ∧ opE o many = 0 := fun r hr o ho => ⟨A7.ok o (hmem r hr o ho), wellL_mem WL.ops o (hmem r hr o ho)⟩
  have hne : eachL l ≠ [] := by unfold eachL; intro h; exact WL.ne (List.map_eq_nil_iff.1 h)
  have hlast : ∀ r, (eachL l).getLast? = some r → r.any outB = true := fun r hr => by
    obtain ⟨o, ho, hb⟩ := WL.last
    unfold eachL at hr
    rw [List.getLast?_map, ho] at hr
    obtain rfl : [o] = r := by simpa using hr
    simp [hb]
  have hnf := runZ_nofell (many := many) (wtP wc) (eachL l) (nwX (rgS T) 34) (mw xs) hne hwell hlast (nwX_bd (rgS_bd okS)) R7.mb
  have hx00 := fun M => runZ_x0 (wt := wtP wc) (many := many) (eachL l) (nwX (rgS T) 34) (mw xs) M (fun r hr o ho => (hwell r hr o ho).2)
  have hn00 : nwX (rgS T) 34 0 = 0 := by rw [← begX_nw hr0]; simpa [begX] using hr0
  have cE0 := ieval_ok pe E7 R7 (by decide) okS sX7.out n1 n2 n3 n4 (by have := (ram_ltG R7).1; omega) (by have := (ram_ltG R7).2.1; omega) (by have := (ram_ltG R7).2.2.1; omega) (by have := (ram_ltG R7).2.2.2; omega) A7 64 many (by decide) (by decide) m0 m1 hgood hsl hpc hnx (by omega) (by omega)
  rw [begX_nw hr0] at cE0
  unfold run1 at cE0
  clear hmem hwell hne hlast
  cases hrun : runZ (wtP wc) (eachL l) (nwX (rgS T) 34) (mw xs) with
  | trap t =>
    have cE : Calls Tryd.prog 10 #[.agg #[.int .u32 64, .int .i64 many, .slice ao' l.length cap'], .pointer (some ⟨x10, 0, none⟩), .pointer (some ⟨sb, 0, none⟩)] w7 fun e w' => e = .returned (.tuple #[.agg #[.bool true, .int .i64 t], .nilIface]) ∧ Below w7.heap.size w7 w' := by
      rw [hrun] at cE0
      exact cE0.mono fun e w' h => h
    clear cE0
    go_upto_region 9 with (go_at_call 10; refine cE.mono ?_; rintro e w8 ⟨rfl, b8⟩)
    have b9 : Below w7.heap.size w7 (w8.alloc (.cells #[.bool true, .int .i64 t] 40)) := b8.trans (((Below.refl _ w8).alloc (Nat.le_refl _) _).mono b8.size)
    have hE8 : (w8.alloc (.cells #[.bool true, .int .i64 t] 40)).heap[w8.heap.size]? = some (.cells #[.bool true, .int .i64 t] 40) := heap_alloc_new _ _
    generalize w8.alloc (.cells #[.bool true, .int .i64 t] 40) = W8 at *
    have t0 : W8.cell? ⟨w8.heap.size, 0, none⟩ = some (.bool true) := by rw [cell_of_row _ _ _ _ _ _ hE8]; rfl
    have sS8 := sS7.out.stays b9
    have sX8 := sX7.out.stays b9
    have R8 := R7.stays b9 (Nat.le_refl _)
    have X8 := X7.stays b9
    have P8 := P7.stays b9
    have BW8 : Below w.heap.size w W8 := BW7.out.trans (b9.mono hq8)
    clear hE8 b8 A7 E7 X7 P7 sS7 sX7 R7 hC7 d0 d1 d2 cE
    go_upto_region 12 with fail
    refine wp_region_phase 14 [(0, 1), (1, 1), (2, 0), (3, 0), (4, 0), (6, 0), (7, 1), (5, 2), (8, 2), (9, 2), (10, 2), (11, 0), (12, 0), (13, 0)] (fun W => StRow W x10 T ∧ StRow W s9 T ∧ RowIs W w.heap.size 29 45 (plV S (.slice ao xs.length cap) wc)) (by kernel_rfl) (by kernel_rfl) (fun _ _ _ d _ h => by cases d <;> exact h) ⟨sX8.stays (below_drew (Below.refl _ _)), sS8.stays (below_drew (Below.refl _ _)), P8.stays (below_drew (Below.refl _ _))⟩ ?_
    refine wpPlanZ_quiet (by rfl) (by rfl) (fun W hW => exec_loadT rfl rfl W (load_st hW.1.at)) (fun K hK => ?_)
    go_simp
    refine hK _ ?_
    clear hK K
    refine wpPlanZ_quiet (by rfl) (by rfl) (fun W hW => exec_loadT rfl rfl W (load_st hW.2.1.at)) (fun K hK => ?_)
    go_simp
    refine hK _ ?_
    clear hK K
    refine wpPlanZ_free (by rfl) (by rfl) (fun W => exec_eq rfl rfl rfl W (eq_st T W)) (fun K hK => ?_)
    go_simp
    refine hK _ ?_
    clear hK K
    repeat (refine wpPlanZ_free (by rfl) (by rfl) (fun W => by (go_simp; try with_reducible rfl)) (fun K hK => ?_); go_simp; refine hK _ ?_; clear hK K)
    refine wpPlanZ_quiet (by rfl) (by rfl) (fun W hW => by (have c := hW.2.2.cell (j := 43) (by decide); go_simp; try with_reducible rfl)) (fun K hK => ?_)
    go_simp
    refine hK _ ?_
    clear hK K
    have bd : Below W8.heap.size W8 W8.drew := below_drew (Below.refl _ _)
    refine wpPlanZ_serial (by rfl) (by rfl) (fun K hK => ?_)
    go_simp
    refine (words_ex (R8.stays bd (Nat.le_refl _))).mono ?_
    rintro e u1 ⟨g1, rfl, k1, c1, h1⟩
    have f1 : Below W8.heap.size W8 u1 := bd.trans (c1.mono (by simp))
    refine hK _ _ (fun _ => ⟨sX8.stays f1, sS8.stays f1, P8.stays f1⟩) ?_
    clear hK K
    refine wpPlanZ_serial (by rfl) (by rfl) (fun K hK => ?_)
    go_simp
    refine (new_ex (X8.stays f1) (by omega)).mono ?_
    rintro e u2 ⟨sb2, bp2, bw2, bh2, rfl, R2', c2, _, _⟩
    have f2 : Below W8.heap.size W8 u2 := f1.trans (c2.mono f1.size)
    refine hK _ _ (fun _ => ⟨sX8.stays f2, sS8.stays f2, P8.stays f2⟩) ?_
    clear hK K
    refine wpPlanZ_serial (by rfl) (by rfl) (fun K hK => ?_)
    go_simp
    refine (words_ex R2').mono ?_
    rintro e u3 ⟨g3, rfl, k3, c3, h3⟩
    have f3 : Below W8.heap.size W8 u3 := f2.trans (c3.mono f2.size)
    refine hK _ _ (fun _ => ⟨sX8.stays f3, sS8.stays f3, P8.stays f3⟩) ?_
    clear hK K
    have kk1 : ∀ i, i < 4096 → u3.cell? ⟨g1, 0 + i, none⟩ = some (.int .u32 (mw xs i)) := fun i hi => by
      rw [Nat.zero_add]
      have hg := World.block_lt_of_cell? _ _ (k1 i hi)
      exact (c3.cell (p := ⟨g1, i, none⟩) (show g1 < _ from Nat.lt_of_lt_of_le hg c2.size)).trans ((c2.cell (p := ⟨g1, i, none⟩) hg).trans (k1 i hi))
    have kk3 : ∀ i, i < 4096 → u3.cell? ⟨g3, 0 + i, none⟩ = some (.int .u32 (mw xs i)) := fun i hi => by rw [Nat.zero_add]; exact k3 i hi
    refine wpPlanZ_serial (by rfl) (by rfl) (fun K hK => ?_)
    go_simp
    refine (alike_eq u3 g1 0 g3 0 4096 4096 4096 (mw xs) (by decide) kk1 kk3).mono ?_
    rintro e u4 ⟨rfl, k, rfl⟩
    have f4 : Below W8.heap.size W8 (u3.drewN k) := below_drewN f3 k
    refine hK _ _ (fun _ => ⟨sX8.stays f4, sS8.stays f4, P8.stays f4⟩) ?_
    clear hK K
    repeat (refine wpPlanZ_free (by rfl) (by rfl) (fun W => by (go_simp; try with_reducible rfl)) (fun K hK => ?_); go_simp; refine hK _ ?_; clear hK K)
    refine wpPlanZ_nil ?_
    go_wp2
    go_ret
    exact ⟨rfl, BW8.trans (f4.mono BW8.size)⟩
  | fell => exact absurd hrun hnf
  | leave M =>
    rw [hrun] at cE0
    have cE : Calls Tryd.prog 10 #[.agg #[.int .u32 64, .int .i64 many, .slice ao' l.length cap'], .pointer (some ⟨x10, 0, none⟩), .pointer (some ⟨sb, 0, none⟩)] w7 fun e w' => e = .returned (.tuple #[.agg #[.bool false, .int .i64 0], .nilIface]) ∧ StRow w' x10 (leftS T M.x M.lv many) ∧ (∃ N', N' ≤ 1000000 ∧ RamIs w' sb bp bw bh N' M.m (wtP wc) (fun _ => false)) ∧ w7.heap.size ≤ w'.heap.size ∧ w'.heap[s9]? = w7.heap[s9]? ∧ Below w.heap.size w w' := by
      refine cE0.mono ?_
      rintro e w' ⟨rfl, h3, h5, h6, h7, h8⟩
      exact ⟨rfl, h3, h5, h6, h7 s9 (by omega) (by omega) (by omega) (by omega), h8.1.trans BW7.out.os, h8.2.1.trans BW7.out.tape, h8.2.2.trans BW7.out.output, by omega, fun k hk => (h7 k (by omega) (by omega) (by omega) (by omega)).trans (BW7.out.block k hk)⟩
    clear cE0
    have hx0 : M.x 0 = 0 := (hx00 M hrun).trans hn00
    clear hx00 hn00 hnf
    generalize hto : M.lv = to at *
    go_upto_region 9 with (go_at_call 10; refine cE.mono ?_; rintro e w8 ⟨rfl, sX8, ⟨N', hN', R8⟩, hz9, hs9, BW8⟩)
    have b9 : Below w8.heap.size w8 (w8.alloc (.cells #[.bool false, .int .i64 0] 40)) := (Below.refl _ w8).alloc (Nat.le_refl _) _
    have hE8 : (w8.alloc (.cells #[.bool false, .int .i64 0] 40)).heap[w8.heap.size]? = some (.cells #[.bool false, .int .i64 0] 40) := heap_alloc_new _ _
    generalize w8.alloc (.cells #[.bool false, .int .i64 0] 40) = W8 at *
    have t0 : W8.cell? ⟨w8.heap.size, 0, none⟩ = some (.bool false) := by rw [cell_of_row _ _ _ _ _ _ hE8]; rfl
    have BW9 : Below w.heap.size w W8 := BW8.trans (b9.mono BW8.size)
    have sX9 := sX8.stays b9
    have sS9 := (sS7.out.block hs9).stays b9
    have R9 := R8.stays b9 (Nat.le_refl _)
    have c0 : W8.cell? ⟨x10, 0, none⟩ = some (.int .u32 0) := by rw [sX9.cell (j := 0) (by decide)]; exact congrArg (fun z => some (Value.int .u32 z)) hx0
    have c34 : W8.cell? ⟨x10, 34, none⟩ = some (.int .u32 to) := sX9.cell (j := 34) (by decide)
    have c35 : W8.cell? ⟨x10, 35, none⟩ = some (.int .u32 ((to + 4) % 4294967296)) := sX9.cell (j := 35) (by decide)
    have c37 : W8.cell? ⟨x10, 37, none⟩ = some (.int .u32 T.st) := sX9.cell (j := 37) (by decide)
    have c42 : W8.cell? ⟨x10, 42, none⟩ = some (.int .i64 (T.ct + many)) := sX9.cell (j := 42) (by decide)
    have e37 : W8.cell? ⟨s9, 37, none⟩ = some (.int .u32 T.st) := sS9.cell (j := 37) (by decide)
    have e42 : W8.cell? ⟨s9, 42, none⟩ = some (.int .i64 T.ct) := sS9.cell (j := 42) (by decide)
    have hm1 := WL.m0
    have hm2 := WL.m1
    have ct0 : 0 ≤ T.ct := by omega
    have ct1 : T.ct ≤ 1099511627776 := by omega
    have cH : Calls Tryd.prog 14 #[.pointer (some ⟨sb, 0, none⟩)] W8 fun e w' => e = .returned (.slice none 0 0) ∧ Below w.heap.size w w' := by
      refine (hits_any R9 hN').mono ?_
      rintro e w' ⟨v, ss, D, rfl, hD, hD2, hp, _, hn, _, hy1, hy2, hy3⟩
      have hss : ss = [] := noKeys hD2 hD hp
      rw [hn.2 hss]
      exact ⟨rfl, hy3.1.trans BW9.os, hy3.2.1.trans BW9.tape, hy3.2.2.trans BW9.output, Nat.le_trans BW9.size hy1, fun k hk => (hy2 k (Nat.lt_of_lt_of_le hk BW9.size) (by omega)).trans (BW9.block k hk)⟩
    clear hE8 A7 E7 X7 P7 sS7 sX7 R7 hC7 d0 d1 d2 cE sX8 R8 sX9 sS9 b9 hs9
    go_wp2_with (go_at_call 14; refine cH.mono ?_; rintro e w9 ⟨rfl, bw9⟩)
    go_ret
    exact ⟨rfl, bw9⟩
end Go.Proofs.YtkehhlibkebomaaDoor
