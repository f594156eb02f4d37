/-
  The walk of RamActs.
-/
import Derived.Test.YtmfhimphlackiaaDoorRaActs
import Derived.Test.YtmfhimphlackiaaDoorRaInv
import Derived.Test.YtmfhimphlackiaaDoorCopy
import Derived.Test.YtmfhimphlackiaaDoorStored
namespace Go.Proofs.YtmfhimphlackiaaDoor
open Go.RowKit Go.Maps
open Num
set_option linter.unusedVariables false
theorem WordsIn.stays {w w' : World} {v : Value} {xs : List Int} (X : WordsIn w v xs) (h : Below w.heap.size w w') : WordsIn w' v xs := by
  obtain ⟨⟨ao, cap, hv, hc, hx⟩, wf⟩ := X
  refine ⟨⟨ao, cap, hv, hc, fun hp => ?_⟩, wf⟩
  obtain ⟨b, off, e, hcell⟩ := hx hp
  exact ⟨b, off, e, fun i hi => by rw [h.cell (World.block_lt_of_cell? _ _ (hcell i hi))]; exact hcell i hi⟩
theorem unguard {w w' : World} {n b : Nat} (h0 : n ≤ w'.heap.size) (h : ∀ k, k < w.heap.size → k ≠ b → w'.heap[k]? = w.heap[k]?) (hs : w.heap.size ≤ w'.heap.size) (ho : w'.os = w.os) (ht : w'.tape = w.tape) (hu : w'.output = w.output) : Kept w w' (· = b) := ⟨ho, ht, hu, hs, fun k hk hx => h k hk hx⟩
set_option maxRecDepth 100000 in
set_option maxHeartbeats 8000000 in
theorem ramActs_any {S : Nat → Addr} {w : World} (E : Errs S w) {v v2 : Value} {xs : List Int} (X : WordsIn w v xs) (hlen : (xs.length : Int) ≤ 9223372036854775807) {n : Nat} {x : Nat → Rc} (A : RcsIn w v2 n x) (hn : (n : Int) ≤ 9223372036854775807) :
    Calls Tryd.prog 5 #[v, v2] w fun e w' => e = .returned (.bool true) ∧ Below w.heap.size w w' := by
  obtain ⟨ao, cap, rfl, hcap, _⟩ := X.sh
  obtain ⟨ao2, cap2, rfl, hcap2, hcells⟩ := A.sh
  have hst := stored_any w
  have XH : Hid (WordsIn w (.slice ao xs.length cap) xs) := X
  have AH : Hid (∀ i, i < n → (x i).ok) := A.ok
  have EH : Hid (Errs S w) := E
  have HC : Hid (0 < n → ∃ b off : Nat, ao2 = some ⟨b, off, none⟩ ∧ ∀ i, i < n → ∀ (j : Nat) (u : Value), (rcV (x i))[j]? = some u → w.cell? ⟨b, off + i * 7 + j, none⟩ = some u) := hcells
  clear X E A hcells
  go_enter Tryd.func5, Tryd.ntmps5
  go_wp2_with fail
  refine hst.mono ?_
  rintro e w1 ⟨rfl, hb1⟩
  clear hst
  by_cases hl : 5000 < (xs.length : Int)
  · go_wp2
    go_ret
    exact ⟨rfl, hb1⟩
  have hl' : (xs.length : Int) ≤ 5000 := by omega
  clear hl
  by_cases hl : 60 < (n : Int)
  · go_wp2
    go_ret
    exact ⟨rfl, hb1⟩
  have hl2 : (n : Int) ≤ 60 := by omega
  clear hl
  have hnb := new_any (XH.out.stays hb1) (by omega)
  go_wp2_with fail
  refine hnb.mono ?_
  rintro e w2 ⟨rfl, R2, hb2⟩
  clear hnb
  have hb2' : Below w.heap.size w w2 := hb1.trans (hb2.mono hb1.size)
  have hnr := dnew_any (XH.out.stays hb2') (by omega)
  go_wp2_with fail
  refine hnr.mono ?_
  rintro e w3 ⟨rb, gb, kb, hb, rfl, D3, hb3, k1, k2, k3, k4⟩
  clear hnr
  have z1 := hb1.size
  have z2 := hb2.size
  have lR := R2.lts
  have AP : Hid (RApt w.heap.size w2.heap.size w1.heap.size (w1.heap.size + 1) (w1.heap.size + 2) (w1.heap.size + 3) rb gb kb hb) := ⟨by omega, by omega, by omega, by omega, by omega, by omega, by omega, by omega, by omega, by omega, by omega, by omega, by omega⟩
  have I0 : RInv w w3 w1.heap.size (w1.heap.size + 1) (w1.heap.size + 2) (w1.heap.size + 3) rb gb kb hb 0 64 (mw xs) (fun _ => false) (fun _ => false) := ⟨by omega, R2.stays hb3 (Nat.le_refl _), D3, fun x h => by simp at h, fun x h => by simp at h, hb2'.trans (hb3.mono hb2'.size)⟩
  clear R2 D3 hb1 hb2 hb3 hb2' XH k1 k2 k3 k4 z1 z2 lR hlen hcap
  generalize w2.heap.size = zz at *
  generalize w1.heap.size + 1 = bp at *
  generalize w1.heap.size + 2 = bw at *
  generalize w1.heap.size + 3 = bh at *
  generalize w1.heap.size = sb at *
  go_wp2_with fail
  go_loopw [8] (fun iv wr => ∃ (j N : Nat) (m : Nat → Int) (wt ht : Int → Bool), j ≤ n ∧ iv = .int .i64 j ∧ RInv w wr sb bp bw bh rb gb kb hb j N m wt ht) (fun iv _ => n - (intOf iv).toNat)
  case atStart => exact ⟨0, 64, mw xs, _, _, by omega, rfl, I0⟩
  case round =>
    clear I0
    obtain ⟨j, N, m, wt, ht, hj, rfl, I⟩ := hrel
    have IH : Hid (RInv w wr sb bp bw bh rb gb kb hb j N m wt ht) := I
    clear I
    by_cases hlt : j < n
    · have hlt' : (j : Int) < n := by omega
      obtain ⟨ab, off, rfl, hcell⟩ := HC.out (by omega)
      have hcc : ∀ (k : Nat) (u : Value), (rcV (x j))[k]? = some u → wr.cell? ⟨ab, off + j * 7 + k, none⟩ = some u := fun k u hk => by
        have := hcell j hlt k u hk
        rw [IH.out.be.cell (World.block_lt_of_cell? _ _ this)]; exact this
      have ok := AH.out j hlt
      obtain ⟨a0, a1, s0, s1, v0, v1, p0, p1⟩ := ok
      clear hcell
      generalize x j = y at *
      obtain ⟨s, a, z, sg, vv, p, on⟩ := y
      have q0 := hcc 0 _ rfl
      have q1 := hcc 1 _ rfl
      have q2 := hcc 2 _ rfl
      have q3 := hcc 3 _ rfl
      have q4 := hcc 4 _ rfl
      have q5 := hcc 5 _ rfl
      have q6 := hcc 6 _ rfl
      rw [Nat.add_zero] at q0
      simp only at q0 q1 q2 q3 q4 q5 q6 a0 a1 s0 s1 v0 v1 p0 p1
      clear hcc HC AH
      have IA : Hid (RInv w (wr.alloc (.cells #[.string s, .int .u32 a, .int .i64 z, .bool sg, .int .u32 vv, .int .i64 p, .bool on] 42)) sb bp bw bh rb gb kb hb j N m wt ht) := IH.out.stays ((Below.refl _ _).alloc (Nat.le_refl _) _)
      have hN : N + 1 < maxLen := by have := IA.out.n1; unfold maxLen; omega
      have hz : wr.heap.size < (wr.alloc (.cells #[.string s, .int .u32 a, .int .i64 z, .bool sg, .int .u32 vv, .int .i64 p, .bool on] 42)).heap.size := by simp
      have lR := IH.out.R.lts
      have lD : ∀ k, k = rb ∨ k = gb ∨ k = kb ∨ k = hb → k < wr.heap.size := fun k hk => IH.out.D.lts hk
      have l1 := lD rb (by simp)
      have l2 := lD gb (by simp)
      have l3 := lD kb (by simp)
      have l4 := lD hb (by simp)
      obtain ⟨l5, l6, l7, l8⟩ := lR
      clear lD
      have hc0 : (wr.alloc (.cells #[.string s, .int .u32 a, .int .i64 z, .bool sg, .int .u32 vv, .int .i64 p, .bool on] 42)).cell? ⟨wr.heap.size, 0, none⟩ = some (.string s) := by simp
      have hc1 : (wr.alloc (.cells #[.string s, .int .u32 a, .int .i64 z, .bool sg, .int .u32 vv, .int .i64 p, .bool on] 42)).cell? ⟨wr.heap.size, 1, none⟩ = some (.int .u32 a) := by simp
      have hc2 : (wr.alloc (.cells #[.string s, .int .u32 a, .int .i64 z, .bool sg, .int .u32 vv, .int .i64 p, .bool on] 42)).cell? ⟨wr.heap.size, 2, none⟩ = some (.int .i64 z) := by simp
      have hc3 : (wr.alloc (.cells #[.string s, .int .u32 a, .int .i64 z, .bool sg, .int .u32 vv, .int .i64 p, .bool on] 42)).cell? ⟨wr.heap.size, 3, none⟩ = some (.bool sg) := by simp
      have hc4 : (wr.alloc (.cells #[.string s, .int .u32 a, .int .i64 z, .bool sg, .int .u32 vv, .int .i64 p, .bool on] 42)).cell? ⟨wr.heap.size, 4, none⟩ = some (.int .u32 vv) := by simp
      have hc5 : (wr.alloc (.cells #[.string s, .int .u32 a, .int .i64 z, .bool sg, .int .u32 vv, .int .i64 p, .bool on] 42)).cell? ⟨wr.heap.size, 5, none⟩ = some (.int .i64 p) := by simp
      have hc6 : (wr.alloc (.cells #[.string s, .int .u32 a, .int .i64 z, .bool sg, .int .u32 vv, .int .i64 p, .bool on] 42)).cell? ⟨wr.heap.size, 6, none⟩ = some (.bool on) := by simp
      go_upto_region 12 with fail
      clear q0 q1 q2 q3 q4 q5 q6
      generalize hWW : wr.alloc (.cells #[.string s, .int .u32 a, .int .i64 z, .bool sg, .int .u32 vv, .int .i64 p, .bool on] 42) = W at *
      clear hWW
      by_cases hk1 : (s.toList == [108, 111, 97, 100]) = true
      · have hs := rload_all (EH.out.stays IA.out.be) IA.out.R a z sg a0 a1 s0 s1
        have bd := ldM_bd IA.out.R.mb a z sg
        go_wp2_with fail
        refine hs.mono ?_
        rintro e w4 ⟨rfl, hb4⟩
        have I4 : Hid (RInv w w4 sb bp bw bh rb gb kb hb j N m wt ht) := IA.out.stays hb4
        have d1 := cell_stays hb4 (Nat.le_refl _) hc1
        have d2 := cell_stays hb4 (Nat.le_refl _) hc2
        have d3 := cell_stays hb4 (Nat.le_refl _) hc3
        have hr := mload_all I4.out.D a z sg a0 a1 s0 s1
        have hcd := coded_all (EH.out.stays I4.out.be) a z
        clear hs hb4 IA hc0 hc1 hc2 hc3 hc4 hc5 hc6
        go_wp2_with fail
        refine hr.mono ?_
        rintro e w5 ⟨rfl, rfl⟩
        clear hr
        go_wp2_with fail
        refine hcd.mono ?_
        rintro e w6 ⟨rfl, hb6⟩
        have I6 : Hid (RInv w w6 sb bp bw bh rb gb kb hb (j + 1) N m wt ht) := ⟨by have := I4.out.n1; omega, I4.out.R.stays hb6 (Nat.le_refl _), I4.out.D.stays hb6, I4.out.wo, I4.out.ho, I4.out.be.trans (hb6.mono I4.out.be.size)⟩
        have d1 := cell_stays hb6 (Nat.le_refl _) d1
        clear hcd hb6 d2 d3 I4
        obtain ⟨bd0, bd1⟩ := bd
        generalize ldM m a z sg = lv at *
        have hwd := watched_any I6.out.R a a0 a1
        have wo6 := I6.out.wo (a / 256)
        by_cases hp : a / 256 < 64
        · have k1 := I6.out.D.d.c1
          have hwc := I6.out.D.d.wc (a / 256).toNat (by omega)
          rw [show (((a / 256).toNat : Nat) : Int) = a / 256 by omega] at hwc
          have hq0 : 0 ≤ a / 256 := by omega
          clear wo6
          generalize hv : wt (a / 256) = bv at *
          clear hv
          cases bv
          all_goals
            go_wp2_with (go_at_call 24; refine hwd.mono ?_; rintro e w7 ⟨rfl, hb7⟩)
            go_roundw
            case rel => exact ⟨j + 1, N, m, wt, ht, by omega, by go_num, I6.out.stays hb7⟩
            case measure => simp [intOf]; omega
        · have hnp : ¬ a / 256 < 64 := hp
          have hf : wt (a / 256) = false := by
            cases hv : wt (a / 256) with
            | false => rfl
            | true => have := wo6 hv; omega
          rw [hf] at hwd
          clear wo6 hf
          go_wp2_with (go_at_call 24; refine hwd.mono ?_; rintro e w7 ⟨rfl, hb7⟩)
          go_roundw
          case rel => exact ⟨j + 1, N, m, wt, ht, by omega, by go_num, I6.out.stays hb7⟩
          case measure => simp [intOf]; omega
      have hk1' : (s.toList == [108, 111, 97, 100]) = false := by simpa using hk1
      clear hk1
      by_cases hk2 : (s.toList == [115, 116, 111, 114, 101]) = true
      · go_upto_region 21 with fail
        have IB : Hid (RInv w W.drew sb bp bw bh rb gb kb hb j N m wt ht) := IA.out.stays (below_drew (Below.refl _ _))
        have hz1 : wr.heap.size < W.drew.heap.size := hz
        refine wp_region_plan [(0, false), (1, false), (2, false), (3, false), (4, false), (5, false), (6, false), (8, false), (9, false), (10, false), (11, false), (12, false), (13, false), (14, false), (7, true), (15, true), (16, true), (17, false)] (fun W => W.cell? ⟨wr.heap.size, 1, none⟩ = some (.int .u32 a) ∧ W.cell? ⟨wr.heap.size, 2, none⟩ = some (.int .i64 z) ∧ W.cell? ⟨wr.heap.size, 4, none⟩ = some (.int .u32 vv)) (by kernel_rfl) (by kernel_rfl) (fun _ _ _ d _ h => by cases d <;> exact h) ⟨hc1, hc2, hc4⟩ ?_
        repeat (refine wpPlan_quiet (by rfl) (by rfl) (fun W hW => by (obtain ⟨k1, k2, k4⟩ := hW; go_simp; try with_reducible rfl)) (fun K hK => ?_); go_simp; refine hK _ ?_; clear hK K)
        refine wpPlan_serial (by rfl) (by rfl) (fun K hK => ?_)
        go_simp
        refine (rstore_all (EH.out.stays IB.out.be) IB.out.R a z vv a0 a1 s0 s1 v0 v1 hN).mono ?_
        rintro e w4 ⟨rfl, R4, K4⟩
        have n4 : ¬ (wr.heap.size = bp ∨ wr.heap.size = bh) := by omega
        have e1 : w4.cell? ⟨wr.heap.size, 1, none⟩ = some (.int .u32 a) := K4.cell hc1 n4
        have e2 : w4.cell? ⟨wr.heap.size, 2, none⟩ = some (.int .i64 z) := K4.cell hc2 n4
        have e4 : w4.cell? ⟨wr.heap.size, 4, none⟩ = some (.int .u32 vv) := K4.cell hc4 n4
        refine hK _ _ ⟨e1, e2, e4⟩ ?_
        clear hK K
        have ap := AP.out
        obtain ⟨ap1, ap2, ap3, ap4, ap5, ap6, ap7, ap8, ap9, ap10, ap11, ap12, ap13⟩ := ap
        have D4 := IB.out.D.keep K4 (fun k hk h => by omega)
        refine wpPlan_serial (by rfl) (by rfl) (fun K hK => ?_)
        go_simp
        refine (mstore_all D4 a z vv a0 a1 s0 s1 v0 v1).mono ?_
        rintro e w5 ⟨rfl, D5, K5⟩
        have n5 : ¬ (wr.heap.size = gb ∨ wr.heap.size = hb) := by omega
        have f1 : w5.cell? ⟨wr.heap.size, 1, none⟩ = some (.int .u32 a) := K5.cell e1 n5
        have f2 : w5.cell? ⟨wr.heap.size, 2, none⟩ = some (.int .i64 z) := K5.cell e2 n5
        have f4 : w5.cell? ⟨wr.heap.size, 4, none⟩ = some (.int .u32 vv) := K5.cell e4 n5
        have R5 := R4.keep K5 (fun k hk h => by omega)
        have K45 : Kept W.drew w5 (fun k => w.heap.size ≤ k) := (K4.mono (fun k h => by omega)).trans (K5.mono (fun k h => by omega)) (fun k _ h => h)
        have I5 : Hid (RInv w w5 sb bp bw bh rb gb kb hb (j + 1) (N + 2) (updM m a z vv) wt (htM wt ht a z)) := IB.out.go K45 (by omega) R5 D5 IB.out.wo (htM_out IB.out.wo IB.out.ho)
        refine hK _ _ ⟨f1, f2, f4⟩ ?_
        clear hK K D4 D5 K5 K4 R4 R5 K45 e1 e2 e4 n4 n5 IB ap1 ap2 ap3 ap4 ap5 ap6 ap7 ap8 ap9 ap10 ap11 ap12 ap13
        refine wpPlan_serial (by rfl) (by rfl) (fun K hK => ?_)
        go_simp
        refine (coded_all (EH.out.stays I5.out.be) a z).mono ?_
        rintro e w6 ⟨rfl, hb6⟩
        have I6 : Hid (RInv w w6 sb bp bw bh rb gb kb hb (j + 1) (N + 2) (updM m a z vv) wt (htM wt ht a z)) := I5.out.stays hb6
        have d1 := cell_stays hb6 (Nat.le_refl _) f1
        refine hK _ _ ⟨d1, cell_stays hb6 (Nat.le_refl _) f2, cell_stays hb6 (Nat.le_refl _) f4⟩ ?_
        clear hK K hb6 I5 f1 f2 f4 IA hc0 hc1 hc2 hc3 hc4 hc5 hc6
        repeat (refine wpPlan_quiet (by rfl) (by rfl) (fun W hW => by (obtain ⟨k1, k2, k4⟩ := hW; go_simp; try with_reducible rfl)) (fun K hK => ?_); go_simp; refine hK _ ?_; clear hK K)
        refine wpPlan_nil ?_
        have hwd := watched_any I6.out.R a a0 a1
        have wo6 := I6.out.wo (a / 256)
        by_cases hp : a / 256 < 64
        · have k1 := I6.out.D.d.c1
          have hwc := I6.out.D.d.wc (a / 256).toNat (by omega)
          rw [show (((a / 256).toNat : Nat) : Int) = a / 256 by omega] at hwc
          have hq0 : 0 ≤ a / 256 := by omega
          clear wo6
          generalize hv : wt (a / 256) = bv at *
          clear hv
          cases bv
          all_goals
            go_wp2_with (go_at_call 24; refine hwd.mono ?_; rintro e w7 ⟨rfl, hb7⟩)
            go_roundw
            case rel => exact ⟨j + 1, (N + 2), (updM m a z vv), wt, (htM wt ht a z), by omega, by go_num, I6.out.stays hb7⟩
            case measure => simp [intOf]; omega
        · have hnp : ¬ a / 256 < 64 := hp
          have hf : wt (a / 256) = false := by
            cases hv : wt (a / 256) with
            | false => rfl
            | true => have := wo6 hv; omega
          rw [hf] at hwd
          clear wo6 hf
          go_wp2_with (go_at_call 24; refine hwd.mono ?_; rintro e w7 ⟨rfl, hb7⟩)
          go_roundw
          case rel => exact ⟨j + 1, (N + 2), (updM m a z vv), wt, (htM wt ht a z), by omega, by go_num, I6.out.stays hb7⟩
          case measure => simp [intOf]; omega
      have hk2' : (s.toList == [115, 116, 111, 114, 101]) = false := by simpa using hk2
      clear hk2
      by_cases hk3 : (s.toList == [119, 97, 116, 99, 104]) = true
      · by_cases hpp : p < 0 ∨ 64 ≤ p
        · have hwn := watch_no (S 1) (EH.out.stays IA.out.be).c1 (.pointer (some ⟨sb, 0, none⟩)) p on hpp
          have hcd := coded_at (EH.out.stays IA.out.be) 1 (by omega)
          have hg : (decide (p < 0) || decide (64 ≤ p)) = true := by simpa using hpp
          rcases hpp with hpp | hpp
          all_goals
            try have hpp' : ¬ p < 0 := by omega
            clear hg
            go_wp2_with fail
            refine hwn.mono ?_
            rintro e w5 ⟨rfl, rfl⟩
            go_wp2_with fail
            refine hcd.mono ?_
            rintro e w6 ⟨rfl, hb6⟩
            have I6 : Hid (RInv w w6 sb bp bw bh rb gb kb hb (j + 1) N m wt ht) := ⟨by have := IA.out.n1; omega, IA.out.R.stays hb6 (Nat.le_refl _), IA.out.D.stays hb6, IA.out.wo, IA.out.ho, IA.out.be.trans (hb6.mono IA.out.be.size)⟩
            have d1 := cell_stays hb6 (Nat.le_refl _) hc1
            clear hwn hcd hb6 IA hc0 hc1 hc2 hc3 hc4 hc5 hc6
            have hwd := watched_any I6.out.R a a0 a1
            have wo6 := I6.out.wo (a / 256)
            by_cases hp : a / 256 < 64
            · have k1 := I6.out.D.d.c1
              have hwc := I6.out.D.d.wc (a / 256).toNat (by omega)
              rw [show (((a / 256).toNat : Nat) : Int) = a / 256 by omega] at hwc
              have hq0 : 0 ≤ a / 256 := by omega
              clear wo6
              generalize hv : wt (a / 256) = bv at *
              clear hv
              cases bv
              all_goals
                go_wp2_with (go_at_call 24; refine hwd.mono ?_; rintro e w7 ⟨rfl, hb7⟩)
                go_roundw
                case rel => exact ⟨j + 1, N, m, wt, ht, by omega, by go_num, I6.out.stays hb7⟩
                case measure => simp [intOf]; omega
            · have hnp : ¬ a / 256 < 64 := hp
              have hf : wt (a / 256) = false := by
                cases hv : wt (a / 256) with
                | false => rfl
                | true => have := wo6 hv; omega
              rw [hf] at hwd
              clear wo6 hf
              go_wp2_with (go_at_call 24; refine hwd.mono ?_; rintro e w7 ⟨rfl, hb7⟩)
              go_roundw
              case rel => exact ⟨j + 1, N, m, wt, ht, by omega, by go_num, I6.out.stays hb7⟩
              case measure => simp [intOf]; omega
        · have h0p : 0 ≤ p := by omega
          have h64 : p < 64 := by omega
          have g0 : ¬ p < 0 := by omega
          have g1 : ¬ 64 ≤ p := by omega
          have c1 := IA.out.D.d.c1
          have hkc := IA.out.D.d.wc p.toNat (by omega)
          have hkf := IA.out.D.fk p.toNat
          rw [show ((p.toNat : Nat) : Int) = p by omega] at hkc
          clear hpp
          go_upto_region 27 with fail
          have ap := AP.out
          obtain ⟨ap1, ap2, ap3, ap4, ap5, ap6, ap7, ap8, ap9, ap10, ap11, ap12, ap13⟩ := ap
          have D4 : DMem ((W.setCell ⟨kb, p.toNat, none⟩ (.bool on)).drew) rb gb kb hb m (wtS wt p on) ht := (IA.out.D.flagK p.toNat (by omega) on (wtS wt p on) (fun q hq => by
            unfold wtS
            by_cases e : q = p.toNat
            · rw [if_pos e, if_pos (by omega)]
            · rw [if_neg e, if_neg (by omega)])).blk fun k _ => rfl
          have K4 : Kept W ((W.setCell ⟨kb, p.toNat, none⟩ (.bool on)).drew) (· = kb) := (Kept.setCell W ⟨kb, p.toNat, none⟩ _ (· = kb) rfl).trans (Kept.drew _ (· = kb)) (fun k _ h => h)
          have R4 := IA.out.R.keep K4 (fun k hk h => by omega)
          have n4 : ¬ (wr.heap.size = kb) := by omega
          have e1 : ((W.setCell ⟨kb, p.toNat, none⟩ (.bool on)).drew).cell? ⟨wr.heap.size, 1, none⟩ = some (.int .u32 a) := K4.cell hc1 n4
          have e5 : ((W.setCell ⟨kb, p.toNat, none⟩ (.bool on)).drew).cell? ⟨wr.heap.size, 5, none⟩ = some (.int .i64 p) := K4.cell hc5 n4
          have e6 : ((W.setCell ⟨kb, p.toNat, none⟩ (.bool on)).drew).cell? ⟨wr.heap.size, 6, none⟩ = some (.bool on) := K4.cell hc6 n4
          have hwn := watch_in R4 ap13 p h0p h64 on (by omega)
          refine wp_region_phase 9 [(0, 0), (1, 0), (2, 0), (3, 1), (4, 0), (5, 1), (6, 0), (7, 1), (8, 0), (9, 2)] (fun W => W.cell? ⟨rb, 1, none⟩ = some (.slice (some ⟨kb, 0, none⟩) 64 64) ∧ W.cell? ⟨wr.heap.size, 5, none⟩ = some (.int .i64 p) ∧ W.cell? ⟨wr.heap.size, 6, none⟩ = some (.bool on)) (by kernel_rfl) (by kernel_rfl) (fun _ _ _ d _ h => by cases d <;> exact h) ⟨c1, hc5, hc6⟩ ?_
          repeat (first | (refine wpPlanZ_free (by rfl) (by rfl) (fun W => by (go_simp; try with_reducible rfl)) (fun K hK => ?_); go_simp; refine hK _ ?_; clear hK K) | (refine wpPlanZ_quiet (by rfl) (by rfl) (fun W hW => by (obtain ⟨k1, k5, k6⟩ := hW; go_simp; try with_reducible rfl)) (fun K hK => ?_); go_simp; refine hK _ ?_; clear hK K))
          refine wpPlanZ_serial (by rfl) (by rfl) (fun K hK => ?_)
          go_simp
          refine hK _ _ (fun h => by simp at h) ?_
          clear hK K
          refine wpPlanZ_nil ?_
          generalize hV : (W.setCell ⟨kb, p.toNat, none⟩ (.bool on)).drew = V at *
          clear hV hkc hkf c1
          go_wp2_with fail
          refine hwn.mono ?_
          rintro e w5 ⟨rfl, R5, G5⟩
          have K5 := kept_grown G5
          have n5 : ¬ (wr.heap.size = bw) := by omega
          have f1 : w5.cell? ⟨wr.heap.size, 1, none⟩ = some (.int .u32 a) := K5.cell e1 n5
          have D5 := D4.keep K5 (fun k hk h => by omega)
          have K45 : Kept W w5 (fun k => w.heap.size ≤ k) := (K4.mono (fun k h => by omega)).trans (K5.mono (fun k h => by omega)) (fun k _ h => h)
          have I5 : Hid (RInv w w5 sb bp bw bh rb gb kb hb (j + 1) (N + 1) m (wtS wt p on) ht) := IA.out.go K45 (by omega) R5 D5 (wtS_out h0p h64 IA.out.wo) IA.out.ho
          have hcd := coded_nil w5
          clear hwn R5 G5 K5 D5 D4 K4 R4 K45 e1 e5 e6 n4 n5 IA hc0 hc1 hc2 hc3 hc4 hc5 hc6 ap1 ap2 ap3 ap4 ap5 ap6 ap7 ap8 ap9 ap10 ap11 ap12 ap13
          go_wp2_with fail
          refine hcd.mono ?_
          rintro e w6 ⟨rfl, rfl⟩
          have I6 := I5
          have d1 := f1
          clear hcd I5 f1
          have hwd := watched_any I6.out.R a a0 a1
          have wo6 := I6.out.wo (a / 256)
          by_cases hp : a / 256 < 64
          · have k1 := I6.out.D.d.c1
            have hwc := I6.out.D.d.wc (a / 256).toNat (by omega)
            rw [show (((a / 256).toNat : Nat) : Int) = a / 256 by omega] at hwc
            have hq0 : 0 ≤ a / 256 := by omega
            clear wo6
            generalize hv : (wtS wt p on) (a / 256) = bv at *
            clear hv
            cases bv
            all_goals
              go_wp2_with (go_at_call 24; refine hwd.mono ?_; rintro e w7 ⟨rfl, hb7⟩)
              go_roundw
              case rel => exact ⟨j + 1, (N + 1), m, (wtS wt p on), ht, by omega, by go_num, I6.out.stays hb7⟩
              case measure => simp [intOf]; omega
          · have hnp : ¬ a / 256 < 64 := hp
            have hf : (wtS wt p on) (a / 256) = false := by
              cases hv : (wtS wt p on) (a / 256) with
              | false => rfl
              | true => have := wo6 hv; omega
            rw [hf] at hwd
            clear wo6 hf
            go_wp2_with (go_at_call 24; refine hwd.mono ?_; rintro e w7 ⟨rfl, hb7⟩)
            go_roundw
            case rel => exact ⟨j + 1, (N + 1), m, (wtS wt p on), ht, by omega, by go_num, I6.out.stays hb7⟩
            case measure => simp [intOf]; omega
      have hk3' : (s.toList == [119, 97, 116, 99, 104]) = false := by simpa using hk3
      clear hk3
      have hh := hits_any IA.out.R (by have := IA.out.n1; omega)
      have ap := AP.out
      obtain ⟨ap1, ap2, ap3, ap4, ap5, ap6, ap7, ap8, ap9, ap10, ap11, ap12, ap13⟩ := ap
      go_wp2_with fail
      refine hh.mono ?_
      rintro e w4 ⟨v4, ss, DD, rfl, hD4, hown4, hp4, hrow4, _, R4, z4, b4, o4, t4, u4⟩
      have K4 : Kept W w4 (· = bh) := ⟨o4, t4, u4, z4, fun k hk hx => b4 k hk hx⟩
      have hso := hits_sorted hown4 hD4 IA.out.ho hp4
      rw [hso] at hrow4
      have hll : ss.length = (hitL ht 64).length := by rw [← hso]; simp
      rw [hll] at hrow4
      have V4 : Hid (IntsV w4 v4 (hitL ht 64)) := IntsV.of_own hrow4
      have VB : ∀ b, v4.ownBlock = some b → W.heap.size ≤ b := fun b h => (hrow4.lt b h).1
      have D4 := IA.out.D.keep K4 (fun k hk h => by omega)
      have e1 : w4.cell? ⟨wr.heap.size, 1, none⟩ = some (.int .u32 a) := K4.cell hc1 (by show ¬ wr.heap.size = bh; omega)
      have hdh := hitsD_any D4
      clear hh hso hll hrow4 hp4 hown4 hD4 z4 b4 o4 t4 u4
      go_wp2_with fail
      refine hdh.mono ?_
      rintro e w5 ⟨v5, rfl, hrow5, K5, D5⟩
      have V5 : Hid (IntsV w5 v5 (hitL ht 64)) := IntsV.of_own hrow5
      have V45 : Hid (IntsV w5 v4 (hitL ht 64)) := V4.out.kept K5 (fun b hb2 e => by have := VB b hb2; omega)
      have R5 := R4.keep K5 (fun k hk h => by omega)
      have K45 : Kept W w5 (fun k => w.heap.size ≤ k) := (K4.mono (fun k h => by omega)).trans (K5.mono (fun k h => by omega)) (fun k _ h => h)
      have I5 : Hid (RInv w w5 sb bp bw bh rb gb kb hb (j + 1) N m wt (fun _ => false)) := IA.out.go K45 (by omega) R5 D5 IA.out.wo (fun x h => by simp at h)
      have f1 : w5.cell? ⟨wr.heap.size, 1, none⟩ = some (.int .u32 a) := K5.cell e1 (by show ¬ wr.heap.size = hb; omega)
      have hsi := sameInts_any V45.out V5.out (by have := hitL_len ht 64; omega)
      clear hdh hrow5 K5 D5 R5 R4 D4 K4 K45 VB e1 IA hc0 hc1 hc2 hc3 hc4 hc5 hc6 ap1 ap2 ap3 ap4 ap5 ap6 ap7 ap8 ap9 ap10 ap11 ap12 ap13
      go_wp2_with fail
      refine hsi.mono ?_
      rintro e w6 ⟨rfl, hb6⟩
      have I6 : Hid (RInv w w6 sb bp bw bh rb gb kb hb (j + 1) N m wt (fun _ => false)) := I5.out.stays hb6
      have d1 := cell_stays hb6 (Nat.le_refl _) f1
      clear hsi hb6 I5 f1 V4 V5 V45
      have hwd := watched_any I6.out.R a a0 a1
      have wo6 := I6.out.wo (a / 256)
      by_cases hp : a / 256 < 64
      · have k1 := I6.out.D.d.c1
        have hwc := I6.out.D.d.wc (a / 256).toNat (by omega)
        rw [show (((a / 256).toNat : Nat) : Int) = a / 256 by omega] at hwc
        have hq0 : 0 ≤ a / 256 := by omega
        clear wo6
        generalize hv : wt (a / 256) = bv at *
        clear hv
        cases bv
        all_goals
          go_wp2_with (go_at_call 24; refine hwd.mono ?_; rintro e w7 ⟨rfl, hb7⟩)
          go_roundw
          case rel => exact ⟨j + 1, N, m, wt, (fun _ => false), by omega, by go_num, I6.out.stays hb7⟩
          case measure => simp [intOf]; omega
      · have hnp : ¬ a / 256 < 64 := hp
        have hf : wt (a / 256) = false := by
          cases hv : wt (a / 256) with
          | false => rfl
          | true => have := wo6 hv; omega
        rw [hf] at hwd
        clear wo6 hf
        go_wp2_with (go_at_call 24; refine hwd.mono ?_; rintro e w7 ⟨rfl, hb7⟩)
        go_roundw
        case rel => exact ⟨j + 1, N, m, wt, (fun _ => false), by omega, by go_num, I6.out.stays hb7⟩
        case measure => simp [intOf]; omega
    · have hlt' : ¬ (j : Int) < n := by omega
      clear HC AH
      have DLT : Hid (∀ k, k = rb ∨ k = gb ∨ k = kb ∨ k = hb → k < wr.heap.size) := fun k hk => IH.out.D.lts hk
      have lR := IH.out.R.lts
      have l1 := IH.out.D.lts (k := rb) (by simp)
      have l2 := IH.out.D.lts (k := gb) (by simp)
      have ap := AP.out
      obtain ⟨ap1, ap2, ap3, ap4, ap5, ap6, ap7, ap8, ap9, ap10, ap11, ap12, ap13⟩ := ap
      have hN : N ≤ 1000000 := by have := IH.out.n1; omega
      have hzw := IH.out.be.size
      have hcp := copy_any IH.out.R
      go_upto_region 37 with (go_at_call 11; refine hcp.mono ?_; rintro e w4 ⟨sb', bp', bw', bh', rfl, R4, hb4, y1, y2, y3, y4⟩)
      have I4 : Hid (RInv w w4.drew sb bp bw bh rb gb kb hb j N m wt ht) := IH.out.stays (below_drew hb4)
      have R4H : Hid (RamIs w4.drew sb' bp' bw' bh' N m wt ht) := R4.stays (below_drew (Below.refl _ _)) (Nat.le_refl _)
      have l3 := hb4.size
      obtain ⟨l5, l6, l7, l8⟩ := lR
      clear hcp hb4 R4 IH
      refine wp_region_phase 30 [(0, 0), (1, 0), (2, 0), (3, 0), (5, 0), (6, 0), (7, 0), (8, 1), (4, 2), (9, 2), (10, 0), (11, 0), (12, 0), (13, 0), (15, 0), (16, 0), (17, 0), (18, 1), (14, 2), (19, 2), (20, 0), (21, 0), (22, 0), (23, 0), (25, 0), (24, 2), (26, 2), (27, 2), (28, 0), (29, 0)] (fun W => W.cell? ⟨rb, 0, none⟩ = some (.slice (some ⟨gb, 0, none⟩) 4096 4096)) (by kernel_rfl) (by kernel_rfl) (fun _ _ _ d _ h => by cases d <;> exact h) I4.out.D.d.c0 ?_
      repeat (first | (refine wpPlanZ_free (by rfl) (by rfl) (fun W => by (go_simp; try with_reducible rfl)) (fun K hK => ?_); go_simp; refine hK _ ?_; clear hK K) | (refine wpPlanZ_quiet (by rfl) (by rfl) (fun W hW => by (go_simp; try with_reducible rfl)) (fun K hK => ?_); go_simp; refine hK _ ?_; clear hK K))
      refine wpPlanZ_serial (by rfl) (by rfl) (fun K hK => ?_)
      go_simp
      refine (words_ex I4.out.R).mono ?_
      rintro e w5 ⟨g5, rfl, hc5, hb5, _⟩
      have I5 : Hid (RInv w w5 sb bp bw bh rb gb kb hb j N m wt ht) := I4.out.stays hb5
      have R5 : Hid (RamIs w5 sb' bp' bw' bh' N m wt ht) := R4H.out.stays hb5 (Nat.le_refl _)
      have hal := alike_eq w5 g5 0 gb 0 4096 4096 4096 m (by omega) (fun i hi => by rw [Nat.zero_add]; exact hc5 i hi) (fun i hi => by rw [Nat.zero_add]; exact I5.out.D.d.cell i hi)
      have z5 : w4.heap.size ≤ w5.heap.size := hb5.size
      refine hK _ _ (fun _ => I5.out.D.d.c0) ?_
      clear hK K hc5 hb5 I4 R4H
      refine wpPlanZ_serial (by rfl) (by rfl) (fun K hK => ?_)
      go_simp
      refine hal.mono ?_
      rintro e w6 ⟨rfl, q6, rfl⟩
      have I6 : Hid (RInv w (w5.drewN q6) sb bp bw bh rb gb kb hb j N m wt ht) := I5.out.stays (below_drewN (Below.refl _ _) q6)
      have R6 : Hid (RamIs (w5.drewN q6) sb' bp' bw' bh' N m wt ht) := R5.out.stays (below_drewN (Below.refl _ _) q6) (Nat.le_refl _)
      have z6 : w5.heap.size ≤ (w5.drewN q6).heap.size := (below_drewN (Below.refl w5.heap.size w5) q6).size
      refine hK _ _ (fun _ => I6.out.D.d.c0) ?_
      clear hK K hal I5 R5
      generalize w5.drewN q6 = w6 at *
      repeat (first | (refine wpPlanZ_free (by rfl) (by rfl) (fun W => by (go_simp; try with_reducible rfl)) (fun K hK => ?_); go_simp; refine hK _ ?_; clear hK K) | (refine wpPlanZ_quiet (by rfl) (by rfl) (fun W hW => by (go_simp; try with_reducible rfl)) (fun K hK => ?_); go_simp; refine hK _ ?_; clear hK K))
      refine wpPlanZ_serial (by rfl) (by rfl) (fun K hK => ?_)
      go_simp
      refine (words_ex R6.out).mono ?_
      rintro e w7 ⟨g7, rfl, hc7, hb7, _⟩
      have I7 : Hid (RInv w w7 sb bp bw bh rb gb kb hb j N m wt ht) := I6.out.stays hb7
      have R7 : Hid (RamIs w7 sb' bp' bw' bh' N m wt ht) := R6.out.stays hb7 (Nat.le_refl _)
      have hal := alike_eq w7 g7 0 gb 0 4096 4096 4096 m (by omega) (fun i hi => by rw [Nat.zero_add]; exact hc7 i hi) (fun i hi => by rw [Nat.zero_add]; exact I7.out.D.d.cell i hi)
      have z7 := hb7.size
      refine hK _ _ (fun _ => I7.out.D.d.c0) ?_
      clear hK K hc7 hb7 I6 R6
      refine wpPlanZ_serial (by rfl) (by rfl) (fun K hK => ?_)
      go_simp
      refine hal.mono ?_
      rintro e w8 ⟨rfl, q8, rfl⟩
      have I8 : Hid (RInv w (w7.drewN q8) sb bp bw bh rb gb kb hb j N m wt ht) := I7.out.stays (below_drewN (Below.refl _ _) q8)
      have R8 : Hid (RamIs (w7.drewN q8) sb' bp' bw' bh' N m wt ht) := R7.out.stays (below_drewN (Below.refl _ _) q8) (Nat.le_refl _)
      have z8 : w7.heap.size ≤ (w7.drewN q8).heap.size := (below_drewN (Below.refl w7.heap.size w7) q8).size
      refine hK _ _ (fun _ => I8.out.D.d.c0) ?_
      clear hK K hal I7 R7
      generalize w7.drewN q8 = w8 at *
      repeat (first | (refine wpPlanZ_free (by rfl) (by rfl) (fun W => by (go_simp; try with_reducible rfl)) (fun K hK => ?_); go_simp; refine hK _ ?_; clear hK K) | (refine wpPlanZ_quiet (by rfl) (by rfl) (fun W hW => by (go_simp; try with_reducible rfl)) (fun K hK => ?_); go_simp; refine hK _ ?_; clear hK K))
      refine wpPlanZ_serial (by rfl) (by rfl) (fun K hK => ?_)
      go_simp
      refine (hits_any R8.out hN).mono ?_
      rintro e w9 ⟨v9, ss9, DD9, rfl, hD9, hown9, hp9, hrow9, _, _, z9, b9, o9, t9, u9⟩
      have K9 : Kept w8 w9 (· = bh') := ⟨o9, t9, u9, z9, fun k hk hx => b9 k hk hx⟩
      have hso := hits_sorted hown9 hD9 I8.out.ho hp9
      rw [hso] at hrow9
      have hll : ss9.length = (hitL ht 64).length := by rw [← hso]; simp
      rw [hll] at hrow9
      have V9 : Hid (IntsV w9 v9 (hitL ht 64)) := IntsV.of_own hrow9
      have VB : ∀ b, v9.ownBlock = some b → w8.heap.size ≤ b := fun b h => (hrow9.lt b h).1
      have R9 : Hid (RamIs w9 sb bp bw bh N m wt ht) := I8.out.R.keep K9 (fun k hk h => by omega)
      have D9 : Hid (DMem w9 rb gb kb hb m wt ht) := I8.out.D.keep K9 (fun k hk h => by
        have := I8.out.D.lts hk
        have h1 : k < wr.heap.size := by
          rcases hk with e | e | e | e
          · omega
          · omega
          · have := DLT.out k (by simp [e]); omega
          · have := DLT.out k (by simp [e]); omega
        omega)
      have B9 : Hid (Below w.heap.size w w9) := K9.below I8.out.be (Nat.le_refl _) (fun k hk h => by omega)
      have ho := I8.out.ho
      refine hK _ _ (fun _ => D9.out.d.c0) ?_
      clear hK K hso hll hrow9 hp9 hown9 hD9 z9 b9 o9 t9 u9 K9 I8 R8
      refine wpPlanZ_serial (by rfl) (by rfl) (fun K hK => ?_)
      go_simp
      refine (hits_any R9.out hN).mono ?_
      rintro e w10 ⟨v10, ss9, DD9, rfl, hD9, hown9, hp9, hrow9, _, _, z9, b9, o9, t9, u9⟩
      have K9 : Kept w9 w10 (· = bh) := ⟨o9, t9, u9, z9, fun k hk hx => b9 k hk hx⟩
      have hso := hits_sorted hown9 hD9 ho hp9
      rw [hso] at hrow9
      have hll : ss9.length = (hitL ht 64).length := by rw [← hso]; simp
      rw [hll] at hrow9
      have V10 : Hid (IntsV w10 v10 (hitL ht 64)) := IntsV.of_own hrow9
      have V9' : Hid (IntsV w10 v9 (hitL ht 64)) := V9.out.kept K9 (fun b hb2 e => by have := VB b hb2; omega)
      have c10 : w10.cell? ⟨rb, 0, none⟩ = some (.slice (some ⟨gb, 0, none⟩) 4096 4096) := K9.cell D9.out.d.c0 (by show ¬ rb = bh; omega)
      have B10 : Hid (Below w.heap.size w w10) := K9.below B9.out (Nat.le_refl _) (fun k hk h => by omega)
      refine hK _ _ (fun _ => c10) ?_
      clear hK K hso hll hrow9 hp9 hown9 hD9 z9 b9 o9 t9 u9 K9 B9 D9 R9 V9
      refine wpPlanZ_serial (by rfl) (by rfl) (fun K hK => ?_)
      go_simp
      refine (sameInts_any V9'.out V10.out (by have := hitL_len ht 64; omega)).mono ?_
      rintro e w11 ⟨rfl, hb11⟩
      have B11 : Hid (Below w.heap.size w w11) := B10.out.trans (hb11.mono B10.out.size)
      refine hK _ _ (fun _ => cell_stays hb11 (Nat.le_refl _) c10) ?_
      clear hK K hb11 B10 V9' V10 c10
      repeat (first | (refine wpPlanZ_free (by rfl) (by rfl) (fun W => by (go_simp; try with_reducible rfl)) (fun K hK => ?_); go_simp; refine hK _ ?_; clear hK K) | (refine wpPlanZ_quiet (by rfl) (by rfl) (fun W hW => by (go_simp; try with_reducible rfl)) (fun K hK => ?_); go_simp; refine hK _ ?_; clear hK K))
      refine wpPlanZ_nil ?_
      go_wp2
      go_ret
      exact ⟨rfl, B11.out⟩
end Go.Proofs.YtmfhimphlackiaaDoor
