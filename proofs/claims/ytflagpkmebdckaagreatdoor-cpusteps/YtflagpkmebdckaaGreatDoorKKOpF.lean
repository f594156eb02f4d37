/-
  What package code's search for an operation answers: the one whose first word is what tells a word, or none.
-/
import Derived.Handy
import Derived.Deep.RegionWith
import Derived.Test.YtflagpkmebdckaaGreatDoorKNum
import Derived.Test.YtflagpkmebdckaaGreatDoorKKEncode
import Derived.Test.YtflagpkmebdckaaGreatDoorQCpu3
namespace Go.Proofs.YtflagpkmebdckaaGreatDoor.K
open Go.RowKit Go.Extern.Stop Go.Stop Go.Extern
open Num Tab
set_option linter.unusedVariables false
set_option maxHeartbeats 1000000 in
theorem clos_any (b : Nat) (key : Int) (j : Nat) (hj : j < 53) (w : World) (t : FT w) (hc : w.cell? ⟨b, 0, none⟩ = some (.int .u32 key)) :
    Calls Tryz.prog 216 #[.int .i64 j, .pointer (some ⟨b, 0, none⟩)] w fun e w' => e = .returned (.bool (decide (key ≤ fst (1 + j)))) ∧ ∃ n, w' = w.drewN n := by
  have g := t (1 + j) (by omega)
  have HT : Hid (FT w) := t
  clear t
  have j0 : (0 : Int) ≤ j := by omega
  have j1 : (j : Int) < 53 := by omega
  go_enter Tryz.func216, Tryz.ntmps216
  go_wp2_with fail
  go_region
  go_wp2
  go_ret
  exact ⟨rfl, 1, rfl⟩
set_option maxHeartbeats 2000000 in
theorem search_any (b : Nat) (key : Int) (w : World) (t : FT w) (hc : w.cell? ⟨b, 0, none⟩ = some (.int .u32 key)) :
    Calls Tryz.prog 215 #[.int .i64 53, .func (.func 216) #[] #[.pointer (some ⟨b, 0, none⟩)]] w fun e w' => ∃ r : Nat, e = .returned (.int .i64 r) ∧ r ≤ 53 ∧ (∀ x, x < r → fst (1 + x) < key) ∧ (∀ x, r ≤ x → x < 53 → key ≤ fst (1 + x)) ∧ ∃ n, w' = w.drewN n := by
  have HT : Hid (FT w) := t
  clear t
  go_enter Tryz.func215, Tryz.ntmps215
  go_wp2
  go_loopw [5, 6] (fun i j wr => ∃ p q : Nat, i = .int .i64 p ∧ j = .int .i64 q ∧ p ≤ q ∧ q ≤ 53 ∧ Hid ((∀ x, x < p → fst (1 + x) < key) ∧ (∀ x, q ≤ x → x < 53 → key ≤ fst (1 + x))) ∧ ∃ n, wr = w.drewN n) (fun i j _ => (intOf j).toNat - (intOf i).toNat)
  case atStart => exact ⟨0, 53, rfl, rfl, by omega, by omega, ⟨fun x hx => by omega, fun x h1 h2 => by omega⟩, 0, rfl⟩
  case round =>
    obtain ⟨p, q, rfl, rfl, hpq, hq, HI, n, rfl⟩ := hrel
    by_cases hlt : (p : Int) < q
    · go_wp2_with fail
      obtain ⟨m, hm, hm1, hm2⟩ : ∃ m : Nat, ((p : Int) + q) / 2 = m ∧ p ≤ m ∧ m < q := ⟨(p + q) / 2, by omega, by omega, by omega⟩
      rw [hm]
      clear hm
      refine (clos_any b key m (by omega) _ (FT.drewN HT.out n) (by simpa using hc)).mono ?_
      rintro e w1 ⟨rfl, n1, rfl⟩
      by_cases hk : key ≤ fst (1 + m)
      · go_wp2
        go_roundw
        case rel => exact ⟨p, m, rfl, rfl, hm1, by omega, ⟨HI.out.1, fun x h1 h2 => Int.le_trans hk (fst_mono x h2 m h1)⟩, n + n1, by simp⟩
        case measure => simp [intOf]; omega
      · have hk' : decide (key ≤ fst (1 + m)) = false := by simpa using hk
        go_wp2
        go_roundw
        case rel => exact ⟨m + 1, q, by go_num, rfl, by omega, hq, ⟨fun x h1 => by have := fst_mono m (by omega) x (by omega); omega, HI.out.2⟩, n + n1, by simp⟩
        case measure => simp [intOf]; omega
    · have e : p = q := by omega
      subst e
      go_wp2
      go_ret
      exact ⟨p, rfl, hq, HI.out.1, HI.out.2, n, rfl⟩
set_option maxHeartbeats 4000000 in
/-- from the search on -/
theorem oper_any (v : Int) (h0 : 0 ≤ v) (h1 : v < 4294967296) (w : World) (t : FT w) :
    Calls Tryz.prog 154 #[.int .u32 v] w fun e w' => ∃ k : Nat, e = .returned (.int .i64 k) ∧ IsOp (key v) k ∧ Below w.heap.size w w' := by
  have g1 : w.cell? ⟨10, 1, none⟩ = some (.int .u32 0) := t 1 (by omega)
  have g43 : w.cell? ⟨10, 43, none⟩ = some (.int .u32 1073741824) := t 43 (by omega)
  have hz : 10 < w.heap.size := cell_lt g1
  have HT : Hid (FT w) := t
  clear t
  have e1 := and_major v h0 h1
  have e2 := and_mm v h0 h1
  have e3 := and_msm v h0 h1
  have hmf : ∀ (fn : Fn) (first cap : Array Value) (w : World), (Instr.makeFunc fn first cap).run Tryz.prog w = .ok (.func fn first cap) w := fun _ _ _ _ => rfl
  by_cases c0 : v / 67108864 = 0
  · have hk : Hid (key v = v % 64) := by show key v = _; unfold key; rw [if_pos c0]
    rw [c0] at e1 e2 e3
    simp only [Int.zero_mul, Int.zero_add] at e1 e2 e3
    generalize hK : v % 64 = K at *
    clear e3 c0 hK
    go_enter Tryz.func154, Tryz.ntmps154
    go_wp2_with fail
    have hbA : Below w.heap.size w (w.alloc (.cells #[.int .u32 K] 22)) := (Below.refl _ _).alloc (Nat.le_refl _) _
    have HA := FT.stays HT.out hbA (Nat.le_refl _)
    refine (search_any w.heap.size K _ HA (by simp)).mono ?_
    rintro e w1 ⟨r, rfl, hr, i1, i2, n, rfl⟩
    have I : Hid ((∀ x, x < r → fst (1 + x) < K) ∧ (∀ x, r ≤ x → x < 53 → K ≤ fst (1 + x))) := ⟨i1, i2⟩
    clear i1 i2
    have hr0 : (0 : Int) ≤ r := by omega
    have hr1 : (r : Int) ≤ 53 := by omega
    by_cases hq : r = 53
    · have hg : ((1 : Int) + r == 54) = true := by simp; omega
      go_wp2_with fail
      go_quiet (fail)
      go_wp2
      go_ret
      refine ⟨0, rfl, ?_, by first | exact below_drewN (below_drewN hbA _) _ | exact (below_drewN hbA _).drew | exact below_drewN hbA _⟩
      rw [hk.out]; exact isOp_of K r hr I.out.1 I.out.2 (Or.inl hq)
    · have hg : ((1 : Int) + r == 54) = false := by simp; omega
      have hr2 : (r : Int) < 53 := by omega
      have hc : w.cell? ⟨10, 1 + r, none⟩ = some (.int .u32 (fst (1 + r))) := HT.out (1 + r) (by omega)
      by_cases he : fst (1 + r) = K
      · have hn : (fst (1 + r) != K) = false := by simpa using he
        go_wp2_with fail
        go_region
        go_wp2
        go_ret
        refine ⟨1 + r, by go_num, ?_, by first | exact below_drewN (below_drewN hbA _) _ | exact (below_drewN hbA _).drew | exact below_drewN hbA _⟩
        rw [hk.out]; exact Or.inl ⟨by omega, by omega, he⟩
      · have hn : (fst (1 + r) != K) = true := by simpa using he
        go_wp2_with fail
        go_region
        go_wp2
        go_ret
        refine ⟨0, rfl, ?_, by first | exact below_drewN (below_drewN hbA _) _ | exact (below_drewN hbA _).drew | exact below_drewN hbA _⟩
        rw [hk.out]; exact isOp_of K r hr I.out.1 I.out.2 (Or.inr he)
  by_cases c1 : v / 67108864 = 16
  · have hk : Hid (key v = 1073741824 + v / 2097152 % 32 * 2097152 + v % 64) := by show key v = _; unfold key; rw [if_neg c0, if_pos c1]
    rw [c1] at e1 e2 e3
    replace e1 : bits .and .u32 v 4227858432 = 1073741824 := by omega
    replace e3 : bits .and .u32 v 4292870207 = 1073741824 + v / 2097152 % 32 * 2097152 + v % 64 := by omega
    generalize hK : 1073741824 + v / 2097152 % 32 * 2097152 + v % 64 = K at *
    clear e2 c0 c1 hK
    go_enter Tryz.func154, Tryz.ntmps154
    go_wp2_with fail
    have hbA : Below w.heap.size w (w.alloc (.cells #[.int .u32 K] 22)) := (Below.refl _ _).alloc (Nat.le_refl _) _
    have HA := FT.stays HT.out hbA (Nat.le_refl _)
    refine (search_any w.heap.size K _ HA (by simp)).mono ?_
    rintro e w1 ⟨r, rfl, hr, i1, i2, n, rfl⟩
    have I : Hid ((∀ x, x < r → fst (1 + x) < K) ∧ (∀ x, r ≤ x → x < 53 → K ≤ fst (1 + x))) := ⟨i1, i2⟩
    clear i1 i2
    have hr0 : (0 : Int) ≤ r := by omega
    have hr1 : (r : Int) ≤ 53 := by omega
    by_cases hq : r = 53
    · have hg : ((1 : Int) + r == 54) = true := by simp; omega
      go_wp2_with fail
      go_quiet (fail)
      go_wp2
      go_ret
      refine ⟨0, rfl, ?_, by first | exact below_drewN (below_drewN hbA _) _ | exact (below_drewN hbA _).drew | exact below_drewN hbA _⟩
      rw [hk.out]; exact isOp_of K r hr I.out.1 I.out.2 (Or.inl hq)
    · have hg : ((1 : Int) + r == 54) = false := by simp; omega
      have hr2 : (r : Int) < 53 := by omega
      have hc : w.cell? ⟨10, 1 + r, none⟩ = some (.int .u32 (fst (1 + r))) := HT.out (1 + r) (by omega)
      by_cases he : fst (1 + r) = K
      · have hn : (fst (1 + r) != K) = false := by simpa using he
        go_wp2_with fail
        go_region
        go_wp2
        go_ret
        refine ⟨1 + r, by go_num, ?_, by first | exact below_drewN (below_drewN hbA _) _ | exact (below_drewN hbA _).drew | exact below_drewN hbA _⟩
        rw [hk.out]; exact Or.inl ⟨by omega, by omega, he⟩
      · have hn : (fst (1 + r) != K) = true := by simpa using he
        go_wp2_with fail
        go_region
        go_wp2
        go_ret
        refine ⟨0, rfl, ?_, by first | exact below_drewN (below_drewN hbA _) _ | exact (below_drewN hbA _).drew | exact below_drewN hbA _⟩
        rw [hk.out]; exact isOp_of K r hr I.out.1 I.out.2 (Or.inr he)
  · have hk : Hid (key v = v / 67108864 * 67108864) := by show key v = _; unfold key; rw [if_neg c0, if_neg c1]
    have q0 : (v / 67108864 * 67108864 == 0) = false := by simp; omega
    have q1 : (v / 67108864 * 67108864 == 1073741824) = false := by simp; omega
    generalize hK : v / 67108864 * 67108864 = K at *
    clear e2 e3 c0 c1 hK
    go_enter Tryz.func154, Tryz.ntmps154
    go_wp2_with fail
    have hbA : Below w.heap.size w (w.alloc (.cells #[.int .u32 K] 22)) := (Below.refl _ _).alloc (Nat.le_refl _) _
    have HA := FT.stays HT.out hbA (Nat.le_refl _)
    refine (search_any w.heap.size K _ HA (by simp)).mono ?_
    rintro e w1 ⟨r, rfl, hr, i1, i2, n, rfl⟩
    have I : Hid ((∀ x, x < r → fst (1 + x) < K) ∧ (∀ x, r ≤ x → x < 53 → K ≤ fst (1 + x))) := ⟨i1, i2⟩
    clear i1 i2
    have hr0 : (0 : Int) ≤ r := by omega
    have hr1 : (r : Int) ≤ 53 := by omega
    by_cases hq : r = 53
    · have hg : ((1 : Int) + r == 54) = true := by simp; omega
      go_wp2_with fail
      go_quiet (fail)
      go_wp2
      go_ret
      refine ⟨0, rfl, ?_, by first | exact below_drewN (below_drewN hbA _) _ | exact (below_drewN hbA _).drew | exact below_drewN hbA _⟩
      rw [hk.out]; exact isOp_of K r hr I.out.1 I.out.2 (Or.inl hq)
    · have hg : ((1 : Int) + r == 54) = false := by simp; omega
      have hr2 : (r : Int) < 53 := by omega
      have hc : w.cell? ⟨10, 1 + r, none⟩ = some (.int .u32 (fst (1 + r))) := HT.out (1 + r) (by omega)
      by_cases he : fst (1 + r) = K
      · have hn : (fst (1 + r) != K) = false := by simpa using he
        go_wp2_with fail
        go_region
        go_wp2
        go_ret
        refine ⟨1 + r, by go_num, ?_, by first | exact below_drewN (below_drewN hbA _) _ | exact (below_drewN hbA _).drew | exact below_drewN hbA _⟩
        rw [hk.out]; exact Or.inl ⟨by omega, by omega, he⟩
      · have hn : (fst (1 + r) != K) = true := by simpa using he
        go_wp2_with fail
        go_region
        go_wp2
        go_ret
        refine ⟨0, rfl, ?_, by first | exact below_drewN (below_drewN hbA _) _ | exact (below_drewN hbA _).drew | exact below_drewN hbA _⟩
        rw [hk.out]; exact isOp_of K r hr I.out.1 I.out.2 (Or.inr he)
end Go.Proofs.YtflagpkmebdckaaGreatDoor.K
/-
  What package code's Decode answers: the instruction whose word it is, or none.
-/
namespace Go.Proofs.YtflagpkmebdckaaGreatDoor.K
open Go.RowKit Go.Extern.Stop Go.Stop Go.Extern
open Num Tab
set_option linter.unusedVariables false
section
variable {C : Nat} {w wr : World} {l : List UInt8} {p : Nat} {o s t d m : Int}
end
set_option maxHeartbeats 4000000 in
theorem decode_any (pk pb : Addr) (v : Int) (h0 : 0 ≤ v) (h1 : v < 4294967296) (w : World) (T : Tb pk pb w) :
    Calls Tryz.prog 90 #[.int .u32 v] w fun e w' => ∃ k : Nat, DecP v k ∧ e = .returned (decR v k) ∧ Below w.heap.size w w' := by
  have HT : Hid (Tb pk pb w) := T
  clear T
  have bA : Below w.heap.size w (w.alloc (.cells #[.int .i64 0, .int .i64 0, .int .i64 0, .int .i64 0, .int .u32 0] 113)) := (Below.refl _ _).alloc (Nat.le_refl _) _
  have TA := HT.out.stays bA (Nat.le_refl _)
  go_enter Tryz.func90, Tryz.ntmps90
  go_wp2_with fail
  refine (oper_any v h0 h1 _ TA.ft).mono ?_
  rintro e w1 ⟨k, rfl, HO, hb1⟩
  have hk : k < 54 := by rcases HO with h | h <;> omega
  have hn := sh_all k hk
  have HK : Hid (IsOp (key v) k) := HO
  clear HO
  go_wp2_with (go_at_call 155; refine (fields_nat k hk _).mono ?_; rintro e w' ⟨rfl, rfl⟩)
  go_loopw [] (fun wr => ∃ p : Nat, p ≤ (lt (sh k)).length ∧ DInv w1.heap.size w1 wr (lt (sh k)) p k (yS (sh k) p v) (yT (sh k) p v) (yD (sh k) p v) (yM (sh k) p v)) (fun wr => (lt (sh k)).length - wr.iterPos (w1.heap.size + 1))
  case atStart =>
    refine ⟨0, Nat.zero_le _, ?_⟩
    rw [(y_0 _ _).1, (y_0 _ _).2.1, (y_0 _ _).2.2.1, (y_0 _ _).2.2.2]
    exact DInv.start w1 _ k
  case round =>
    obtain ⟨p, hp, E⟩ := hrel
    by_cases hlt : p < (lt (sh k)).length
    · rcases letters (sh k) hn p hlt with hc | hc | hc | hc | hc | hc
      · have hnx : ∀ ty, (Instr.next (.pointer (some ⟨w1.heap.size + 1, 0, none⟩)) true ty).run Tryz.prog wr = .ok (.tuple #[.bool true, .int .i64 p, .int .i32 83]) (wr.iterAt (w1.heap.size + 1) ⟨(lt (sh k)).toArray⟩ (p + 1)) := fun ty => dec_at _ p hlt _ hc (by decide) wr _ E.it ty
        have E2 := E.next (p + 1)
        generalize wr.iterAt (w1.heap.size + 1) ⟨(lt (sh k)).toArray⟩ (p + 1) = wr2 at hnx E2
        have HY : Hid (_ ∧ _ ∧ _ ∧ _) := ystep83 (sh k) hn p hlt hc v
        go_wp2_with (go_at_call 156; refine (place83 _).mono ?_; rintro e w' ⟨rfl, rfl⟩)
        have hp1 : w'.drew.cell? ⟨w1.heap.size, 1, none⟩ = some (.int .i64 (yS (sh k) p v)) := by simpa using E2.c1
        have hp2 : w'.drew.frozen? ⟨w1.heap.size, 1, none⟩ = false := by simpa using E2.fz 1
        have eb : Hid (bits .and .u32 (v / 2097152) (IntKind.u32.wrap (IntKind.u32.wrap 32 - 1)) = v / 2097152 % 32) := by
          show bits .and .u32 (v / 2097152) (IntKind.u32.wrap (IntKind.u32.wrap 32 - 1)) = v / 2097152 % 32
          rw [show IntKind.u32.wrap (IntKind.u32.wrap 32 - 1) = 31 by decide]
          exact and31 _ (by omega) (by omega)
        have v0 : 0 ≤ bits .and .u32 (v / 2097152) (IntKind.u32.wrap (IntKind.u32.wrap 32 - 1)) := by rw [eb.out]; omega
        have v1 : bits .and .u32 (v / 2097152) (IntKind.u32.wrap (IntKind.u32.wrap 32 - 1)) < 4294967296 := by rw [eb.out]; omega
        go_region_with (go_at_call 157; refine (put83 w1.heap.size (bits .and .u32 (v / 2097152) (IntKind.u32.wrap (IntKind.u32.wrap 32 - 1))) v0 v1 _ _ hp1 hp2).mono ?_; rintro e w9 ⟨rfl, rfl⟩)
        all_goals
          have E4 := (E2.putS (bits .and .u32 (v / 2097152) (IntKind.u32.wrap (IntKind.u32.wrap 32 - 1)))).drew
          rw [eb.out] at E4
          go_wp2_with fail
          go_roundw
          case rel =>
            refine ⟨p + 1, by omega, ?_⟩
            rw [HY.out.1, HY.out.2.1, HY.out.2.2.1, HY.out.2.2.2]
            first | exact E4 | (rw [eb.out]; exact E4)
          case measure =>
            first | rw [iterPos_of E4.it, iterPos_of E.it] | rw [eb.out, iterPos_of E4.it, iterPos_of E.it]
            omega
      · have hnx : ∀ ty, (Instr.next (.pointer (some ⟨w1.heap.size + 1, 0, none⟩)) true ty).run Tryz.prog wr = .ok (.tuple #[.bool true, .int .i64 p, .int .i32 84]) (wr.iterAt (w1.heap.size + 1) ⟨(lt (sh k)).toArray⟩ (p + 1)) := fun ty => dec_at _ p hlt _ hc (by decide) wr _ E.it ty
        have E2 := E.next (p + 1)
        generalize wr.iterAt (w1.heap.size + 1) ⟨(lt (sh k)).toArray⟩ (p + 1) = wr2 at hnx E2
        have HY : Hid (_ ∧ _ ∧ _ ∧ _) := ystep84 (sh k) hn p hlt hc v
        go_wp2_with (go_at_call 156; refine (place84 _).mono ?_; rintro e w' ⟨rfl, rfl⟩)
        have hp1 : w'.drew.cell? ⟨w1.heap.size, 2, none⟩ = some (.int .i64 (yT (sh k) p v)) := by simpa using E2.c2
        have hp2 : w'.drew.frozen? ⟨w1.heap.size, 2, none⟩ = false := by simpa using E2.fz 2
        have eb : Hid (bits .and .u32 (v / 65536) (IntKind.u32.wrap (IntKind.u32.wrap 32 - 1)) = v / 65536 % 32) := by
          show bits .and .u32 (v / 65536) (IntKind.u32.wrap (IntKind.u32.wrap 32 - 1)) = v / 65536 % 32
          rw [show IntKind.u32.wrap (IntKind.u32.wrap 32 - 1) = 31 by decide]
          exact and31 _ (by omega) (by omega)
        have v0 : 0 ≤ bits .and .u32 (v / 65536) (IntKind.u32.wrap (IntKind.u32.wrap 32 - 1)) := by rw [eb.out]; omega
        have v1 : bits .and .u32 (v / 65536) (IntKind.u32.wrap (IntKind.u32.wrap 32 - 1)) < 4294967296 := by rw [eb.out]; omega
        go_region_with (go_at_call 157; refine (put84 w1.heap.size (bits .and .u32 (v / 65536) (IntKind.u32.wrap (IntKind.u32.wrap 32 - 1))) v0 v1 _ _ hp1 hp2).mono ?_; rintro e w9 ⟨rfl, rfl⟩)
        all_goals
          have E4 := (E2.putT (bits .and .u32 (v / 65536) (IntKind.u32.wrap (IntKind.u32.wrap 32 - 1)))).drew
          rw [eb.out] at E4
          go_wp2_with fail
          go_roundw
          case rel =>
            refine ⟨p + 1, by omega, ?_⟩
            rw [HY.out.1, HY.out.2.1, HY.out.2.2.1, HY.out.2.2.2]
            first | exact E4 | (rw [eb.out]; exact E4)
          case measure =>
            first | rw [iterPos_of E4.it, iterPos_of E.it] | rw [eb.out, iterPos_of E4.it, iterPos_of E.it]
            omega
      · have hnx : ∀ ty, (Instr.next (.pointer (some ⟨w1.heap.size + 1, 0, none⟩)) true ty).run Tryz.prog wr = .ok (.tuple #[.bool true, .int .i64 p, .int .i32 68]) (wr.iterAt (w1.heap.size + 1) ⟨(lt (sh k)).toArray⟩ (p + 1)) := fun ty => dec_at _ p hlt _ hc (by decide) wr _ E.it ty
        have E2 := E.next (p + 1)
        generalize wr.iterAt (w1.heap.size + 1) ⟨(lt (sh k)).toArray⟩ (p + 1) = wr2 at hnx E2
        have HY : Hid (_ ∧ _ ∧ _ ∧ _) := ystep68 (sh k) hn p hlt hc v
        go_wp2_with (go_at_call 156; refine (place68 _).mono ?_; rintro e w' ⟨rfl, rfl⟩)
        have hp1 : w'.drew.cell? ⟨w1.heap.size, 3, none⟩ = some (.int .i64 (yD (sh k) p v)) := by simpa using E2.c3
        have hp2 : w'.drew.frozen? ⟨w1.heap.size, 3, none⟩ = false := by simpa using E2.fz 3
        have eb : Hid (bits .and .u32 (v / 2048) (IntKind.u32.wrap (IntKind.u32.wrap 32 - 1)) = v / 2048 % 32) := by
          show bits .and .u32 (v / 2048) (IntKind.u32.wrap (IntKind.u32.wrap 32 - 1)) = v / 2048 % 32
          rw [show IntKind.u32.wrap (IntKind.u32.wrap 32 - 1) = 31 by decide]
          exact and31 _ (by omega) (by omega)
        have v0 : 0 ≤ bits .and .u32 (v / 2048) (IntKind.u32.wrap (IntKind.u32.wrap 32 - 1)) := by rw [eb.out]; omega
        have v1 : bits .and .u32 (v / 2048) (IntKind.u32.wrap (IntKind.u32.wrap 32 - 1)) < 4294967296 := by rw [eb.out]; omega
        go_region_with (go_at_call 157; refine (put68 w1.heap.size (bits .and .u32 (v / 2048) (IntKind.u32.wrap (IntKind.u32.wrap 32 - 1))) v0 v1 _ _ hp1 hp2).mono ?_; rintro e w9 ⟨rfl, rfl⟩)
        all_goals
          have E4 := (E2.putD (bits .and .u32 (v / 2048) (IntKind.u32.wrap (IntKind.u32.wrap 32 - 1)))).drew
          rw [eb.out] at E4
          go_wp2_with fail
          go_roundw
          case rel =>
            refine ⟨p + 1, by omega, ?_⟩
            rw [HY.out.1, HY.out.2.1, HY.out.2.2.1, HY.out.2.2.2]
            first | exact E4 | (rw [eb.out]; exact E4)
          case measure =>
            first | rw [iterPos_of E4.it, iterPos_of E.it] | rw [eb.out, iterPos_of E4.it, iterPos_of E.it]
            omega
      · have hnx : ∀ ty, (Instr.next (.pointer (some ⟨w1.heap.size + 1, 0, none⟩)) true ty).run Tryz.prog wr = .ok (.tuple #[.bool true, .int .i64 p, .int .i32 97]) (wr.iterAt (w1.heap.size + 1) ⟨(lt (sh k)).toArray⟩ (p + 1)) := fun ty => dec_at _ p hlt _ hc (by decide) wr _ E.it ty
        have E2 := E.next (p + 1)
        generalize wr.iterAt (w1.heap.size + 1) ⟨(lt (sh k)).toArray⟩ (p + 1) = wr2 at hnx E2
        have HY : Hid (_ ∧ _ ∧ _ ∧ _) := ystep97 (sh k) hn p hlt hc v
        go_wp2_with (go_at_call 156; refine (place97 _).mono ?_; rintro e w' ⟨rfl, rfl⟩)
        have hp1 : w'.drew.cell? ⟨w1.heap.size, 4, none⟩ = some (.int .u32 (yM (sh k) p v)) := by simpa using E2.c4
        have hp2 : w'.drew.frozen? ⟨w1.heap.size, 4, none⟩ = false := by simpa using E2.fz 4
        have eb : Hid (bits .and .u32 (v / 64) (IntKind.u32.wrap (IntKind.u32.wrap 32 - 1)) = v / 64 % 32) := by
          show bits .and .u32 (v / 64) (IntKind.u32.wrap (IntKind.u32.wrap 32 - 1)) = v / 64 % 32
          rw [show IntKind.u32.wrap (IntKind.u32.wrap 32 - 1) = 31 by decide]
          exact and31 _ (by omega) (by omega)
        have v0 : 0 ≤ bits .and .u32 (v / 64) (IntKind.u32.wrap (IntKind.u32.wrap 32 - 1)) := by rw [eb.out]; omega
        have v1 : bits .and .u32 (v / 64) (IntKind.u32.wrap (IntKind.u32.wrap 32 - 1)) < 4294967296 := by rw [eb.out]; omega
        go_region_with (go_at_call 157; refine (put97 w1.heap.size (bits .and .u32 (v / 64) (IntKind.u32.wrap (IntKind.u32.wrap 32 - 1))) v0 v1 _ _ hp1 hp2).mono ?_; rintro e w9 ⟨rfl, rfl⟩)
        all_goals
          have E4 := (E2.putM (bits .and .u32 (v / 64) (IntKind.u32.wrap (IntKind.u32.wrap 32 - 1)))).drew
          rw [eb.out] at E4
          go_wp2_with fail
          go_roundw
          case rel =>
            refine ⟨p + 1, by omega, ?_⟩
            rw [HY.out.1, HY.out.2.1, HY.out.2.2.1, HY.out.2.2.2]
            first | exact E4 | (rw [eb.out]; exact E4)
          case measure =>
            first | rw [iterPos_of E4.it, iterPos_of E.it] | rw [eb.out, iterPos_of E4.it, iterPos_of E.it]
            omega
      · have hnx : ∀ ty, (Instr.next (.pointer (some ⟨w1.heap.size + 1, 0, none⟩)) true ty).run Tryz.prog wr = .ok (.tuple #[.bool true, .int .i64 p, .int .i32 105]) (wr.iterAt (w1.heap.size + 1) ⟨(lt (sh k)).toArray⟩ (p + 1)) := fun ty => dec_at _ p hlt _ hc (by decide) wr _ E.it ty
        have E2 := E.next (p + 1)
        generalize wr.iterAt (w1.heap.size + 1) ⟨(lt (sh k)).toArray⟩ (p + 1) = wr2 at hnx E2
        have HY : Hid (_ ∧ _ ∧ _ ∧ _) := ystep105 (sh k) hn p hlt hc v
        go_wp2_with (go_at_call 156; refine (place105 _).mono ?_; rintro e w' ⟨rfl, rfl⟩)
        have hp1 : w'.drew.cell? ⟨w1.heap.size, 4, none⟩ = some (.int .u32 (yM (sh k) p v)) := by simpa using E2.c4
        have hp2 : w'.drew.frozen? ⟨w1.heap.size, 4, none⟩ = false := by simpa using E2.fz 4
        have eb : Hid (bits .and .u32 (v) (IntKind.u32.wrap (IntKind.u32.wrap 65536 - 1)) = v % 65536) := by
          show bits .and .u32 (v) (IntKind.u32.wrap (IntKind.u32.wrap 65536 - 1)) = v % 65536
          rw [show IntKind.u32.wrap (IntKind.u32.wrap 65536 - 1) = 65535 by decide]
          exact and65535 _ (by omega) (by omega)
        have v0 : 0 ≤ bits .and .u32 (v) (IntKind.u32.wrap (IntKind.u32.wrap 65536 - 1)) := by rw [eb.out]; omega
        have v1 : bits .and .u32 (v) (IntKind.u32.wrap (IntKind.u32.wrap 65536 - 1)) < 4294967296 := by rw [eb.out]; omega
        go_region_with (go_at_call 157; refine (put105 w1.heap.size (bits .and .u32 (v) (IntKind.u32.wrap (IntKind.u32.wrap 65536 - 1))) v0 v1 _ _ hp1 hp2).mono ?_; rintro e w9 ⟨rfl, rfl⟩)
        all_goals
          have E4 := (E2.putM (bits .and .u32 (v) (IntKind.u32.wrap (IntKind.u32.wrap 65536 - 1)))).drew
          rw [eb.out] at E4
          go_wp2_with fail
          go_roundw
          case rel =>
            refine ⟨p + 1, by omega, ?_⟩
            rw [HY.out.1, HY.out.2.1, HY.out.2.2.1, HY.out.2.2.2]
            first | exact E4 | (rw [eb.out]; exact E4)
          case measure =>
            first | rw [iterPos_of E4.it, iterPos_of E.it] | rw [eb.out, iterPos_of E4.it, iterPos_of E.it]
            omega
      · have hnx : ∀ ty, (Instr.next (.pointer (some ⟨w1.heap.size + 1, 0, none⟩)) true ty).run Tryz.prog wr = .ok (.tuple #[.bool true, .int .i64 p, .int .i32 106]) (wr.iterAt (w1.heap.size + 1) ⟨(lt (sh k)).toArray⟩ (p + 1)) := fun ty => dec_at _ p hlt _ hc (by decide) wr _ E.it ty
        have E2 := E.next (p + 1)
        generalize wr.iterAt (w1.heap.size + 1) ⟨(lt (sh k)).toArray⟩ (p + 1) = wr2 at hnx E2
        have HY : Hid (_ ∧ _ ∧ _ ∧ _) := ystep106 (sh k) hn p hlt hc v
        go_wp2_with (go_at_call 156; refine (place106 _).mono ?_; rintro e w' ⟨rfl, rfl⟩)
        have hp1 : w'.drew.cell? ⟨w1.heap.size, 4, none⟩ = some (.int .u32 (yM (sh k) p v)) := by simpa using E2.c4
        have hp2 : w'.drew.frozen? ⟨w1.heap.size, 4, none⟩ = false := by simpa using E2.fz 4
        have eb : Hid (bits .and .u32 (v) (IntKind.u32.wrap (IntKind.u32.wrap 67108864 - 1)) = v % 67108864) := by
          show bits .and .u32 (v) (IntKind.u32.wrap (IntKind.u32.wrap 67108864 - 1)) = v % 67108864
          rw [show IntKind.u32.wrap (IntKind.u32.wrap 67108864 - 1) = 67108863 by decide]
          exact and67108863 _ (by omega) (by omega)
        have v0 : 0 ≤ bits .and .u32 (v) (IntKind.u32.wrap (IntKind.u32.wrap 67108864 - 1)) := by rw [eb.out]; omega
        have v1 : bits .and .u32 (v) (IntKind.u32.wrap (IntKind.u32.wrap 67108864 - 1)) < 4294967296 := by rw [eb.out]; omega
        go_region_with (go_at_call 157; refine (put106 w1.heap.size (bits .and .u32 (v) (IntKind.u32.wrap (IntKind.u32.wrap 67108864 - 1))) v0 v1 _ _ hp1 hp2).mono ?_; rintro e w9 ⟨rfl, rfl⟩)
        all_goals
          have E4 := (E2.putM (bits .and .u32 (v) (IntKind.u32.wrap (IntKind.u32.wrap 67108864 - 1)))).drew
          rw [eb.out] at E4
          go_wp2_with fail
          go_roundw
          case rel =>
            refine ⟨p + 1, by omega, ?_⟩
            rw [HY.out.1, HY.out.2.1, HY.out.2.2.1, HY.out.2.2.2]
            first | exact E4 | (rw [eb.out]; exact E4)
          case measure =>
            first | rw [iterPos_of E4.it, iterPos_of E.it] | rw [eb.out, iterPos_of E4.it, iterPos_of E.it]
            omega
    · obtain rfl : p = (lt (sh k)).length := by omega
      have hs : ¬ (lt (sh k)).length < (ByteArray.mk (lt (sh k)).toArray).size := by simp [ByteArray.size]
      have hnx : ∀ ty, (Instr.next (.pointer (some ⟨w1.heap.size + 1, 0, none⟩)) true ty).run Tryz.prog wr = .ok (.tuple #[.bool false]) wr := fun ty => Lib.run_next_end_at wr _ _ _ ty E.it hs
      rw [(y_end _ _).1, (y_end _ _).2.1, (y_end _ _).2.2.1, (y_end _ _).2.2.2] at E
      obtain ⟨q0, q1, q2, q3, q4⟩ := (⟨E.c0, E.c1, E.c2, E.c3, E.c4⟩ : _ ∧ _ ∧ _ ∧ _ ∧ _)
      have hsz : w.heap.size < w1.heap.size := by have := hb1.size; simp at this; omega
      have Twr : Tb pk pb wr := (TA.stays hb1 (Nat.le_refl _)).stays E.bel (Nat.le_refl _)
      have Zwr : ZAt w.heap.size wr := ((ZAt.alloc w).stays hb1 (by simp)).stays E.bel hsz
      have bwr : Below w.heap.size w wr := (bA.trans (hb1.mono (by simp))).trans (E.bel.mono (by omega))
      have hszr : w.heap.size < wr.heap.size := by have := E.bel.size; omega
      rcases HK.out with ⟨k1, k2, k3⟩ | ⟨hk0, k3⟩
      · have ok := ok_of (sh k) hn v h0 h1
        have hok : Hid (okB (sh k) (xs (sh k) v) (xt (sh k) v) (xd (sh k) v) (xm (sh k) v) = true) := ok.1
        have xr := x_rng (sh k) v h0 h1
        go_wp2_with fail
        refine (encode_any pk pb k k1 k2 (xs (sh k) v) (xt (sh k) v) (xd (sh k) v) (xm (sh k) v) ok.2 (by omega) (by omega) (by omega) (by omega) (by omega) (by omega) (by omega) _ Twr).mono ?_
        rintro e w5 ⟨rfl, hb5⟩
        rw [encR_ok hok.out, show enc k (xs (sh k) v) (xt (sh k) v) (xd (sh k) v) (xm (sh k) v) = xw k v from rfl]
        have s : ∀ {a : Addr} {u : Value}, wr.cell? a = some u → w5.cell? a = some u := fun e => cell_stays hb5 (Nat.le_refl _) e
        have g0 := s q0
        have g1 := s q1
        have g2 := s q2
        have g3 := s q3
        have g4 := s q4
        have Z5 := Zwr.stays hb5 hszr
        obtain ⟨z0, z1, z2, z3, z4, zf⟩ := Z5
        have b5 : Below w.heap.size w w5 := bwr.trans (hb5.mono (by omega))
        clear ok xr s
        by_cases hx : xw k v = v
        · have hx' : (xw k v != v) = false := by simpa using hx
          have HX : Hid (xw k v = v) := hx
          clear hx
          go_wp2
          exact bodyPost_ret (v := decR v k) (by simp [results, Tryz.results90, go_sem, decR, z0, z1, z2, z3, z4]) rfl ⟨k, Or.inl ⟨k1, k2, HX.out⟩, rfl, ((((b5.setCell (by simp) _).setCell (by simp) _).setCell (by simp) _).setCell (by simp) _).setCell (by simp) _⟩
        · have hx' : (xw k v != v) = true := by simpa using hx
          have HX : Hid (¬ xw k v = v) := hx
          clear hx
          go_wp2
          refine bodyPost_ret (v := ins 0 0 0 0 0) (by simp [results, Tryz.results90, go_sem, z0, z1, z2, z3, z4]) rfl ⟨0, Or.inr ⟨rfl, fun j j1 j2 e => ?_⟩, rfl, ((((b5.setCell (by simp) _).setCell (by simp) _).setCell (by simp) _).setCell (by simp) _).setCell (by simp) _⟩
          have := xw_key j j2 j1 v h0 h1 e
          have := fst_inj k k2 j j2 k1 j1 (k3.trans this)
          subst this
          exact HX.out e
      · have HK0 : Hid (k = 0) := hk0
        have hno : ¬ (0 < (k : Int) ∧ (k : Int) < 54) := by omega
        clear hk0
        go_wp2_with fail
        refine (encode_kind pk pb k (xs (sh k) v) (xt (sh k) v) (xd (sh k) v) (xm (sh k) v) hno _ Twr).mono ?_
        rintro e w5 ⟨rfl, hb5⟩
        have Z5 := Zwr.stays hb5 hszr
        obtain ⟨z0, z1, z2, z3, z4, zf⟩ := Z5
        have b5 : Below w.heap.size w w5 := bwr.trans (hb5.mono (by omega))
        go_wp2
        exact bodyPost_ret (v := ins 0 0 0 0 0) (by simp [results, Tryz.results90, go_sem, z0, z1, z2, z3, z4]) rfl ⟨0, Or.inr ⟨rfl, fun j j1 j2 e => k3 j j1 j2 (xw_key j j2 j1 v h0 h1 e).symm⟩, rfl, ((((b5.setCell (by simp) _).setCell (by simp) _).setCell (by simp) _).setCell (by simp) _).setCell (by simp) _⟩
end Go.Proofs.YtflagpkmebdckaaGreatDoor.K
/-
  A word as an instruction.
-/
namespace Go.Proofs.YtflagpkmebdckaaGreatDoor.K
open Go.RowKit Go.Extern.Stop Go.Stop Go.Extern
open Num Tab
set_option linter.unusedVariables false
theorem decode_ins (pk pb : Addr) (v : Int) (h0 : 0 ≤ v) (h1 : v < 4294967296) (w : World) (T : Tb pk pb w) :
    Calls Tryz.prog 90 #[.int .u32 v] w fun e w' => ∃ (k : Nat) (s t d m : Int), Hid (IsIns v k s t d m) ∧ e = .returned (ins k s t d m) ∧ Below w.heap.size w w' := by
  refine (decode_any pk pb v h0 h1 w T).mono ?_
  rintro e w' ⟨k, hd, rfl, hb⟩
  exact ⟨k, _, _, _, _, ⟨hd, rfl, rfl, rfl, rfl⟩, rfl, hb⟩
end Go.Proofs.YtflagpkmebdckaaGreatDoor.K
/-
  What has to do with exceptions.
-/
namespace Go.Proofs.YtflagpkmebdckaaGreatDoor
open Go.RowKit Go.Maps
open Num
set_option linter.unusedVariables false
section
variable {w : World} {pb sb bb : Nat} {S : St} {k s t d : Nat} {m : Int}
theorem St.ok_cm {S : St} (o : S.ok) {y : Int} (hy : u32 y) : St.ok { S with cm := y } := ⟨o.r, o.hi, o.lo, o.pc, o.nx, o.st, o.ca, o.ep, o.bd, hy, o.c0, o.c1⟩
theorem St.ok_ep {S : St} (o : S.ok) {y : Int} (hy : u32 y) : St.ok { S with ep := y } := ⟨o.r, o.hi, o.lo, o.pc, o.nx, o.st, o.ca, hy, o.bd, o.cm, o.c0, o.c1⟩
set_option maxHeartbeats 8000000 in
theorem from_any (c : Cp w pb sb bb S k s t d m) : Calls Tryz.prog 166 #[.pointer (some ⟨pb, 0, none⟩)] w fun e w' => e = .returned (.int .i64 (fromP S t d).1) ∧ StAt w' sb (fromP S t d).2 ∧ Kept w w' (· = sb) := by
  have CH : Hid (Cp w pb sb bb S k s t d m) := c
  have p0 := c.p.p0
  have p3 := c.p.p3
  have p4 := c.p.p4
  obtain ⟨_, _, _, _, _, q37, q38, q39, q40, q41, q42⟩ := c.a.told
  have ok := c.ok
  clear c
  by_cases h8 : d = 8
  · subst h8
    go_enter Tryz.func166, Tryz.ntmps166
    go_wp2_with fail
    refine (set_any CH.out t CH.out.ht _).mono ?_
    rintro e w1 ⟨rfl, A1, T1⟩
    have c1 := CH.out.turn T1 A1 (St.set_ok CH.out.ok t (ok.bd))
    have hg := goOn_any c1
    go_wp2_with fail
    refine hg.mono ?_
    rintro e w2 ⟨rfl, A2, T2⟩
    go_wp2
    go_ret
    exact ⟨rfl, A2, T1.trans T2 (fun _ _ h => h)⟩
  by_cases h9 : d = 9
  · subst h9
    go_enter Tryz.func166, Tryz.ntmps166
    go_wp2_with fail
    refine (set_any CH.out t CH.out.ht _).mono ?_
    rintro e w1 ⟨rfl, A1, T1⟩
    have c1 := CH.out.turn T1 A1 (St.set_ok CH.out.ok t (lo_bd _))
    have hg := goOn_any c1
    go_wp2_with fail
    refine hg.mono ?_
    rintro e w2 ⟨rfl, A2, T2⟩
    go_wp2
    go_ret
    exact ⟨rfl, A2, T1.trans T2 (fun _ _ h => h)⟩
  by_cases h11 : d = 11
  · subst h11
    go_enter Tryz.func166, Tryz.ntmps166
    go_wp2_with fail
    refine (set_any CH.out t CH.out.ht _).mono ?_
    rintro e w1 ⟨rfl, A1, T1⟩
    have c1 := CH.out.turn T1 A1 (St.set_ok CH.out.ok t (ok.cm))
    have hg := goOn_any c1
    go_wp2_with fail
    refine hg.mono ?_
    rintro e w2 ⟨rfl, A2, T2⟩
    go_wp2
    go_ret
    exact ⟨rfl, A2, T1.trans T2 (fun _ _ h => h)⟩
  by_cases h12 : d = 12
  · subst h12
    go_enter Tryz.func166, Tryz.ntmps166
    go_wp2_with fail
    refine (set_any CH.out t CH.out.ht _).mono ?_
    rintro e w1 ⟨rfl, A1, T1⟩
    have c1 := CH.out.turn T1 A1 (St.set_ok CH.out.ok t (ok.st))
    have hg := goOn_any c1
    go_wp2_with fail
    refine hg.mono ?_
    rintro e w2 ⟨rfl, A2, T2⟩
    go_wp2
    go_ret
    exact ⟨rfl, A2, T1.trans T2 (fun _ _ h => h)⟩
  by_cases h13 : d = 13
  · subst h13
    go_enter Tryz.func166, Tryz.ntmps166
    go_wp2_with fail
    refine (set_any CH.out t CH.out.ht _).mono ?_
    rintro e w1 ⟨rfl, A1, T1⟩
    have c1 := CH.out.turn T1 A1 (St.set_ok CH.out.ok t (ok.ca))
    have hg := goOn_any c1
    go_wp2_with fail
    refine hg.mono ?_
    rintro e w2 ⟨rfl, A2, T2⟩
    go_wp2
    go_ret
    exact ⟨rfl, A2, T1.trans T2 (fun _ _ h => h)⟩
  by_cases h14 : d = 14
  · subst h14
    go_enter Tryz.func166, Tryz.ntmps166
    go_wp2_with fail
    refine (set_any CH.out t CH.out.ht _).mono ?_
    rintro e w1 ⟨rfl, A1, T1⟩
    have c1 := CH.out.turn T1 A1 (St.set_ok CH.out.ok t (ok.ep))
    have hg := goOn_any c1
    go_wp2_with fail
    refine hg.mono ?_
    rintro e w2 ⟨rfl, A2, T2⟩
    go_wp2
    go_ret
    exact ⟨rfl, A2, T1.trans T2 (fun _ _ h => h)⟩
  have X : fromP S t d = (10, S) := by unfold fromP; rw [if_neg h8, if_neg h9, if_neg h11, if_neg h12, if_neg h13, if_neg h14]
  rw [X]
  have A := CH.out.a
  have b8 := nk h8
  have b9 := nk h9
  have b11 := nk h11
  have b12 := nk h12
  have b13 := nk h13
  have b14 := nk h14
  clear h8 h9 h11 h12 h13 h14 X ok CH
  go_enter Tryz.func166, Tryz.ntmps166
  go_wp2
  go_ret
  exact ⟨rfl, A, Kept.refl _ _⟩
set_option maxHeartbeats 8000000 in
theorem to_any (c : Cp w pb sb bb S k s t d m) : Calls Tryz.prog 167 #[.pointer (some ⟨pb, 0, none⟩)] w fun e w' => e = .returned (.int .i64 (toP S t d).1) ∧ StAt w' sb (toP S t d).2 ∧ Kept w w' (· = sb) := by
  have CH : Hid (Cp w pb sb bb S k s t d m) := c
  have p0 := c.p.p0
  have p3 := c.p.p3
  have qt := c.a.reg c.ht
  have ht : (t : Int) < 32 := by have := c.ht; omega
  clear c
  go_enter Tryz.func167, Tryz.ntmps167
  go_wp2
  go_quiet (fail)
  have CN : Cp (w.drewN nq) pb sb bb S k s t d m := CH.out.drewN nq
  have KN : Kept w (w.drewN nq) (· = sb) := Kept.of_below _ (below_drewN (Below.refl _ _) _)
  clear p0 p3 qt CH
  generalize w.drewN nq = w1 at *
  have p0 := CN.p.p0
  have p4 := CN.p.p4
  obtain ⟨_, _, _, _, _, q37, _, q39, _, q41, _⟩ := CN.a.told
  have f37 := CN.a.fz 37
  have f39 := CN.a.fz 39
  have f41 := CN.a.fz 41
  by_cases h11 : d = 11
  · subst h11
    have hg := goOn_any (CN.at (CN.a.putCm (S.r t)) (St.ok_cm CN.ok (CN.ok.r t)))
    go_wp2_with fail
    refine hg.mono ?_
    rintro e w2 ⟨rfl, A2, T2⟩
    go_wp2
    go_ret
    exact ⟨rfl, A2, (KN.put _ _).trans T2 (fun _ _ h => h)⟩
  by_cases h12 : d = 12
  · subst h12
    have hg := goOn_any (CN.at (CN.a.putSt (bits .and .u32 (S.r t) 3)) (St.ok_st CN.ok (and_bd (CN.ok.r t) ⟨by omega, by omega⟩)))
    go_wp2_with fail
    refine hg.mono ?_
    rintro e w2 ⟨rfl, A2, T2⟩
    go_wp2
    go_ret
    exact ⟨rfl, A2, (KN.put _ _).trans T2 (fun _ _ h => h)⟩
  by_cases h14 : d = 14
  · subst h14
    have hg := goOn_any (CN.at (CN.a.putEp (S.r t)) (St.ok_ep CN.ok (CN.ok.r t)))
    go_wp2_with fail
    refine hg.mono ?_
    rintro e w2 ⟨rfl, A2, T2⟩
    go_wp2
    go_ret
    exact ⟨rfl, A2, (KN.put _ _).trans T2 (fun _ _ h => h)⟩
  have X : toP S t d = (10, S) := by unfold toP; rw [if_neg h11, if_neg h12, if_neg h14]
  have b11 := nk h11
  have b12 := nk h12
  have b14 := nk h14
  go_wp2
  go_ret
  rw [X]
  exact ⟨rfl, CN.a, KN⟩
set_option maxHeartbeats 8000000 in
theorem back_any (c : Cp w pb sb bb S k s t d m) : Calls Tryz.prog 168 #[.pointer (some ⟨pb, 0, none⟩)] w fun e w' => e = .returned (.int .i64 (backP S).1) ∧ StAt w' sb (backP S).2 ∧ Kept w w' (· = sb) := by
  have CH : Hid (Cp w pb sb bb S k s t d m) := c
  have p0 := c.p.p0
  obtain ⟨_, _, _, _, q36, q37, _, q39, _, _, _⟩ := c.a.told
  clear c
  by_cases h1 : bits .and .u32 S.st 2 = 0
  · have X : backP S = (10, S) := by unfold backP; rw [if_pos (Or.inl h1)]
    rw [X]
    have b1 : (bits .and .u32 S.st 2 == 0) = true := by simpa using h1
    go_enter Tryz.func168, Tryz.ntmps168
    go_wp2
    go_ret
    exact ⟨rfl, CH.out.a, Kept.refl _ _⟩
  · have b1 : (bits .and .u32 S.st 2 == 0) = false := by simpa using h1
    cases hsl : S.sl with
    | true =>
      have X : backP S = (10, S) := by unfold backP; rw [if_pos (Or.inr hsl)]
      rw [X]
      rw [hsl] at q36
      go_enter Tryz.func168, Tryz.ntmps168
      go_wp2
      go_ret
      exact ⟨rfl, CH.out.a, Kept.refl _ _⟩
    | false =>
      have X : backP S = (-1, { S.jump S.ep with st := bits .andNot .u32 S.st 2 }) := by unfold backP; rw [if_neg (by simp [h1, hsl])]
      rw [X]
      rw [hsl] at q36
      clear X h1
      go_enter Tryz.func168, Tryz.ntmps168
      go_wp2_with fail
      refine (jump_any CH.out S.ep CH.out.ok.ep).mono ?_
      rintro e w1 ⟨rfl, A1, T1⟩
      have c1 := CH.out.turn T1 A1 (St.jump_ok CH.out.ok CH.out.ok.ep)
      clear p0 q36 q37 q39
      have p0 := c1.p.p0
      have q37 : w1.cell? ⟨sb, 37, none⟩ = some (.int .u32 S.st) := A1.told.2.2.2.2.2.1
      have f37 := A1.fz 37
      go_wp2
      go_ret
      exact ⟨rfl, A1.putSt _, T1.put _ _⟩
set_option maxHeartbeats 8000000 in
theorem trap_any (c : Cp w pb sb bb S k s t d m) : Calls Tryz.prog 95 #[.pointer (some ⟨pb, 0, none⟩)] w fun e w' => e = .returned (.int .i64 (trapP S k t d).1) ∧ StAt w' sb (trapP S k t d).2 ∧ Kept w w' (· = sb) := by
  have hf := from_any c
  have ht := to_any c
  have hb := back_any c
  have A := c.a
  have p1 := c.p.p1
  clear c
  by_cases h9 : k = 9
  · subst h9
    go_enter Tryz.func95, Tryz.ntmps95
    go_wp2
    go_ret
    exact ⟨rfl, A, Kept.refl _ _⟩
  by_cases h10 : k = 10
  · subst h10
    go_enter Tryz.func95, Tryz.ntmps95
    go_wp2
    go_ret
    exact ⟨rfl, A, Kept.refl _ _⟩
  by_cases h43 : k = 43
  · subst h43
    go_enter Tryz.func95, Tryz.ntmps95
    go_wp2_with fail
    refine hf.mono ?_
    rintro e w1 ⟨rfl, A1, T1⟩
    go_wp2
    go_ret
    exact ⟨rfl, A1, T1⟩
  by_cases h44 : k = 44
  · subst h44
    go_enter Tryz.func95, Tryz.ntmps95
    go_wp2_with fail
    refine ht.mono ?_
    rintro e w1 ⟨rfl, A1, T1⟩
    go_wp2
    go_ret
    exact ⟨rfl, A1, T1⟩
  by_cases h45 : k = 45
  · subst h45
    go_enter Tryz.func95, Tryz.ntmps95
    go_wp2_with fail
    refine hb.mono ?_
    rintro e w1 ⟨rfl, A1, T1⟩
    go_wp2
    go_ret
    exact ⟨rfl, A1, T1⟩
  have X : trapP S k t d = (10, S) := by unfold trapP; rw [if_neg h9, if_neg h10, if_neg h43, if_neg h44, if_neg h45]
  rw [X]
  have b9 := nk h9
  have b10 := nk h10
  have b43 := nk h43
  have b44 := nk h44
  have b45 := nk h45
  clear h9 h10 h43 h44 h45 X hf ht hb
  go_enter Tryz.func95, Tryz.ntmps95
  go_wp2
  go_ret
  exact ⟨rfl, A, Kept.refl _ _⟩
end
end Go.Proofs.YtflagpkmebdckaaGreatDoor
