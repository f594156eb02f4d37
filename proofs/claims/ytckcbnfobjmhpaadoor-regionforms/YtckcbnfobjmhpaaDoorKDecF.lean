/-
  What package code's Decode answers: the instruction whose word it is, or none.
-/
import Derived.Test.YtckcbnfobjmhpaaDoorKDecode
import Derived.Test.YtckcbnfobjmhpaaDoorKOpF
import Derived.Test.YtckcbnfobjmhpaaDoorKEncode
import Derived.Deep.RegionWith
namespace Go.Proofs.YtckcbnfobjmhpaaDoor.K
open Go.RowKit Go.Extern.Stop Go.Stop Go.Extern
open Num Tab
set_option linter.unusedVariables false
section
variable {C : Nat} {w wr : World} {l : List UInt8} {p : Nat} {o s t d m : Int}
end
set_option maxHeartbeats 4000000 in
theorem decode_any (pk pb : Addr) (v : Int) (h0 : 0 ≤ v) (h1 : v < 4294967296) (w : World) (T : Tb pk pb w) :
    Calls Tryd.prog 60 #[.int .u32 v] w fun e w' => ∃ k : Nat, DecP v k ∧ e = .returned (decR v k) ∧ Below w.heap.size w w' := by
  have HT : Hid (Tb pk pb w) := T
  clear T
  have bA : Below w.heap.size w (w.alloc (.cells #[.int .i64 0, .int .i64 0, .int .i64 0, .int .i64 0, .int .u32 0] 65)) := (Below.refl _ _).alloc (Nat.le_refl _) _
  have TA := HT.out.stays bA (Nat.le_refl _)
  go_enter Tryd.func60, Tryd.ntmps60
  go_wp2_with fail
  refine (oper_any v h0 h1 _ TA.ft).mono ?_
  rintro e w1 ⟨k, rfl, HO, hb1⟩
  have hk : k < 54 := by rcases HO with h | h <;> omega
  have hn := sh_all k hk
  have HK : Hid (IsOp (key v) k) := HO
  clear HO
  go_wp2_with (go_at_call 52; refine (fields_nat k hk _).mono ?_; rintro e w' ⟨rfl, rfl⟩)
  go_loopw [] (fun wr => ∃ p : Nat, p ≤ (lt (sh k)).length ∧ DInv w1.heap.size w1 wr (lt (sh k)) p k (yS (sh k) p v) (yT (sh k) p v) (yD (sh k) p v) (yM (sh k) p v)) (fun wr => (lt (sh k)).length - wr.iterPos (w1.heap.size + 1))
  case atStart =>
    refine ⟨0, Nat.zero_le _, ?_⟩
    rw [(y_0 _ _).1, (y_0 _ _).2.1, (y_0 _ _).2.2.1, (y_0 _ _).2.2.2]
    exact DInv.start w1 _ k
  case round =>
    obtain ⟨p, hp, E⟩ := hrel
    by_cases hlt : p < (lt (sh k)).length
    · rcases letters (sh k) hn p hlt with hc | hc | hc | hc | hc | hc
      · have hnx : ∀ ty, (Instr.next (.pointer (some ⟨w1.heap.size + 1, 0, none⟩)) true ty).run Tryd.prog wr = .ok (.tuple #[.bool true, .int .i64 p, .int .i32 83]) (wr.iterAt (w1.heap.size + 1) ⟨(lt (sh k)).toArray⟩ (p + 1)) := fun ty => dec_at _ p hlt _ hc (by decide) wr _ E.it ty
        have E2 := E.next (p + 1)
        generalize wr.iterAt (w1.heap.size + 1) ⟨(lt (sh k)).toArray⟩ (p + 1) = wr2 at hnx E2
        have HY : Hid (_ ∧ _ ∧ _ ∧ _) := ystep83 (sh k) hn p hlt hc v
        go_wp2_with (go_at_call 53; refine (place83 _).mono ?_; rintro e w' ⟨rfl, rfl⟩)
        have hp1 : w'.drew.cell? ⟨w1.heap.size, 1, none⟩ = some (.int .i64 (yS (sh k) p v)) := by simpa using E2.c1
        have hp2 : w'.drew.frozen? ⟨w1.heap.size, 1, none⟩ = false := by simpa using E2.fz 1
        have eb : Hid (bits .and .u32 (v / 2097152) (IntKind.u32.wrap (IntKind.u32.wrap 32 - 1)) = v / 2097152 % 32) := by
          show bits .and .u32 (v / 2097152) (IntKind.u32.wrap (IntKind.u32.wrap 32 - 1)) = v / 2097152 % 32
          rw [show IntKind.u32.wrap (IntKind.u32.wrap 32 - 1) = 31 by decide]
          exact and31 _ (by omega) (by omega)
        have v0 : 0 ≤ bits .and .u32 (v / 2097152) (IntKind.u32.wrap (IntKind.u32.wrap 32 - 1)) := by rw [eb.out]; omega
        have v1 : bits .and .u32 (v / 2097152) (IntKind.u32.wrap (IntKind.u32.wrap 32 - 1)) < 4294967296 := by rw [eb.out]; omega
        go_region_with (go_at_call 55; refine (put83 w1.heap.size (bits .and .u32 (v / 2097152) (IntKind.u32.wrap (IntKind.u32.wrap 32 - 1))) v0 v1 _ _ hp1 hp2).mono ?_; rintro e w9 ⟨rfl, rfl⟩)
        all_goals
          have E4 := (E2.putS (bits .and .u32 (v / 2097152) (IntKind.u32.wrap (IntKind.u32.wrap 32 - 1)))).drew
          rw [eb.out] at E4
          go_wp2_with fail
          go_roundw
          case rel =>
            refine ⟨p + 1, by omega, ?_⟩
            rw [HY.out.1, HY.out.2.1, HY.out.2.2.1, HY.out.2.2.2]
            first | exact E4 | (rw [eb.out]; exact E4)
          case measure =>
            first | rw [iterPos_of E4.it, iterPos_of E.it] | rw [eb.out, iterPos_of E4.it, iterPos_of E.it]
            omega
      · have hnx : ∀ ty, (Instr.next (.pointer (some ⟨w1.heap.size + 1, 0, none⟩)) true ty).run Tryd.prog wr = .ok (.tuple #[.bool true, .int .i64 p, .int .i32 84]) (wr.iterAt (w1.heap.size + 1) ⟨(lt (sh k)).toArray⟩ (p + 1)) := fun ty => dec_at _ p hlt _ hc (by decide) wr _ E.it ty
        have E2 := E.next (p + 1)
        generalize wr.iterAt (w1.heap.size + 1) ⟨(lt (sh k)).toArray⟩ (p + 1) = wr2 at hnx E2
        have HY : Hid (_ ∧ _ ∧ _ ∧ _) := ystep84 (sh k) hn p hlt hc v
        go_wp2_with (go_at_call 53; refine (place84 _).mono ?_; rintro e w' ⟨rfl, rfl⟩)
        have hp1 : w'.drew.cell? ⟨w1.heap.size, 2, none⟩ = some (.int .i64 (yT (sh k) p v)) := by simpa using E2.c2
        have hp2 : w'.drew.frozen? ⟨w1.heap.size, 2, none⟩ = false := by simpa using E2.fz 2
        have eb : Hid (bits .and .u32 (v / 65536) (IntKind.u32.wrap (IntKind.u32.wrap 32 - 1)) = v / 65536 % 32) := by
          show bits .and .u32 (v / 65536) (IntKind.u32.wrap (IntKind.u32.wrap 32 - 1)) = v / 65536 % 32
          rw [show IntKind.u32.wrap (IntKind.u32.wrap 32 - 1) = 31 by decide]
          exact and31 _ (by omega) (by omega)
        have v0 : 0 ≤ bits .and .u32 (v / 65536) (IntKind.u32.wrap (IntKind.u32.wrap 32 - 1)) := by rw [eb.out]; omega
        have v1 : bits .and .u32 (v / 65536) (IntKind.u32.wrap (IntKind.u32.wrap 32 - 1)) < 4294967296 := by rw [eb.out]; omega
        go_region_with (go_at_call 55; refine (put84 w1.heap.size (bits .and .u32 (v / 65536) (IntKind.u32.wrap (IntKind.u32.wrap 32 - 1))) v0 v1 _ _ hp1 hp2).mono ?_; rintro e w9 ⟨rfl, rfl⟩)
        all_goals
          have E4 := (E2.putT (bits .and .u32 (v / 65536) (IntKind.u32.wrap (IntKind.u32.wrap 32 - 1)))).drew
          rw [eb.out] at E4
          go_wp2_with fail
          go_roundw
          case rel =>
            refine ⟨p + 1, by omega, ?_⟩
            rw [HY.out.1, HY.out.2.1, HY.out.2.2.1, HY.out.2.2.2]
            first | exact E4 | (rw [eb.out]; exact E4)
          case measure =>
            first | rw [iterPos_of E4.it, iterPos_of E.it] | rw [eb.out, iterPos_of E4.it, iterPos_of E.it]
            omega
      · have hnx : ∀ ty, (Instr.next (.pointer (some ⟨w1.heap.size + 1, 0, none⟩)) true ty).run Tryd.prog wr = .ok (.tuple #[.bool true, .int .i64 p, .int .i32 68]) (wr.iterAt (w1.heap.size + 1) ⟨(lt (sh k)).toArray⟩ (p + 1)) := fun ty => dec_at _ p hlt _ hc (by decide) wr _ E.it ty
        have E2 := E.next (p + 1)
        generalize wr.iterAt (w1.heap.size + 1) ⟨(lt (sh k)).toArray⟩ (p + 1) = wr2 at hnx E2
        have HY : Hid (_ ∧ _ ∧ _ ∧ _) := ystep68 (sh k) hn p hlt hc v
        go_wp2_with (go_at_call 53; refine (place68 _).mono ?_; rintro e w' ⟨rfl, rfl⟩)
        have hp1 : w'.drew.cell? ⟨w1.heap.size, 3, none⟩ = some (.int .i64 (yD (sh k) p v)) := by simpa using E2.c3
        have hp2 : w'.drew.frozen? ⟨w1.heap.size, 3, none⟩ = false := by simpa using E2.fz 3
        have eb : Hid (bits .and .u32 (v / 2048) (IntKind.u32.wrap (IntKind.u32.wrap 32 - 1)) = v / 2048 % 32) := by
          show bits .and .u32 (v / 2048) (IntKind.u32.wrap (IntKind.u32.wrap 32 - 1)) = v / 2048 % 32
          rw [show IntKind.u32.wrap (IntKind.u32.wrap 32 - 1) = 31 by decide]
          exact and31 _ (by omega) (by omega)
        have v0 : 0 ≤ bits .and .u32 (v / 2048) (IntKind.u32.wrap (IntKind.u32.wrap 32 - 1)) := by rw [eb.out]; omega
        have v1 : bits .and .u32 (v / 2048) (IntKind.u32.wrap (IntKind.u32.wrap 32 - 1)) < 4294967296 := by rw [eb.out]; omega
        go_region_with (go_at_call 55; refine (put68 w1.heap.size (bits .and .u32 (v / 2048) (IntKind.u32.wrap (IntKind.u32.wrap 32 - 1))) v0 v1 _ _ hp1 hp2).mono ?_; rintro e w9 ⟨rfl, rfl⟩)
        all_goals
          have E4 := (E2.putD (bits .and .u32 (v / 2048) (IntKind.u32.wrap (IntKind.u32.wrap 32 - 1)))).drew
          rw [eb.out] at E4
          go_wp2_with fail
          go_roundw
          case rel =>
            refine ⟨p + 1, by omega, ?_⟩
            rw [HY.out.1, HY.out.2.1, HY.out.2.2.1, HY.out.2.2.2]
            first | exact E4 | (rw [eb.out]; exact E4)
          case measure =>
            first | rw [iterPos_of E4.it, iterPos_of E.it] | rw [eb.out, iterPos_of E4.it, iterPos_of E.it]
            omega
      · have hnx : ∀ ty, (Instr.next (.pointer (some ⟨w1.heap.size + 1, 0, none⟩)) true ty).run Tryd.prog wr = .ok (.tuple #[.bool true, .int .i64 p, .int .i32 97]) (wr.iterAt (w1.heap.size + 1) ⟨(lt (sh k)).toArray⟩ (p + 1)) := fun ty => dec_at _ p hlt _ hc (by decide) wr _ E.it ty
        have E2 := E.next (p + 1)
        generalize wr.iterAt (w1.heap.size + 1) ⟨(lt (sh k)).toArray⟩ (p + 1) = wr2 at hnx E2
        have HY : Hid (_ ∧ _ ∧ _ ∧ _) := ystep97 (sh k) hn p hlt hc v
        go_wp2_with (go_at_call 53; refine (place97 _).mono ?_; rintro e w' ⟨rfl, rfl⟩)
        have hp1 : w'.drew.cell? ⟨w1.heap.size, 4, none⟩ = some (.int .u32 (yM (sh k) p v)) := by simpa using E2.c4
        have hp2 : w'.drew.frozen? ⟨w1.heap.size, 4, none⟩ = false := by simpa using E2.fz 4
        have eb : Hid (bits .and .u32 (v / 64) (IntKind.u32.wrap (IntKind.u32.wrap 32 - 1)) = v / 64 % 32) := by
          show bits .and .u32 (v / 64) (IntKind.u32.wrap (IntKind.u32.wrap 32 - 1)) = v / 64 % 32
          rw [show IntKind.u32.wrap (IntKind.u32.wrap 32 - 1) = 31 by decide]
          exact and31 _ (by omega) (by omega)
        have v0 : 0 ≤ bits .and .u32 (v / 64) (IntKind.u32.wrap (IntKind.u32.wrap 32 - 1)) := by rw [eb.out]; omega
        have v1 : bits .and .u32 (v / 64) (IntKind.u32.wrap (IntKind.u32.wrap 32 - 1)) < 4294967296 := by rw [eb.out]; omega
        go_region_with (go_at_call 55; refine (put97 w1.heap.size (bits .and .u32 (v / 64) (IntKind.u32.wrap (IntKind.u32.wrap 32 - 1))) v0 v1 _ _ hp1 hp2).mono ?_; rintro e w9 ⟨rfl, rfl⟩)
        all_goals
          have E4 := (E2.putM (bits .and .u32 (v / 64) (IntKind.u32.wrap (IntKind.u32.wrap 32 - 1)))).drew
          rw [eb.out] at E4
          go_wp2_with fail
          go_roundw
          case rel =>
            refine ⟨p + 1, by omega, ?_⟩
            rw [HY.out.1, HY.out.2.1, HY.out.2.2.1, HY.out.2.2.2]
            first | exact E4 | (rw [eb.out]; exact E4)
          case measure =>
            first | rw [iterPos_of E4.it, iterPos_of E.it] | rw [eb.out, iterPos_of E4.it, iterPos_of E.it]
            omega
      · have hnx : ∀ ty, (Instr.next (.pointer (some ⟨w1.heap.size + 1, 0, none⟩)) true ty).run Tryd.prog wr = .ok (.tuple #[.bool true, .int .i64 p, .int .i32 105]) (wr.iterAt (w1.heap.size + 1) ⟨(lt (sh k)).toArray⟩ (p + 1)) := fun ty => dec_at _ p hlt _ hc (by decide) wr _ E.it ty
        have E2 := E.next (p + 1)
        generalize wr.iterAt (w1.heap.size + 1) ⟨(lt (sh k)).toArray⟩ (p + 1) = wr2 at hnx E2
        have HY : Hid (_ ∧ _ ∧ _ ∧ _) := ystep105 (sh k) hn p hlt hc v
        go_wp2_with (go_at_call 53; refine (place105 _).mono ?_; rintro e w' ⟨rfl, rfl⟩)
        have hp1 : w'.drew.cell? ⟨w1.heap.size, 4, none⟩ = some (.int .u32 (yM (sh k) p v)) := by simpa using E2.c4
        have hp2 : w'.drew.frozen? ⟨w1.heap.size, 4, none⟩ = false := by simpa using E2.fz 4
        have eb : Hid (bits .and .u32 (v) (IntKind.u32.wrap (IntKind.u32.wrap 65536 - 1)) = v % 65536) := by
          show bits .and .u32 (v) (IntKind.u32.wrap (IntKind.u32.wrap 65536 - 1)) = v % 65536
          rw [show IntKind.u32.wrap (IntKind.u32.wrap 65536 - 1) = 65535 by decide]
          exact and65535 _ (by omega) (by omega)
        have v0 : 0 ≤ bits .and .u32 (v) (IntKind.u32.wrap (IntKind.u32.wrap 65536 - 1)) := by rw [eb.out]; omega
        have v1 : bits .and .u32 (v) (IntKind.u32.wrap (IntKind.u32.wrap 65536 - 1)) < 4294967296 := by rw [eb.out]; omega
        go_region_with (go_at_call 55; refine (put105 w1.heap.size (bits .and .u32 (v) (IntKind.u32.wrap (IntKind.u32.wrap 65536 - 1))) v0 v1 _ _ hp1 hp2).mono ?_; rintro e w9 ⟨rfl, rfl⟩)
        all_goals
          have E4 := (E2.putM (bits .and .u32 (v) (IntKind.u32.wrap (IntKind.u32.wrap 65536 - 1)))).drew
          rw [eb.out] at E4
          go_wp2_with fail
          go_roundw
          case rel =>
            refine ⟨p + 1, by omega, ?_⟩
            rw [HY.out.1, HY.out.2.1, HY.out.2.2.1, HY.out.2.2.2]
            first | exact E4 | (rw [eb.out]; exact E4)
          case measure =>
            first | rw [iterPos_of E4.it, iterPos_of E.it] | rw [eb.out, iterPos_of E4.it, iterPos_of E.it]
            omega
      · have hnx : ∀ ty, (Instr.next (.pointer (some ⟨w1.heap.size + 1, 0, none⟩)) true ty).run Tryd.prog wr = .ok (.tuple #[.bool true, .int .i64 p, .int .i32 106]) (wr.iterAt (w1.heap.size + 1) ⟨(lt (sh k)).toArray⟩ (p + 1)) := fun ty => dec_at _ p hlt _ hc (by decide) wr _ E.it ty
        have E2 := E.next (p + 1)
        generalize wr.iterAt (w1.heap.size + 1) ⟨(lt (sh k)).toArray⟩ (p + 1) = wr2 at hnx E2
        have HY : Hid (_ ∧ _ ∧ _ ∧ _) := ystep106 (sh k) hn p hlt hc v
        go_wp2_with (go_at_call 53; refine (place106 _).mono ?_; rintro e w' ⟨rfl, rfl⟩)
        have hp1 : w'.drew.cell? ⟨w1.heap.size, 4, none⟩ = some (.int .u32 (yM (sh k) p v)) := by simpa using E2.c4
        have hp2 : w'.drew.frozen? ⟨w1.heap.size, 4, none⟩ = false := by simpa using E2.fz 4
        have eb : Hid (bits .and .u32 (v) (IntKind.u32.wrap (IntKind.u32.wrap 67108864 - 1)) = v % 67108864) := by
          show bits .and .u32 (v) (IntKind.u32.wrap (IntKind.u32.wrap 67108864 - 1)) = v % 67108864
          rw [show IntKind.u32.wrap (IntKind.u32.wrap 67108864 - 1) = 67108863 by decide]
          exact and67108863 _ (by omega) (by omega)
        have v0 : 0 ≤ bits .and .u32 (v) (IntKind.u32.wrap (IntKind.u32.wrap 67108864 - 1)) := by rw [eb.out]; omega
        have v1 : bits .and .u32 (v) (IntKind.u32.wrap (IntKind.u32.wrap 67108864 - 1)) < 4294967296 := by rw [eb.out]; omega
        go_region_with (go_at_call 55; refine (put106 w1.heap.size (bits .and .u32 (v) (IntKind.u32.wrap (IntKind.u32.wrap 67108864 - 1))) v0 v1 _ _ hp1 hp2).mono ?_; rintro e w9 ⟨rfl, rfl⟩)
        all_goals
          have E4 := (E2.putM (bits .and .u32 (v) (IntKind.u32.wrap (IntKind.u32.wrap 67108864 - 1)))).drew
          rw [eb.out] at E4
          go_wp2_with fail
          go_roundw
          case rel =>
            refine ⟨p + 1, by omega, ?_⟩
            rw [HY.out.1, HY.out.2.1, HY.out.2.2.1, HY.out.2.2.2]
            first | exact E4 | (rw [eb.out]; exact E4)
          case measure =>
            first | rw [iterPos_of E4.it, iterPos_of E.it] | rw [eb.out, iterPos_of E4.it, iterPos_of E.it]
            omega
    · obtain rfl : p = (lt (sh k)).length := by omega
      have hs : ¬ (lt (sh k)).length < (ByteArray.mk (lt (sh k)).toArray).size := by simp [ByteArray.size]
      have hnx : ∀ ty, (Instr.next (.pointer (some ⟨w1.heap.size + 1, 0, none⟩)) true ty).run Tryd.prog wr = .ok (.tuple #[.bool false]) wr := fun ty => Lib.run_next_end_at wr _ _ _ ty E.it hs
      rw [(y_end _ _).1, (y_end _ _).2.1, (y_end _ _).2.2.1, (y_end _ _).2.2.2] at E
      obtain ⟨q0, q1, q2, q3, q4⟩ := (⟨E.c0, E.c1, E.c2, E.c3, E.c4⟩ : _ ∧ _ ∧ _ ∧ _ ∧ _)
      have hsz : w.heap.size < w1.heap.size := by have := hb1.size; simp at this; omega
      have Twr : Tb pk pb wr := (TA.stays hb1 (Nat.le_refl _)).stays E.bel (Nat.le_refl _)
      have Zwr : ZAt w.heap.size wr := ((ZAt.alloc w).stays hb1 (by simp)).stays E.bel hsz
      have bwr : Below w.heap.size w wr := (bA.trans (hb1.mono (by simp))).trans (E.bel.mono (by omega))
      have hszr : w.heap.size < wr.heap.size := by have := E.bel.size; omega
      rcases HK.out with ⟨k1, k2, k3⟩ | ⟨hk0, k3⟩
      · have ok := ok_of (sh k) hn v h0 h1
        have hok : Hid (okB (sh k) (xs (sh k) v) (xt (sh k) v) (xd (sh k) v) (xm (sh k) v) = true) := ok.1
        have xr := x_rng (sh k) v h0 h1
        go_wp2_with fail
        refine (encode_any pk pb k k1 k2 (xs (sh k) v) (xt (sh k) v) (xd (sh k) v) (xm (sh k) v) ok.2 (by omega) (by omega) (by omega) (by omega) (by omega) (by omega) (by omega) _ Twr).mono ?_
        rintro e w5 ⟨rfl, hb5⟩
        rw [encR_ok hok.out, show enc k (xs (sh k) v) (xt (sh k) v) (xd (sh k) v) (xm (sh k) v) = xw k v from rfl]
        have s : ∀ {a : Addr} {u : Value}, wr.cell? a = some u → w5.cell? a = some u := fun e => cell_stays hb5 (Nat.le_refl _) e
        have g0 := s q0
        have g1 := s q1
        have g2 := s q2
        have g3 := s q3
        have g4 := s q4
        have Z5 := Zwr.stays hb5 hszr
        obtain ⟨z0, z1, z2, z3, z4, zf⟩ := Z5
        have b5 : Below w.heap.size w w5 := bwr.trans (hb5.mono (by omega))
        clear ok xr s
        by_cases hx : xw k v = v
        · have hx' : (xw k v != v) = false := by simpa using hx
          have HX : Hid (xw k v = v) := hx
          clear hx
          go_wp2
          exact bodyPost_ret (v := decR v k) (by simp [results, Tryd.results60, go_sem, decR, z0, z1, z2, z3, z4]) rfl ⟨k, Or.inl ⟨k1, k2, HX.out⟩, rfl, ((((b5.setCell (by simp) _).setCell (by simp) _).setCell (by simp) _).setCell (by simp) _).setCell (by simp) _⟩
        · have hx' : (xw k v != v) = true := by simpa using hx
          have HX : Hid (¬ xw k v = v) := hx
          clear hx
          go_wp2
          refine bodyPost_ret (v := ins 0 0 0 0 0) (by simp [results, Tryd.results60, go_sem, z0, z1, z2, z3, z4]) rfl ⟨0, Or.inr ⟨rfl, fun j j1 j2 e => ?_⟩, rfl, ((((b5.setCell (by simp) _).setCell (by simp) _).setCell (by simp) _).setCell (by simp) _).setCell (by simp) _⟩
          have := xw_key j j2 j1 v h0 h1 e
          have := fst_inj k k2 j j2 k1 j1 (k3.trans this)
          subst this
          exact HX.out e
      · have HK0 : Hid (k = 0) := hk0
        have hno : ¬ (0 < (k : Int) ∧ (k : Int) < 54) := by omega
        clear hk0
        go_wp2_with fail
        refine (encode_kind pk pb k (xs (sh k) v) (xt (sh k) v) (xd (sh k) v) (xm (sh k) v) hno _ Twr).mono ?_
        rintro e w5 ⟨rfl, hb5⟩
        have Z5 := Zwr.stays hb5 hszr
        obtain ⟨z0, z1, z2, z3, z4, zf⟩ := Z5
        have b5 : Below w.heap.size w w5 := bwr.trans (hb5.mono (by omega))
        go_wp2
        exact bodyPost_ret (v := ins 0 0 0 0 0) (by simp [results, Tryd.results60, go_sem, z0, z1, z2, z3, z4]) rfl ⟨0, Or.inr ⟨rfl, fun j j1 j2 e => k3 j j1 j2 (xw_key j j2 j1 v h0 h1 e).symm⟩, rfl, ((((b5.setCell (by simp) _).setCell (by simp) _).setCell (by simp) _).setCell (by simp) _).setCell (by simp) _⟩
end Go.Proofs.YtckcbnfobjmhpaaDoor.K

