/-
  Load.
-/
import Derived.Test.YtckcbnfobjmhpaaDoorOwn
namespace Go.Proofs.YtckcbnfobjmhpaaDoor
open Go.RowKit Go.Maps
open Num
set_option linter.unusedVariables false
theorem run_index (m : Nat → Int) (n i : Nat) (h : i < 64) (w : World) : (Instr.index 79 (.agg (pgA m n)) (.int .i64 i)).run Tryd.prog w = .ok (.int .u32 (m (64 * n + i))) w := by
  have e1 : (sizeOf 23).run Tryd.prog w = .ok 1 w := by kernel_rfl
  have hg := pgA_get m n i h
  simp [Instr.index, run_underlying Tryd.underlying79, e1, h, part, hg, go_sem]
set_option maxHeartbeats 1000000 in
theorem load_ok {w : World} {sb bp bw bh N : Nat} {m : Nat → Int} {wt ht : Int → Bool} (R : RamIs w sb bp bw bh N m wt ht) (a s : Int) (sg : Bool) (h0 : 0 ≤ a) (h1 : a < 4294967296) (hc : chk a s = 0) :
    Calls Tryd.prog 58 #[.pointer (some ⟨sb, 0, none⟩), .int .u32 a, .int .i64 s, .bool sg] w fun e w' => e = .returned (.tuple #[.int .u32 (ld m a s sg), .nilIface]) ∧ ∃ n, w' = w.drewN n := by
  obtain ⟨hs, hm, hf⟩ := chk_ok hc
  have c0 := R.c0
  have hlook : ∀ n, (Instr.lookup 80 (.map (some bp)) (.int .i64 (a / 256)) false).run Tryd.prog (w.drewN n) = .ok (.agg (pgA m (a / 256).toNat)) (w.drewN n) := by
    intro n
    have hp : PagesAt (w.drewN n) bp N m := R.ps
    have := hp.look (a / 256).toNat (by omega)
    rwa [Int.toNat_of_nonneg (by omega)] at this
  have hidx : ∀ w, (Instr.index 79 (.agg (pgA m (a / 256).toNat)) (.int .i64 (a % 256 / 4))).run Tryd.prog w = .ok (.int .u32 (m (a / 4).toNat)) w := by
    intro w
    have := run_index m (a / 256).toNat (a % 256 / 4).toNat (by omega) w
    rwa [Int.toNat_of_nonneg (by omega), show 64 * (a / 256).toNat + (a % 256 / 4).toNat = (a / 4).toNat by omega] at this
  have hck := fun w => check_ok a s h0 h1 hc w
  have hbits := fun w => bits_any a s h0 h1 hc w
  have hb0 : 0 ≤ bhd a s ∧ bhd a s ≤ 24 := by unfold bhd; rcases hs with rfl | rfl | rfl <;> omega
  obtain ⟨b0, b1⟩ := hb0
  have mb := R.mb (a / 4).toNat
  have hs' : 1 ≤ s ∧ s ≤ 4 := by omega
  have W1 : Hid (0 ≤ m (a / 4).toNat / 2 ^ (bhd a s).toNat ∧ m (a / 4).toNat / 2 ^ (bhd a s).toNat < 4294967296) := by
    have := ediv_bd (d := 2 ^ (bhd a s).toNat) mb.1 (Int.pow_pos (by omega)); exact ⟨this.1, by omega⟩
  obtain ⟨s0, s1⟩ := hs'
  clear R hs hm hf hc
  go_enter Tryd.func58, Tryd.ntmps58
  go_wp2_with (go_at_call 36; refine (hck _).mono ?_; rintro e w' ⟨rfl, rfl⟩)
  go_quiet ((first | (go_at_call 38; exact Calls.quiet_of_same (pageOf_any _ h0 h1 _)) | (go_at_call 39; exact Calls.quiet_of_same (wordOf_any _ h0 h1 _))))
  go_wp2_with (first | (go_at_call 40; refine (hbits _).mono ?_; rintro e w' ⟨rfl, rfl⟩) | (go_at_call 41; refine (wide_any _ _ _ W1.out.1 W1.out.2 _).mono ?_; rintro e w' ⟨rfl, rfl⟩))
  go_ret2
  exact ⟨rfl, nq, rfl⟩
set_option maxHeartbeats 1000000 in
theorem load_no (ps pa pf : Addr) {w : World} (E : Er ps pa pf w) (v : Value) (a s : Int) (sg : Bool) (h0 : 0 ≤ a) (h1 : a < 4294967296) (s0 : -9223372036854775808 ≤ s) (s1 : s ≤ 9223372036854775807) (hc : chk a s ≠ 0) :
    Calls Tryd.prog 58 #[v, .int .u32 a, .int .i64 s, .bool sg] w fun e w' => e = .returned (.tuple #[.int .u32 0, .iface 192 (.pointer (some (erA ps pa pf (chk a s))))]) ∧ w' = w := by
  have hck := check_no ps pa pf a s h0 h1 s0 s1 hc w E
  clear E hc
  go_enter Tryd.func58, Tryd.ntmps58
  go_wp2_with (go_at_call 36; refine hck.mono ?_; rintro e w' ⟨rfl, rfl⟩)
  go_ret2
  exact ⟨rfl, rfl⟩
end Go.Proofs.YtckcbnfobjmhpaaDoor
