/-
  Package ram's small functions.
-/
import Derived.Test.YtckcbnfobjmhpaaDoorFns
import Derived.Test.YtckcbnfobjmhpaaDoorPure
namespace Go.Proofs.YtckcbnfobjmhpaaDoor
open Go.RowKit
open Num
set_option linter.unusedVariables false
/-- the errors that an access answers lie where the program's text lays them -/
structure Er (ps pa pf : Addr) (w : World) : Prop where
  s : w.cell? ⟨4, 0, none⟩ = some (.iface 192 (.pointer (some ps)))
  a : w.cell? ⟨5, 0, none⟩ = some (.iface 192 (.pointer (some pa)))
  f : w.cell? ⟨6, 0, none⟩ = some (.iface 192 (.pointer (some pf)))
/-- .. by number -/
def erA (ps pa pf : Addr) (n : Nat) : Addr := if n = 1 then ps else if n = 2 then pa else pf
set_option maxHeartbeats 1000000 in
theorem pageOf_any (a : Int) (h0 : 0 ≤ a) (h1 : a < 4294967296) (w : World) : Calls Tryd.prog 38 #[.int .u32 a] w fun e w' => e = .returned (.int .i64 (a / 256)) ∧ w' = w := by
  go_enter Tryd.func38, Tryd.ntmps38
  go_wp2
  go_ret
  exact ⟨rfl, rfl⟩
set_option maxHeartbeats 1000000 in
theorem wordOf_any (a : Int) (h0 : 0 ≤ a) (h1 : a < 4294967296) (w : World) : Calls Tryd.prog 39 #[.int .u32 a] w fun e w' => e = .returned (.int .i64 (a % 256 / 4)) ∧ w' = w := by
  go_enter Tryd.func39, Tryd.ntmps39
  go_wp2
  go_ret
  exact ⟨rfl, rfl⟩
set_option maxHeartbeats 1000000 in
theorem bits_any (a s : Int) (h0 : 0 ≤ a) (h1 : a < 4294967296) (hc : chk a s = 0) (w : World) : Calls Tryd.prog 40 #[.int .u32 a, .int .i64 s] w fun e w' => e = .returned (.int .u32 (bhd a s)) ∧ w' = w := by
  obtain ⟨hs, hm, _⟩ := chk_ok hc
  have hb : 0 ≤ 4 - a % 4 - s := by
    rcases hs with rfl | rfl | rfl <;> omega
  have hs' : 1 ≤ s ∧ s ≤ 4 := by omega
  clear hs hm hc
  obtain ⟨hs1, hs2⟩ := hs'
  go_enter Tryd.func40, Tryd.ntmps40
  go_wp2
  go_ret
  exact ⟨ret_int (by unfold bhd; omega), rfl⟩
set_option maxHeartbeats 1000000 in
theorem check_ok (a s : Int) (h0 : 0 ≤ a) (h1 : a < 4294967296) (hc : chk a s = 0) (w : World) : Calls Tryd.prog 36 #[.int .u32 a, .int .i64 s] w fun e w' => e = .returned .nilIface ∧ w' = w := by
  obtain ⟨hs, hm, hf⟩ := chk_ok hc
  clear hc
  rcases hs with rfl | rfl | rfl
  all_goals
    go_enter Tryd.func36, Tryd.ntmps36
    go_wp2
    go_ret
    exact ⟨rfl, rfl⟩
set_option maxHeartbeats 1000000 in
theorem check_no (ps pa pf : Addr) (a s : Int) (h0 : 0 ≤ a) (h1 : a < 4294967296) (s0 : -9223372036854775808 ≤ s) (s1 : s ≤ 9223372036854775807) (hc : chk a s ≠ 0) (w : World) (E : Er ps pa pf w) : Calls Tryd.prog 36 #[.int .u32 a, .int .i64 s] w fun e w' => e = .returned (.iface 192 (.pointer (some (erA ps pa pf (chk a s))))) ∧ w' = w := by
  obtain ⟨es, ea, ef⟩ := E
  by_cases hs : s ≠ 1 ∧ s ≠ 2 ∧ s ≠ 4
  · have e : Hid (erA ps pa pf (chk a s) = ps) := by show _ = _; unfold erA chk; rw [if_pos hs]; rfl
    obtain ⟨n1, n2, n4⟩ := hs
    have d1 : (s != 1) = true := by simpa using n1
    have d2 : (s != 2) = true := by simpa using n2
    have d4 : (s != 4) = true := by simpa using n4
    clear hc n1 n2 n4
    go_enter Tryd.func36, Tryd.ntmps36
    go_wp2
    go_ret
    exact ⟨by rw [e.out]; rfl, rfl⟩
  · by_cases hm : a % s ≠ 0
    · have e : Hid (erA ps pa pf (chk a s) = pa) := by show _ = _; unfold erA chk; rw [if_neg hs, if_pos hm]; rfl
      have hs' : s = 1 ∨ s = 2 ∨ s = 4 := by omega
      clear hc hs
      rcases hs' with rfl | rfl | rfl
      · omega
      all_goals
        go_enter Tryd.func36, Tryd.ntmps36
        go_wp2
        go_ret
        exact ⟨by rw [e.out]; rfl, rfl⟩
    · by_cases hf : 16384 ≤ a
      · have e : Hid (erA ps pa pf (chk a s) = pf) := by show _ = _; unfold erA chk; rw [if_neg hs, if_neg hm, if_pos hf]; rfl
        have hs' : s = 1 ∨ s = 2 ∨ s = 4 := by omega
        have hm' : a % s = 0 := by simpa using hm
        clear hc hs hm
        rcases hs' with rfl | rfl | rfl
        all_goals
          go_enter Tryd.func36, Tryd.ntmps36
          go_wp2
          go_ret
          exact ⟨by rw [e.out]; rfl, rfl⟩
      · exact absurd (by unfold chk; rw [if_neg hs, if_neg hm, if_neg hf]) hc
end Go.Proofs.YtckcbnfobjmhpaaDoor
