/-
  A bus in one word: what a store and a load make of it, of the program's and of the document's.
-/
import Derived.Test.YtlibfnmdhbfngaaDoorSeen
namespace Go.Proofs.YtlibfnmdhbfngaaDoor
open Go.RowKit Go.Maps
open Num
set_option linter.unusedVariables false
structure Bs where
  m : Nat → Int
  out : List Int
  lamp : Int
  tr : List Acc
/-- does an access go wrong? -/
def bad (a s : Int) : Bool := !dev a s && decide (chk a s ≠ 0)
def Bs.put (b : Bs) (a s v c : Int) : Bs := if dev a s = true then ⟨b.m, outN b.out a v, lampN b.lamp a v, b.tr ++ [⟨c, true, a, v⟩]⟩ else if chk a s = 0 then ⟨upd b.m a s v, b.out, b.lamp, b.tr⟩ else b
def Bs.got (b : Bs) (a s c : Int) : Bs := if dev a s = true then ⟨b.m, b.out, b.lamp, b.tr ++ [⟨c, false, a, devV a c b.lamp⟩]⟩ else b
def Bs.val (b : Bs) (a s : Int) (sg : Bool) (c : Int) : Int := if dev a s = true then devV a c b.lamp else if chk a s = 0 then ld b.m a s sg else 0
/-- the error that is told -/
def erV (ps pa pf : Addr) (a s : Int) : Value := if bad a s = true then .iface 115 (.pointer (some (erA ps pa pf (chk a s)))) else .nilIface
theorem dev_chk {a s : Int} (h : chk a s = 0) : dev a s = false := by
  have := (chk_ok h).2.2
  unfold dev; simp; omega
theorem Bs.put_out (b : Bs) (a s v c : Int) : (b.put a s v c).out.length ≤ b.out.length + 1 := by
  unfold Bs.put
  split
  · show (outN b.out a v).length ≤ _
    unfold outN; split <;> simp
  · split
    · show b.out.length ≤ _; omega
    · omega
theorem Bs.put_tr (b : Bs) (a s v c : Int) : (b.put a s v c).tr.length ≤ b.tr.length + 1 := by
  unfold Bs.put
  split
  · show (b.tr ++ [_]).length ≤ _; simp
  · split
    · show b.tr.length ≤ _; omega
    · omega
theorem Bs.got_tr (b : Bs) (a s c : Int) : (b.got a s c).tr.length ≤ b.tr.length + 1 := by
  unfold Bs.got
  split
  · show (b.tr ++ [_]).length ≤ _; simp
  · omega
theorem Bs.got_out (b : Bs) (a s c : Int) : (b.got a s c).out = b.out := by unfold Bs.got; split <;> rfl
section
variable {w : World} {base bb sb bp bw bh N : Nat} {b : Bs} {vo vt : Value}
theorem store_all (ps pa pf : Addr) (E : Er ps pa pf w) (B : BusIs w base bb sb bp bw bh N b.m F0 F0 b.out b.lamp b.tr vo vt) (a s v c : Int) (h0 : 0 ≤ a) (h1 : a < 4294967296) (s0 : -9223372036854775808 ≤ s) (s1 : s ≤ 9223372036854775807) (v0 : 0 ≤ v) (v1 : v < 4294967296) (c0 : -9223372036854775808 ≤ c) (c1 : c ≤ 9223372036854775807) (hn : b.out.length ≤ 1000) (hn2 : b.tr.length ≤ 1000) (hN : N + 1 < maxLen) :
    Calls Tryd.prog 54 #[.pointer (some ⟨bb, 0, none⟩), .int .u32 a, .int .i64 s, .int .u32 v, .int .i64 c] w fun e w' => e = .returned (erV ps pa pf a s) ∧ ∃ N' vo' vt', N' ≤ N + 2 ∧ BusIs w' base bb sb bp bw bh N' (b.put a s v c).m F0 F0 (b.put a s v c).out (b.put a s v c).lamp (b.put a s v c).tr vo' vt' ∧ BTurned w w' bb bp bh vo vt ∧ Moved w vo vo' ∧ Moved w vt vt' := by
  by_cases hd : dev a s = true
  · refine (store_dev B a s v c h0 h1 s0 s1 v0 v1 c0 c1 hn hn2 hd).mono ?_
    rintro e w' ⟨rfl, vo', vt', B', T, M1, M2⟩
    refine ⟨by simp [erV, bad, hd], N, vo', vt', by omega, ?_, T, M1, M2⟩
    unfold Bs.put; rw [if_pos hd]; exact B'
  · have hd' : dev a s = false := by simpa using hd
    by_cases hc : chk a s = 0
    · have hs := store_mem B a s v c h0 h1 s0 s1 v0 v1 hN hc
      rw [F0_hit] at hs
      refine hs.mono ?_
      rintro e w' ⟨rfl, B', T⟩
      refine ⟨by simp [erV, bad, hd', hc], N + 2, vo, vt, by omega, ?_, BTurned.of_turned T, Moved.refl _ _, Moved.refl _ _⟩
      unfold Bs.put; rw [if_neg hd, if_pos hc]; exact B'
    · refine (store_bad ps pa pf E B a s v c h0 h1 s0 s1 hc hd').mono ?_
      rintro e w' ⟨rfl, rfl⟩
      refine ⟨by simp [erV, bad, hd', hc], N, vo, vt, by omega, ?_, BTurned.refl _ _ _ _ _ _, Moved.refl _ _, Moved.refl _ _⟩
      unfold Bs.put; rw [if_neg hd, if_neg hc]; exact B
theorem load_all (ps pa pf : Addr) (E : Er ps pa pf w) (B : BusIs w base bb sb bp bw bh N b.m F0 F0 b.out b.lamp b.tr vo vt) (a s c : Int) (sg : Bool) (h0 : 0 ≤ a) (h1 : a < 4294967296) (s0 : -9223372036854775808 ≤ s) (s1 : s ≤ 9223372036854775807) (c0 : -9223372036854775808 ≤ c) (c1 : c ≤ 9223372036854775807) (hn2 : b.tr.length ≤ 1000) :
    Calls Tryd.prog 52 #[.pointer (some ⟨bb, 0, none⟩), .int .u32 a, .int .i64 s, .bool sg, .int .i64 c] w fun e w' => e = .returned (.tuple #[.int .u32 (b.val a s sg c), erV ps pa pf a s]) ∧ ∃ vt', BusIs w' base bb sb bp bw bh N (b.got a s c).m F0 F0 (b.got a s c).out (b.got a s c).lamp (b.got a s c).tr vo vt' ∧ BTurned w w' bb bp bh vo vt ∧ Moved w vt vt' := by
  by_cases hd : dev a s = true
  · refine (load_dev B a s c sg h0 h1 s0 s1 c0 c1 hn2 hd).mono ?_
    rintro e w' ⟨rfl, vt', B', T, M2⟩
    refine ⟨by simp [erV, bad, hd, Bs.val], vt', ?_, T, M2⟩
    unfold Bs.got; rw [if_pos hd]; exact B'
  · have hd' : dev a s = false := by simpa using hd
    by_cases hc : chk a s = 0
    · refine (load_mem B a s c sg h0 h1 s0 s1 hc).mono ?_
      rintro e w' ⟨rfl, k, rfl⟩
      have hb := below_drewN (Below.refl w.heap.size w) k
      refine ⟨by simp [erV, bad, hd', hc, Bs.val], vt, ?_, BTurned.of_below hb, Moved.refl _ _⟩
      unfold Bs.got; rw [if_neg hd]; exact B.stays hb
    · refine (load_bad ps pa pf E B a s c sg h0 h1 s0 s1 hc hd').mono ?_
      rintro e w' ⟨rfl, rfl⟩
      refine ⟨by simp [erV, bad, hd', hc, Bs.val], vt, ?_, BTurned.refl _ _ _ _ _ _, Moved.refl _ _⟩
      unfold Bs.got; rw [if_neg hd]; exact B
end
section
variable {w : World} {base db rb gb kb : Nat} {b : Bs} {vd : Value}
end
end Go.Proofs.YtlibfnmdhbfngaaDoor
