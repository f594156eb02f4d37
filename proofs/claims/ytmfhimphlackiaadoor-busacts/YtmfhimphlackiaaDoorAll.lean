/-
  A bus in one word: what a store and a load make of it, of the program's and of the document's.
-/
import Derived.Test.YtmfhimphlackiaaDoorActsInv
import Derived.Test.YtmfhimphlackiaaDoorDocAct
namespace Go.Proofs.YtmfhimphlackiaaDoor
open Go.RowKit Go.Maps
open Num
set_option linter.unusedVariables false
structure Bs where
  m : Nat → Int
  out : List Int
  lamp : Int
  tr : List Acc
/-- does an access go wrong? -/
def bad (a s : Int) : Bool := !dev a s && decide (chk a s ≠ 0)
def Bs.put (b : Bs) (a s v c : Int) : Bs := if dev a s = true then ⟨b.m, outN b.out a v, lampN b.lamp a v, b.tr ++ [⟨c, true, a, v⟩]⟩ else if chk a s = 0 then ⟨upd b.m a s v, b.out, b.lamp, b.tr⟩ else b
def Bs.got (b : Bs) (a s c : Int) : Bs := if dev a s = true then ⟨b.m, b.out, b.lamp, b.tr ++ [⟨c, false, a, devV a c b.lamp⟩]⟩ else b
def Bs.val (b : Bs) (a s : Int) (sg : Bool) (c : Int) : Int := if dev a s = true then devV a c b.lamp else if chk a s = 0 then ld b.m a s sg else 0
/-- the error that is told -/
def erV (ps pa pf : Addr) (a s : Int) : Value := if bad a s = true then .iface 174 (.pointer (some (erA ps pa pf (chk a s)))) else .nilIface
def rcV (a s : Int) : Int := if bad a s = true then rc a s else 0
theorem dev_chk {a s : Int} (h : chk a s = 0) : dev a s = false := by
  have := (chk_ok h).2.2
  unfold dev; simp; omega
theorem Bs.put_out (b : Bs) (a s v c : Int) : (b.put a s v c).out.length ≤ b.out.length + 1 := by
  unfold Bs.put
  split
  · show (outN b.out a v).length ≤ _
    unfold outN; split <;> simp
  · split
    · show b.out.length ≤ _; omega
    · omega
theorem Bs.put_tr (b : Bs) (a s v c : Int) : (b.put a s v c).tr.length ≤ b.tr.length + 1 := by
  unfold Bs.put
  split
  · show (b.tr ++ [_]).length ≤ _; simp
  · split
    · show b.tr.length ≤ _; omega
    · omega
theorem Bs.got_tr (b : Bs) (a s c : Int) : (b.got a s c).tr.length ≤ b.tr.length + 1 := by
  unfold Bs.got
  split
  · show (b.tr ++ [_]).length ≤ _; simp
  · omega
theorem Bs.got_out (b : Bs) (a s c : Int) : (b.got a s c).out = b.out := by unfold Bs.got; split <;> rfl
section
variable {w : World} {base bb sb bp bw bh N : Nat} {b : Bs} {vo vt : Value}
theorem store_all (ps pa pf : Addr) (E : Er ps pa pf w) (B : BusIs w base bb sb bp bw bh N b.m F0 F0 b.out b.lamp b.tr vo vt) (a s v c : Int) (h0 : 0 ≤ a) (h1 : a < 4294967296) (s0 : -9223372036854775808 ≤ s) (s1 : s ≤ 9223372036854775807) (v0 : 0 ≤ v) (v1 : v < 4294967296) (c0 : -9223372036854775808 ≤ c) (c1 : c ≤ 9223372036854775807) (hn : b.out.length ≤ 1000) (hn2 : b.tr.length ≤ 1000) (hN : N + 1 < maxLen) :
    Calls Tryd.prog 27 #[.pointer (some ⟨bb, 0, none⟩), .int .u32 a, .int .i64 s, .int .u32 v, .int .i64 c] w fun e w' => e = .returned (erV ps pa pf a s) ∧ ∃ N' vo' vt', N' ≤ N + 2 ∧ BusIs w' base bb sb bp bw bh N' (b.put a s v c).m F0 F0 (b.put a s v c).out (b.put a s v c).lamp (b.put a s v c).tr vo' vt' ∧ BTurned w w' bb bp bh vo vt ∧ Moved w vo vo' ∧ Moved w vt vt' := by
  by_cases hd : dev a s = true
  · refine (store_dev B a s v c h0 h1 s0 s1 v0 v1 c0 c1 hn hn2 hd).mono ?_
    rintro e w' ⟨rfl, vo', vt', B', T, M1, M2⟩
    refine ⟨by simp [erV, bad, hd], N, vo', vt', by omega, ?_, T, M1, M2⟩
    unfold Bs.put; rw [if_pos hd]; exact B'
  · have hd' : dev a s = false := by simpa using hd
    by_cases hc : chk a s = 0
    · have hs := store_mem B a s v c h0 h1 s0 s1 v0 v1 hN hc
      rw [F0_hit] at hs
      refine hs.mono ?_
      rintro e w' ⟨rfl, B', T⟩
      refine ⟨by simp [erV, bad, hd', hc], N + 2, vo, vt, by omega, ?_, BTurned.of_turned T, Moved.refl _ _, Moved.refl _ _⟩
      unfold Bs.put; rw [if_neg hd, if_pos hc]; exact B'
    · refine (store_bad ps pa pf E B a s v c h0 h1 s0 s1 hc hd').mono ?_
      rintro e w' ⟨rfl, rfl⟩
      refine ⟨by simp [erV, bad, hd', hc], N, vo, vt, by omega, ?_, BTurned.refl _ _ _ _ _ _, Moved.refl _ _, Moved.refl _ _⟩
      unfold Bs.put; rw [if_neg hd, if_neg hc]; exact B
theorem load_all (ps pa pf : Addr) (E : Er ps pa pf w) (B : BusIs w base bb sb bp bw bh N b.m F0 F0 b.out b.lamp b.tr vo vt) (a s c : Int) (sg : Bool) (h0 : 0 ≤ a) (h1 : a < 4294967296) (s0 : -9223372036854775808 ≤ s) (s1 : s ≤ 9223372036854775807) (c0 : -9223372036854775808 ≤ c) (c1 : c ≤ 9223372036854775807) (hn2 : b.tr.length ≤ 1000) :
    Calls Tryd.prog 28 #[.pointer (some ⟨bb, 0, none⟩), .int .u32 a, .int .i64 s, .bool sg, .int .i64 c] w fun e w' => e = .returned (.tuple #[.int .u32 (b.val a s sg c), erV ps pa pf a s]) ∧ ∃ vt', BusIs w' base bb sb bp bw bh N (b.got a s c).m F0 F0 (b.got a s c).out (b.got a s c).lamp (b.got a s c).tr vo vt' ∧ BTurned w w' bb bp bh vo vt ∧ Moved w vt vt' := by
  by_cases hd : dev a s = true
  · refine (load_dev B a s c sg h0 h1 s0 s1 c0 c1 hn2 hd).mono ?_
    rintro e w' ⟨rfl, vt', B', T, M2⟩
    refine ⟨by simp [erV, bad, hd, Bs.val], vt', ?_, T, M2⟩
    unfold Bs.got; rw [if_pos hd]; exact B'
  · have hd' : dev a s = false := by simpa using hd
    by_cases hc : chk a s = 0
    · refine (load_mem B a s c sg h0 h1 s0 s1 hc).mono ?_
      rintro e w' ⟨rfl, k, rfl⟩
      have hb := below_drewN (Below.refl w.heap.size w) k
      refine ⟨by simp [erV, bad, hd', hc, Bs.val], vt, ?_, BTurned.of_below hb, Moved.refl _ _⟩
      unfold Bs.got; rw [if_neg hd]; exact B.stays hb
    · refine (load_bad ps pa pf E B a s c sg h0 h1 s0 s1 hc hd').mono ?_
      rintro e w' ⟨rfl, rfl⟩
      refine ⟨by simp [erV, bad, hd', hc, Bs.val], vt, ?_, BTurned.refl _ _ _ _ _ _, Moved.refl _ _⟩
      unfold Bs.got; rw [if_neg hd]; exact B
end
section
variable {w : World} {base db rb gb kb : Nat} {b : Bs} {vd : Value}
theorem dstore_all (B : DBus w base db rb gb kb b.m b.out b.lamp b.tr vd) (a s v c : Int) (h0 : 0 ≤ a) (h1 : a < 4294967296) (s0 : -9223372036854775808 ≤ s) (s1 : s ≤ 9223372036854775807) (v0 : 0 ≤ v) (v1 : v < 4294967296) (hn : b.out.length ≤ 1000) (hn2 : b.tr.length ≤ 1000) :
    Calls Tryd.prog 32 #[.pointer (some ⟨db, 0, none⟩), .int .u32 a, .int .i64 s, .int .u32 v, .int .i64 c] w fun e w' => e = .returned (.int .i64 (rcV a s)) ∧ ∃ vd', DBus w' base db rb gb kb (b.put a s v c).m (b.put a s v c).out (b.put a s v c).lamp (b.put a s v c).tr vd' ∧ DTurned w w' db gb vd ∧ Moved w vd vd' := by
  by_cases hd : dev a s = true
  · refine (dbstore_dev B a s v c h0 h1 s0 s1 v0 v1 hn hn2 hd).mono ?_
    rintro e w' ⟨rfl, vd', B', T, M1⟩
    refine ⟨by simp [rcV, bad, hd], vd', ?_, T, M1⟩
    unfold Bs.put; rw [if_pos hd]; exact B'
  · have hd' : dev a s = false := by simpa using hd
    by_cases hc : chk a s = 0
    · refine (dbstore_mem B a s v c h0 (chk_ok hc).2.2 v0 v1 hc).mono ?_
      rintro e w' ⟨rfl, B', T⟩
      refine ⟨by simp [rcV, bad, hd', hc], vd, ?_, DTurned.of_grown T, Moved.refl _ _⟩
      unfold Bs.put; rw [if_neg hd, if_pos hc]; exact B'
    · have hr : Calls Tryd.prog 32 #[.pointer (some ⟨db, 0, none⟩), .int .u32 a, .int .i64 s, .int .u32 v, .int .i64 c] w fun e w' => e = .returned (.int .i64 (rc a s)) ∧ w' = w := by
        by_cases ha : a < 16384
        · exact dbstore_low B a s v c h0 ha s0 s1 hc
        · exact dbstore_high w _ a s v c (by omega) h1 s0 s1 hd' hc
      refine hr.mono ?_
      rintro e w' ⟨rfl, rfl⟩
      refine ⟨by simp [rcV, bad, hd', hc], vd, ?_, DTurned.refl _ _ _ _, Moved.refl _ _⟩
      unfold Bs.put; rw [if_neg hd, if_neg hc]; exact B
theorem dload_all (B : DBus w base db rb gb kb b.m b.out b.lamp b.tr vd) (a s c : Int) (sg : Bool) (h0 : 0 ≤ a) (h1 : a < 4294967296) (s0 : -9223372036854775808 ≤ s) (s1 : s ≤ 9223372036854775807) (c0 : -9223372036854775808 ≤ c) (c1 : c ≤ 9223372036854775807) (hn2 : b.tr.length ≤ 1000) :
    Calls Tryd.prog 33 #[.pointer (some ⟨db, 0, none⟩), .int .u32 a, .int .i64 s, .bool sg, .int .i64 c] w fun e w' => e = .returned (.tuple #[.int .u32 (b.val a s sg c), .int .i64 (rcV a s)]) ∧ ∃ vd', DBus w' base db rb gb kb (b.got a s c).m (b.got a s c).out (b.got a s c).lamp (b.got a s c).tr vd' ∧ DTurned w w' db gb vd ∧ Moved w vd vd' := by
  by_cases hd : dev a s = true
  · refine (dbload_dev B a s c sg h0 h1 s0 s1 c0 c1 hn2 hd).mono ?_
    rintro e w' ⟨rfl, vd', B', T, M1⟩
    refine ⟨by simp [rcV, bad, hd, Bs.val], vd', ?_, T, M1⟩
    unfold Bs.got; rw [if_pos hd]; exact B'
  · have hd' : dev a s = false := by simpa using hd
    by_cases hc : chk a s = 0
    · refine (dbload_mem B a s c sg h0 (chk_ok hc).2.2 hc).mono ?_
      rintro e w' ⟨rfl, rfl⟩
      refine ⟨by simp [rcV, bad, hd', hc, Bs.val], vd, ?_, DTurned.refl _ _ _ _, Moved.refl _ _⟩
      unfold Bs.got; rw [if_neg hd]; exact B
    · have hr : Calls Tryd.prog 33 #[.pointer (some ⟨db, 0, none⟩), .int .u32 a, .int .i64 s, .bool sg, .int .i64 c] w fun e w' => e = .returned (.tuple #[.int .u32 0, .int .i64 (rc a s)]) ∧ w' = w := by
        by_cases ha : a < 16384
        · exact dbload_low B a s c sg h0 ha s0 s1 hc
        · exact dbload_high w _ a s c sg (by omega) h1 s0 s1 hd' hc
      refine hr.mono ?_
      rintro e w' ⟨rfl, rfl⟩
      refine ⟨by simp [rcV, bad, hd', hc, Bs.val], vd, ?_, DTurned.refl _ _ _ _, Moved.refl _ _⟩
      unfold Bs.got; rw [if_neg hd]; exact B
end
theorem coded_all {S : Nat → Addr} {w : World} (E : Errs S w) (a s : Int) : Calls Tryd.prog 18 #[erV (S 2) (S 8) (S 9) a s, .int .i64 (rcV a s)] w fun e w' => e = .returned (.bool true) ∧ Below w.heap.size w w' := by
  unfold erV rcV
  by_cases h : bad a s = true
  · rw [if_pos h, if_pos h]
    exact coded_err E a s (by simp [bad] at h; exact h.2)
  · rw [if_neg h, if_neg h]
    exact (coded_nil w).mono fun e w' ⟨h1, h2⟩ => ⟨h1, by rw [h2]; exact Below.refl _ _⟩
end Go.Proofs.YtmfhimphlackiaaDoor
