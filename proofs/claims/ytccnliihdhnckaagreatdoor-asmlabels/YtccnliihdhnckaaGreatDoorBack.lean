/-
  What the calls within CodeBack and CodeWords answer: an error's number; a word's instruction, and its word again.
-/
import Derived.Test.YtccnliihdhnckaaGreatDoorKinds
namespace Go.Proofs.YtccnliihdhnckaaGreatDoor
open Go.RowKit Go.Extern.Stop Go.Stop Go.Extern
open Num Tab
set_option linter.unusedVariables false
theorem coded_nil (w : World) :
    Calls Tryz.prog 10 #[.nilIface, .int .i64 0] w fun e w' => e = .returned (.bool true) ∧ w' = w := by
  go_enter Tryz.func10, Tryz.ntmps10
  go_wp2_with (go_at_call 33; refine (code_nil _).mono ?_; rintro e w' ⟨rfl, rfl⟩)
  go_ret
  exact ⟨rfl, rfl⟩
set_option maxHeartbeats 1000000 in
theorem coded_bare (S : Nat → Addr) (p : Addr) (k : Nat) (c : Int) (w : World) (EE : Errs S w) (hk : Which S p k) (hp : ∃ c t, w.heap[p.block]? = some (.cells c t (0, 0))) (hc : num k = c) :
    Calls Tryz.prog 10 #[.iface 210 (.pointer (some p)), .int .i64 c] w fun e w' => e = .returned (.bool true) ∧ Below w.heap.size w w' := by
  go_enter Tryz.func10, Tryz.ntmps10
  go_wp2_with (go_at_call 33; refine (code_bare S p k _ EE hk hp).mono ?_; rintro e w' ⟨rfl, hb⟩)
  go_ret
  exact ⟨rfl, hb⟩
theorem coded_kind (S : Nat → Addr) (w : World) (EE : Errs S w) : Calls Tryz.prog 10 #[.iface 210 (.pointer (some (S 3))), .int .i64 4] w fun e w' => e = .returned (.bool true) ∧ Below w.heap.size w w' :=
  coded_bare S (S 3) 3 4 w EE (Or.inl ⟨by omega, rfl⟩) (EE.row 3 (by omega)) (by decide)
theorem coded_bound (S : Nat → Addr) (w : World) (EE : Errs S w) : Calls Tryz.prog 10 #[.iface 210 (.pointer (some (S 1))), .int .i64 2] w fun e w' => e = .returned (.bool true) ∧ Below w.heap.size w w' :=
  coded_bare S (S 1) 1 2 w EE (Or.inl ⟨by omega, rfl⟩) (EE.row 1 (by omega)) (by decide)
/-- the instruction of a word has that word -/
theorem encode_back (pk pb : Addr) (v : Int) (h0 : 0 ≤ v) (h1 : v < 4294967296) (k : Nat) (s t d m : Int) (I : IsIns v k s t d m) (hk : ¬ (k : Int) = 0) (w : World) (T : Tb pk pb w) :
    Calls Tryz.prog 25 #[ins k s t d m] w fun e w' => e = .returned (.tuple #[.int .u32 v, .nilIface]) ∧ Below w.heap.size w w' := by
  have hlt := ins_lt I
  obtain ⟨D, rfl, rfl, rfl, rfl⟩ := I
  have ok := ok_of (sh k) (sh_all k hlt) v h0 h1
  have xr := x_rng (sh k) v h0 h1
  have h := encode_any pk pb k (by omega) hlt (xs (sh k) v) (xt (sh k) v) (xd (sh k) v) (xm (sh k) v) ok.2 (by omega) (by omega) (by omega) (by omega) (by omega) (by omega) (by omega) w T
  have hx : xw k v = v := by
    rcases D with d | d
    · exact d.2.2
    · exact absurd d.1 (by omega)
  rw [encR_ok ok.1, show enc k (xs (sh k) v) (xt (sh k) v) (xd (sh k) v) (xm (sh k) v) = xw k v from rfl, hx] at h
  exact h
/-- the word of an instruction is that instruction's -/
theorem ins_back (k : Nat) (hk : k < 54) (h1 : 1 ≤ k) (s t d m : Int) (hm : 0 ≤ m) (ok : okB (sh k) s t d m = true) (j : Nat) (s' t' d' m' : Int) (I : IsIns (enc k s t d m) j s' t' d' m') : j = k ∧ s' = s ∧ t' = t ∧ d' = d ∧ m' = m := by
  obtain ⟨e0, e1, e2, e3, e4, e5, e6⟩ := enc_of k hk h1 s t d m hm ok
  have hx : xw k (enc k s t d m) = enc k s t d m := by
    unfold xw; rw [e3, e4, e5, e6]
  obtain ⟨D, rfl, rfl, rfl, rfl⟩ := I
  have hj : j = k := by
    rcases D with ⟨d1, d2, d3⟩ | ⟨d1, d2⟩
    · exact xw_one j k d2 d1 hk h1 _ e0 e1 d3 hx
    · exact absurd hx (d2 k h1 hk)
  subst hj
  exact ⟨rfl, e3, e4, e5, e6⟩
theorem decode_back (pk pb : Addr) (k : Nat) (hk : k < 54) (h1 : 1 ≤ k) (s t d m : Int) (hm : 0 ≤ m) (ok : okB (sh k) s t d m = true) (w : World) (T : Tb pk pb w) :
    Calls Tryz.prog 20 #[.int .u32 (enc k s t d m)] w fun e w' => e = .returned (ins k s t d m) ∧ Below w.heap.size w w' := by
  have e := enc_of k hk h1 s t d m hm ok
  refine (decode_ins pk pb _ e.1 e.2.1 w T).mono ?_
  rintro e w' ⟨j, s', t', d', m', I, rfl, hb⟩
  obtain ⟨rfl, rfl, rfl, rfl, rfl⟩ := ins_back k hk h1 s t d m hm ok j s' t' d' m' I.out
  exact ⟨rfl, hb⟩
/-- what Encode answers of any instruction: its word, or one of two errors -/
theorem encode_all (pk pb : Addr) (o s t d m : Int) (m0 : 0 ≤ m) (m1 : m < 4294967296) (s0 : -9223372036854775808 ≤ s) (s1 : s ≤ 9223372036854775807) (t0 : -9223372036854775808 ≤ t) (t1 : t ≤ 9223372036854775807) (d0 : -9223372036854775808 ≤ d) (d1 : d ≤ 9223372036854775807) (w : World) (T : Tb pk pb w) :
    Calls Tryz.prog 25 #[ins o s t d m] w fun e w' => ((∃ k : Nat, o = k ∧ k < 54 ∧ 1 ≤ k ∧ okB (sh k) s t d m = true ∧ e = .returned (.tuple #[.int .u32 (enc k s t d m), .nilIface])) ∨ (∃ k : Nat, o = k ∧ k < 54 ∧ 1 ≤ k ∧ okB (sh k) s t d m = false ∧ e = .returned (.tuple #[.int .u32 0, .iface 210 (.pointer (some pb))])) ∨ (¬ (0 < o ∧ o < 54) ∧ e = .returned (.tuple #[.int .u32 0, .iface 210 (.pointer (some pk))]))) ∧ Below w.heap.size w w' := by
  by_cases ho : 0 < o ∧ o < 54
  · obtain ⟨k, rfl⟩ : ∃ k : Nat, o = k := ⟨o.toNat, by omega⟩
    refine (encode_any pk pb k (by omega) (by omega) s t d m m0 m1 s0 s1 t0 t1 d0 d1 w T).mono ?_
    rintro e w' ⟨rfl, hb⟩
    cases hok : okB (sh k) s t d m
    · exact ⟨Or.inr (Or.inl ⟨k, rfl, by omega, by omega, hok, by rw [encR_bad hok]⟩), hb⟩
    · exact ⟨Or.inl ⟨k, rfl, by omega, by omega, hok, by rw [encR_ok hok]⟩, hb⟩
  · refine (encode_kind pk pb o s t d m ho w T).mono ?_
    rintro e w' ⟨rfl, hb⟩
    exact ⟨Or.inr (Or.inr ⟨ho, rfl⟩), hb⟩
end Go.Proofs.YtccnliihdhnckaaGreatDoor
