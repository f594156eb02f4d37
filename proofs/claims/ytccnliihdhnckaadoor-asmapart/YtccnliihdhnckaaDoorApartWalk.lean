/-
  The walk of AsmApart.
-/
import Derived.Test.YtccnliihdhnckaaDoorText
namespace Go.Proofs.YtccnliihdhnckaaDoor
open Go.RowKit Go.Shelf Go.Joins
open Num Tab Fm Txt
set_option linter.unusedVariables false
theorem text_lw : ptext 48 ⟨4, 2, 0, 65532⟩ = [108, 119, 32, 36, 50, 44, 32, 45, 52, 40, 36, 52, 41] := by
  have e4 : Lib.itoa (-4) = [45, 52] := by rw [show (-4 : Int) = -((4 : Nat) : Int) by decide, itoa_min 4 (by omega), Lib.decDigits_one (by omega)]; rfl
  have e2 : Lib.itoa 2 = [50] := by rw [show (2 : Int) = ((2 : Nat) : Int) by decide, itoa_pos 2, Lib.decDigits_one (by omega)]; rfl
  have e5 : Lib.itoa 4 = [52] := by rw [show (4 : Int) = ((4 : Nat) : Int) by decide, itoa_pos 4, Lib.decDigits_one (by omega)]; rfl
  have hf : form 48 = [32, 36, 84, 44, 32, 105, 40, 36, 83, 41] := by decide
  have hn : nme 48 = [108, 119] := by decide
  have hs : s16 65532 = -4 := by decide
  unfold ptext
  rw [hf, hn]
  simp [rend, numB, regB, vl, hs, e4, e2, e5]
set_option maxHeartbeats 1000000 in
theorem texted_any (pk pb : Addr) (w : World) (T : Tb pk pb w) (b : Lb w) : Calls Tryd.prog 4 #[] w fun e w' => e = .returned (.bool true) ∧ Below w.heap.size w w' := by
  have hc := text_ok pk pb 48 (by omega) (by omega) 4 2 0 65532 (by omega) (by omega) (by omega) (by omega) (by omega) (by omega) (by omega) (by omega) (by decide) w T b
  rw [text_lw] at hc
  clear T b
  go_enter Tryd.func4, Tryd.ntmps4
  go_wp2_with (go_at_call 5; refine hc.mono ?_; rintro e w1 ⟨rfl, hb1⟩)
  go_ret
  exact ⟨rfl, hb1⟩
/-- what Text answers, in all cases -/
def txV (pk pb : Addr) (o s t d m : Int) : Value :=
  if 0 < o ∧ o < 54 then (if okB (sh o.toNat) s t d m then .tuple #[.string ⟨(ptext o.toNat ⟨s, t, d, m⟩).toArray⟩, .nilIface] else .tuple #[.string ⟨#[]⟩, .iface 66 (.pointer (some pb))]) else .tuple #[.string ⟨#[]⟩, .iface 66 (.pointer (some pk))]
def good (o s t d m : Int) : Prop := (0 < o ∧ o < 54) ∧ okB (sh o.toNat) s t d m = true
theorem text_good (pk pb : Addr) (o s t d m : Int) (m0 : 0 ≤ m) (m1 : m < 4294967296) (s0 : -9223372036854775808 ≤ s) (s1 : s ≤ 9223372036854775807) (t0 : -9223372036854775808 ≤ t) (t1 : t ≤ 9223372036854775807) (d0 : -9223372036854775808 ≤ d) (d1 : d ≤ 9223372036854775807) (g : good o s t d m) (w : World) (T : Tb pk pb w) (b : Lb w) :
    Calls Tryd.prog 5 #[ins o s t d m] w fun e w' => e = .returned (.tuple #[.string ⟨(ptext o.toNat ⟨s, t, d, m⟩).toArray⟩, .nilIface]) ∧ Below w.heap.size w w' := by
  have h := text_ok pk pb o.toNat (by have := g.1; omega) (by have := g.1; omega) s t d m m0 m1 s0 s1 t0 t1 d0 d1 g.2 w T b
  rwa [Int.toNat_of_nonneg (by have := g.1; omega)] at h
theorem encode_good (pk pb : Addr) (o s t d m : Int) (m0 : 0 ≤ m) (m1 : m < 4294967296) (s0 : -9223372036854775808 ≤ s) (s1 : s ≤ 9223372036854775807) (t0 : -9223372036854775808 ≤ t) (t1 : t ≤ 9223372036854775807) (d0 : -9223372036854775808 ≤ d) (d1 : d ≤ 9223372036854775807) (g : good o s t d m) (w : World) (T : Tb pk pb w) :
    Calls Tryd.prog 6 #[ins o s t d m] w fun e w' => e = .returned (.tuple #[.int .u32 (enc o.toNat s t d m), .nilIface]) ∧ Below w.heap.size w w' := by
  have h := encode_any pk pb o.toNat (by have := g.1; omega) (by have := g.1; omega) s t d m m0 m1 s0 s1 t0 t1 d0 d1 w T
  rw [encR_ok g.2, Int.toNat_of_nonneg (by have := g.1; omega)] at h
  exact h
theorem text_not (pk pb : Addr) (o s t d m : Int) (m0 : 0 ≤ m) (m1 : m < 4294967296) (s0 : -9223372036854775808 ≤ s) (s1 : s ≤ 9223372036854775807) (t0 : -9223372036854775808 ≤ t) (t1 : t ≤ 9223372036854775807) (d0 : -9223372036854775808 ≤ d) (d1 : d ≤ 9223372036854775807) (g : ¬ good o s t d m) (w : World) (T : Tb pk pb w) :
    Calls Tryd.prog 5 #[ins o s t d m] w fun e w' => ∃ p : Addr, e = .returned (.tuple #[.string ⟨#[]⟩, .iface 66 (.pointer (some p))]) ∧ Below w.heap.size w w' := by
  by_cases ho : 0 < o ∧ o < 54
  · have hb : okB (sh o.toNat) s t d m = false := by
      cases hh : okB (sh o.toNat) s t d m with
      | false => rfl
      | true => exact absurd ⟨ho, hh⟩ g
    have h := text_bound pk pb o.toNat (by omega) (by omega) s t d m m0 m1 s0 s1 t0 t1 d0 d1 hb w T
    rw [Int.toNat_of_nonneg (by omega)] at h
    exact h.mono fun e w' ⟨a, b⟩ => ⟨pb, a, b⟩
  · exact (text_kind pk pb o s t d m ho w T).mono fun e w' ⟨a, b⟩ => ⟨pk, a, b⟩
/-- one word, one text: one instruction -/
theorem enc_one {o s t d m o' s' t' d' m' : Int} (m0 : 0 ≤ m) (m0' : 0 ≤ m') (g : good o s t d m) (g' : good o' s' t' d' m') (e : enc o.toNat s t d m = enc o'.toNat s' t' d' m') : o = o' ∧ s = s' ∧ t = t' ∧ d = d' ∧ m = m' := by
  obtain ⟨⟨a1, a2⟩, a3⟩ := g
  obtain ⟨⟨b1, b2⟩, b3⟩ := g'
  have x := enc_of o.toNat (by omega) (by omega) s t d m m0 a3
  have y := enc_of o'.toNat (by omega) (by omega) s' t' d' m' m0' b3
  rw [← e] at y
  have hk : o.toNat = o'.toNat := fst_inj _ (by omega) _ (by omega) (by omega) (by omega) (x.2.2.1.symm.trans y.2.2.1)
  rw [← hk] at y
  refine ⟨by omega, ?_, ?_, ?_, ?_⟩
  · exact x.2.2.2.1.symm.trans y.2.2.2.1
  · exact x.2.2.2.2.1.symm.trans y.2.2.2.2.1
  · exact x.2.2.2.2.2.1.symm.trans y.2.2.2.2.2.1
  · exact x.2.2.2.2.2.2.symm.trans y.2.2.2.2.2.2
theorem text_one {o s t d m o' s' t' d' m' : Int} (m0 : 0 ≤ m) (m0' : 0 ≤ m') (g : good o s t d m) (g' : good o' s' t' d' m') (e : ptext o.toNat ⟨s, t, d, m⟩ = ptext o'.toNat ⟨s', t', d', m'⟩) : o = o' ∧ s = s' ∧ t = t' ∧ d = d' ∧ m = m' := by
  obtain ⟨⟨a1, a2⟩, a3⟩ := g
  obtain ⟨⟨b1, b2⟩, b3⟩ := g'
  obtain ⟨h1, h2⟩ := text_inj o.toNat o'.toNat (by omega) (by omega) (by omega) (by omega) ⟨s, t, d, m⟩ ⟨s', t', d', m'⟩ ⟨a3, m0⟩ ⟨b3, m0'⟩ e
  injection h2 with e1 e2 e3 e4
  exact ⟨by omega, e1, e2, e3, e4⟩
end Go.Proofs.YtccnliihdhnckaaDoor
