/-
  The walks of coding() and of CodeKinds.
-/
import Derived.Test.YtckcbnfobjmhpaaDoorKDecode
namespace Go.Proofs.YtckcbnfobjmhpaaDoor.K
open Go.RowKit Go.Extern.Stop Go.Stop Go.Extern
open Num Tab
set_option linter.unusedVariables false
theorem dec_19 (k : Nat) (h : DecP 2234400 k) : k = 19 := by
  have e : xw 19 2234400 = 2234400 := by decide
  rcases h with ⟨h1, h2, h3⟩ | ⟨rfl, h3⟩
  · exact xw_one k 19 h2 h1 (by omega) (by omega) 2234400 (by omega) (by omega) h3 e
  · exact absurd e (h3 19 (by omega) (by omega))
theorem decR_19 : decR 2234400 19 = ins 19 1 2 3 0 := by rfl
theorem encode_19 (pk pb : Addr) (w : World) (T : Tb pk pb w) : Calls Tryd.prog 32 #[ins 19 1 2 3 0] w fun e w' => e = .returned (.tuple #[.int .u32 2234400, .nilIface]) ∧ Below w.heap.size w w' := by
  have h := encode_any pk pb 19 (by omega) (by omega) 1 2 3 0 (by omega) (by omega) (by omega) (by omega) (by omega) (by omega) (by omega) (by omega) w T
  rw [encR_ok (by decide)] at h
  exact h
theorem kind_lit : ∀ k, k < 54 → kind k = [98, 114, 97, 110, 99, 104] ∨ kind k = [108, 111, 97, 100] ∨ kind k = [115, 116, 111, 114, 101] ∨ kind k = [116, 114, 97, 112] ∨ kind k = [115, 117, 109] := by decide
theorem kind_nat (k : Nat) (hk : k < 54) (l : List UInt8) (hl : kind k = l) (w : World) : Calls Tryd.prog 33 #[.int .i64 k] w fun e w' => e = .returned (.string ⟨l.toArray⟩) ∧ w' = w := by
  have h : kindI k = l := by unfold kindI; rw [if_pos (by omega)]; exact hl
  rw [← h]; exact kind_any k w
theorem dec_lt {v : Int} {k : Nat} (h : DecP v k) : k < 54 := by rcases h with h | h <;> omega
theorem dec_ne {v u : Int} {k j : Nat} (hv : u ≠ v) (D : DecP v k) (E : DecP u j) (hk : ¬ k = 0) (a : (j : Int) = k) (b : xs (sh j) u = xs (sh k) v) (c : xt (sh j) u = xt (sh k) v) (d : xd (sh j) u = xd (sh k) v) (e : xm (sh j) u = xm (sh k) v) : False := by
  obtain rfl : j = k := by omega
  rcases D with ⟨d1, d2, d3⟩ | ⟨d1, d2⟩
  · rcases E with ⟨e1, e2, e3⟩ | ⟨e1, e2⟩
    · unfold xw at d3 e3
      rw [b, c, d, e, d3] at e3
      exact hv e3.symm
    · exact hk e1
  · exact hk d1
/-- an instruction is a word's -/
def IsIns (v : Int) (k : Nat) (s t d m : Int) : Prop := DecP v k ∧ s = xs (sh k) v ∧ t = xt (sh k) v ∧ d = xd (sh k) v ∧ m = xm (sh k) v
theorem ins_zero {v : Int} {s t d m : Int} (h : IsIns v 0 s t d m) : s = 0 ∧ t = 0 ∧ d = 0 ∧ m = 0 := by
  obtain ⟨_, rfl, rfl, rfl, rfl⟩ := h
  exact ⟨rfl, rfl, rfl, rfl⟩
theorem ins_ne {v u : Int} {k j : Nat} {s t d m s' t' d' m' : Int} (hv : u ≠ v) (I : IsIns v k s t d m) (J : IsIns u j s' t' d' m') (hk : ¬ (k : Int) = 0) (a : (j : Int) = k) (b : s' = s) (c : t' = t) (d1 : d' = d) (e : m' = m) : False := by
  obtain ⟨D, rfl, rfl, rfl, rfl⟩ := I
  obtain ⟨E, rfl, rfl, rfl, rfl⟩ := J
  exact dec_ne hv D E (by omega) a b c d1 e
theorem ins_lt {v : Int} {k : Nat} {s t d m : Int} (h : IsIns v k s t d m) : k < 54 := dec_lt h.1
end Go.Proofs.YtckcbnfobjmhpaaDoor.K
