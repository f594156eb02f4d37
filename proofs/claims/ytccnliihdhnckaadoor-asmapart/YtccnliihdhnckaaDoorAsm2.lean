/-
  What Text reads of the program's variables; FormatInt.
-/
import Derived.Test.YtccnliihdhnckaaDoorShelf
import Derived.Test.YtccnliihdhnckaaDoorAsm1
import Derived.Test.YtccnliihdhnckaaDoorEncode
import Derived.Lib.SmallJoins
import Derived.Lib.AppendIntMem
namespace Go.Proofs.YtccnliihdhnckaaDoor
open Go.RowKit Go.Shelf Go.Joins
open Num Tab Fm Txt
set_option linter.unusedVariables false
theorem Tryd.gPow : Tryd.prog.globalNamed "internal/strconv.uint64pow10" = some 4 := by kernel_rfl
/-- what the texts' functions read of the program's variables -/
structure Lb (w : World) : Prop where
  nm : ∀ i : Nat, i < 54 → w.cell? ⟨0, i, none⟩ = some (.string ⟨(nme i).toArray⟩)
  tab : Lib.TabIs Tryd.prog w "internal/strconv.uint64pow10" .u64 Lib.pow10Tab
theorem Lb.stays {w w' : World} {B : Nat} (b : Lb w) (h : Below B w w') (hB : w.heap.size ≤ B) : Lb w' where
  nm := fun i hi => cell_stays h hB (b.nm i hi)
  tab := tab_stays Tryd.gPow b.tab h hB
theorem fmt_any (n : Int) (h0 : -9223372036854775808 ≤ n) (h1 : n ≤ 9223372036854775807) (w : World) (b : Lb w) :
    Calls Tryd.prog 9 #[.int .i64 n, .int .i64 10] w fun e w' => e = .returned (.string ⟨(Lib.itoa n).toArray⟩) ∧ Below w.heap.size w w' := by
  have h := Any.strconv_FormatInt_10 Tryd.l173 n h0 h1 w b.tab
  refine Calls.mono h ?_
  rintro e w' ⟨he, k, os, rfl⟩
  exact ⟨he, Lib.below_grow _ w (Nat.le_refl _) k os⟩
theorem enc_ascii (c : UInt8) (h : c.toNat < 128) : Utf8.encode (c.toNat : Int) = ⟨#[c]⟩ := by
  have hv : Utf8.valid (c.toNat : Int) = true := by unfold Utf8.valid; simp; omega
  have e : UInt8.ofNat ((c.toNat : Int)).toNat = c := by simp
  unfold Utf8.encode
  simp only [hv, if_true]
  rw [if_pos (by omega), e]
theorem num_ne {c : UInt8} (hc : numB c = false) (x : UInt8) (hx : numB x = true) : ¬ (c.toNat : Int) = x.toNat := by
  intro h
  have : c = x := by apply UInt8.toNat_inj.mp; omega
  subst this
  rw [hc] at hx; cases hx
end Go.Proofs.YtccnliihdhnckaaDoor
