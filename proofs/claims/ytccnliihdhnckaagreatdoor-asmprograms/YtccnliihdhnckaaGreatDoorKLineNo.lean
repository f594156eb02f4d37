/-
  A line that is no word, a line that is no instruction: the errors.
-/
import Derived.Maps.OwnSet
import Derived.Test.YtccnliihdhnckaaGreatDoorQInstr
namespace Go.Proofs.YtccnliihdhnckaaGreatDoor
open Go.RowKit Go.Shelf Go.Joins
open Num Tab Fm Txt
set_option linter.unusedVariables false
/-- which error Parse tells -/
def prE : PR → Nat
  | .name => 4
  | .text => 0
  | .bound => 1
  | .ok _ _ => 10
section
variable {w : World}
set_option maxRecDepth 100000 in
set_option maxHeartbeats 1000000 in
theorem instr_no (E : Nat → Addr) (EE : Er9 E w) (p : Value) (b : Lb w) (at_ : Int) (l : List UInt8) (hl : l.length ≤ 1000) (j : Nat) (hj : prE (parseS (cutT l)) = j) (hn : j < 10) :
    Calls Tryz.prog 75 #[p, .int .i64 at_, .string ⟨l.toArray⟩] w fun e w' => e = .returned (.iface 210 (.pointer (some (E j)))) ∧ Below w.heap.size w w' := by
  have hcu := cutName_any l hl w b
  have hct := cutT_len l
  have HB : Hid (Lb w) := b
  have HE : Hid (Er9 E w) := EE
  have hv : prV E (cutT l) = .tuple #[ins 0 0 0 0 0, .iface 210 (.pointer (some (E j)))] := by
    unfold prV
    cases h : parseS (cutT l) with
    | name => rw [h] at hj; rw [← hj]; rfl
    | text => rw [h] at hj; rw [← hj]; rfl
    | bound => rw [h] at hj; rw [← hj]; rfl
    | ok k f => rw [h] at hj; simp [prE] at hj; omega
  have hpa := fun (W : World) (h : Below w.heap.size w W) => parse_any E (cutT l) (by omega) W (HE.out.stays h) (HB.out.stays h (Nat.le_refl _))
  rw [hv] at hpa
  clear b EE hv hj
  generalize cutT l = tx at *
  generalize cutN l = nm at *
  go_enter Tryz.func75, Tryz.ntmps75
  go_wp2_with fail
  refine hcu.mono ?_
  rintro e w1 ⟨rfl, hb1⟩
  clear hcu
  go_wp2_with fail
  refine (hpa _ hb1).mono ?_
  rintro e w2 ⟨rfl, hb2⟩
  clear hpa
  have hb : Below w.heap.size w w2 := hb1.trans (hb2.mono hb1.size)
  delta ins
  go_wp2
  go_ret
  exact ⟨rfl, hb.alloc hb.size _⟩
set_option maxRecDepth 100000 in
set_option maxHeartbeats 1000000 in
theorem plain_no (E : Nat → Addr) (EE : Er9 E w) (p : Value) (b : Lb w) (at_ : Int) (l : List UInt8) (hl : l.length ≤ 1000) (hw : wordS l = none) :
    Calls Tryz.prog 72 #[p, .int .i64 at_, .string ⟨l.toArray⟩] w fun e w' => e = .returned (.iface 210 (.pointer (some (E 0)))) ∧ Below w.heap.size w w' := by
  have htp : ∀ W : World, Calls Tryz.prog 98 #[.string ⟨l.toArray⟩, .string ⟨#[46, 119, 111, 114, 100, 32]⟩] W fun e w' => e = .returned (.string ⟨(Lib.trimPrefix l [46, 119, 111, 114, 100, 32]).toArray⟩) ∧ w' = W := fun W => Any.strings_TrimPrefix Tryz.l101 ⟨l.toArray⟩ ⟨#[46, 119, 111, 114, 100, 32]⟩ W
  have htl := trim_len l [46, 119, 111, 114, 100, 32]
  have HE : Hid (Er9 E w) := EE
  unfold wordS at hw
  generalize Lib.trimPrefix l [46, 119, 111, 114, 100, 32] = t at *
  have hnu := number_any t (by omega) w b
  clear EE b htl
  cases hn : pnum t with
  | none =>
    have hv : numR t = .tuple #[.int .i64 0, .bool false] := by unfold numR; rw [hn]
    rw [hv] at hnu
    clear hv hn hw
    go_enter Tryz.func72, Tryz.ntmps72
    go_wp2_with fail
    refine (htp _).mono ?_
    rintro e w' ⟨rfl, rfl⟩
    clear htp
    go_wp2_with fail
    refine hnu.mono ?_
    rintro e w1 ⟨rfl, hb1⟩
    clear hnu
    have c0 := (HE.out.stays hb1).c0
    go_wp2
    go_ret
    exact ⟨rfl, hb1⟩
  | some n =>
    rw [hn] at hw
    simp only at hw
    have hb : ¬ (0 ≤ n ∧ n ≤ 4294967295) := by intro h; rw [if_pos h] at hw; cases hw
    have hv : numR t = .tuple #[.int .i64 n, .bool true] := by unfold numR; rw [hn]
    rw [hv] at hnu
    clear hv hn hw
    by_cases h0 : n < 0
    · go_enter Tryz.func72, Tryz.ntmps72
      go_wp2_with fail
      refine (htp _).mono ?_
      rintro e w' ⟨rfl, rfl⟩
      clear htp
      go_wp2_with fail
      refine hnu.mono ?_
      rintro e w1 ⟨rfl, hb1⟩
      clear hnu
      have c0 := (HE.out.stays hb1).c0
      go_wp2
      go_ret
      exact ⟨rfl, hb1⟩
    · have h1 : 4294967295 < n := by omega
      clear hb
      go_enter Tryz.func72, Tryz.ntmps72
      go_wp2_with fail
      refine (htp _).mono ?_
      rintro e w' ⟨rfl, rfl⟩
      clear htp
      go_wp2_with fail
      refine hnu.mono ?_
      rintro e w1 ⟨rfl, hb1⟩
      clear hnu
      have c0 := (HE.out.stays hb1).c0
      go_wp2
      go_ret
      exact ⟨rfl, hb1⟩
end
end Go.Proofs.YtccnliihdhnckaaGreatDoor
/-
  The labels of a source: a map of names.
-/
namespace Go.Proofs.YtccnliihdhnckaaGreatDoor
open Go.RowKit Go.Shelf Go.Joins Go.Maps
open Num Tab Fm Txt
set_option linter.unusedVariables false
theorem law9 : Keyed Tryz.prog 9 := string_keyed Tryz.underlying9
def heldE (v : Value) : Option (DataW Value × List MemPlace) := some (.held v, [])
theorem zero3 (w : World) : (zeroValue 3).run Tryz.prog w = .ok (.int .i64 0) w := by kernel_rfl
/-- labels, by name: how many words are ahead -/
def LabelsAt (w : World) (b N : Nat) (g : List UInt8 → Option Int) : Prop := ∃ D : DataW Value, w.ownsMap Tryz.prog 9 heldE b N D ∧ ∀ s : List UInt8, Maps.has D (.string s) = (g s).isSome ∧ D.atKey (.string s) (.held (.int .i64 0)) = .held (.int .i64 ((g s).getD 0))
theorem LabelsAt.lt {w : World} {b N : Nat} {g : List UInt8 → Option Int} (h : LabelsAt w b N g) : b < w.heap.size := let ⟨_, h, _⟩ := h; h.lt
theorem LabelsAt.kept {w w' : World} {b N : Nat} {g : List UInt8 → Option Int} {row : Option Nat} (h : LabelsAt w b N g) (hg : w.grownBy w' row) (hne : some b ≠ row) : LabelsAt w' b N g :=
  let ⟨D, h1, h2⟩ := h; ⟨D, h1.kept hg hne, h2⟩
theorem LabelsAt.mono {w : World} {b N N' : Nat} {g : List UInt8 → Option Int} (h : LabelsAt w b N g) (hn : N ≤ N') : LabelsAt w b N' g :=
  let ⟨D, h1, h2⟩ := h; ⟨D, h1.mono hn, h2⟩
theorem LabelsAt.look {w : World} {b N : Nat} {g : List UInt8 → Option Int} (h : LabelsAt w b N g) (s : List UInt8) (hk : keyOf Tryz.prog 9 (.string ⟨s.toArray⟩) = some (.string s)) : (Instr.lookup 84 (.map (some b)) (.string ⟨s.toArray⟩) true).run Tryz.prog w = .ok (.tuple #[.int .i64 ((g s).getD 0), .bool (g s).isSome]) w := by
  obtain ⟨D, g1, g2⟩ := h
  obtain ⟨v, ps, hrun, hv⟩ := g1.look_ok law9 Tryz.underlying84 (zero3 w) (zd := .held (.int .i64 0)) (zp := []) rfl hk
  rw [(g2 s).2] at hv
  simp only [heldE, Option.some.injEq, Prod.mk.injEq, DataW.held.injEq] at hv
  rw [hrun, (g2 s).1, hv.1]
theorem LabelsAt.put {w' : World} {b N : Nat} {g : List UInt8 → Option Int} {D : DataW Value} (h2 : ∀ s : List UInt8, Maps.has D (.string s) = (g s).isSome ∧ D.atKey (.string s) (.held (.int .i64 0)) = .held (.int .i64 ((g s).getD 0))) (hD : IsMap D) (s : List UInt8) (n : Int) (hk : WideAt.IsKeyLit (.string s))
    (h1 : w'.ownsMap Tryz.prog 9 heldE b N (D.put (.string s) (.held (.int .i64 n)))) : LabelsAt w' b N (fun t => if t = s then some n else g t) := by
  refine ⟨_, h1, fun t => ?_⟩
  by_cases e : t = s
  · subst e
    simp only [if_true]
    exact ⟨has_put_same hD hk _, atKey_put_same hD hk _ _⟩
  · simp only [if_neg e]
    have hne : (Lit.string t) ≠ .string s := fun h => e (by injection h)
    exact ⟨by rw [has_put_other hne, (h2 t).1], by rw [atKey_put_other hne, (h2 t).2]⟩
end Go.Proofs.YtccnliihdhnckaaGreatDoor
