/-
  A line that is a word itself.
-/
import Derived.Test.YtccnliihdhnckaaGreatDoorKCutName
namespace Go.Proofs.YtccnliihdhnckaaGreatDoor
open Go.RowKit Go.Shelf Go.Joins
open Num Tab Fm Txt
set_option linter.unusedVariables false
/-- the word of a line -/
def wordS (l : List UInt8) : Option Int := match pnum (Lib.trimPrefix l [46, 119, 111, 114, 100, 32]) with
  | none => none
  | some n => if 0 ≤ n ∧ n ≤ 4294967295 then some n else none
theorem trim_len (l p : List UInt8) : (Lib.trimPrefix l p).length ≤ l.length := by
  unfold Lib.trimPrefix; split <;> simp
section
variable {w : World} {base sb lb : Nat} {org : Int} {ps : List Pt} {vp : Value}
theorem pt_cells (w : World) (x : Pt) : ∀ (j : Nat) (u : Value), (ptC x)[j]? = some u → (w.alloc (.cells #[.int .i64 x.line, .int .u32 x.word, .int .i64 x.k, .int .i64 x.f.s, .int .i64 x.f.t, .int .i64 x.f.d, .int .u32 x.f.m, .string ⟨x.name.toArray⟩] 93)).cell? ((⟨w.heap.size, 0, none⟩ : Addr).add j) = some u := by
  intro j u hj
  rw [add_lit, cell_of_row _ _ _ _ _ _ (heap_alloc_new w _)]
  unfold ptC at hj
  simpa using hj
set_option maxRecDepth 100000 in
set_option maxHeartbeats 1000000 in
theorem plain_ok (S : SrcIs w base sb lb org ps vp) (b : Lb w) (at_ : Int) (l : List UInt8) (hl : l.length ≤ 1000) (hp : ps.length ≤ 10000) (n : Int) (hw : wordS l = some n) :
    Calls Tryz.prog 72 #[.pointer (some ⟨sb, 0, none⟩), .int .i64 at_, .string ⟨l.toArray⟩] w fun e w' => e = .returned .nilIface ∧ ∃ vp', SrcIs w' base sb lb org (ps ++ [⟨at_, n, 0, ⟨0, 0, 0, 0⟩, []⟩]) vp' ∧ (∃ w1, Below w.heap.size w w1 ∧ STurned w1 w' sb vp) ∧ Moved w vp vp' := by
  obtain ⟨i0, hi, hz0, hz1, hz2⟩ := info_parts info93
  have htp : ∀ W : World, Calls Tryz.prog 98 #[.string ⟨l.toArray⟩, .string ⟨#[46, 119, 111, 114, 100, 32]⟩] W fun e w' => e = .returned (.string ⟨(Lib.trimPrefix l [46, 119, 111, 114, 100, 32]).toArray⟩) ∧ w' = W := fun W => Any.strings_TrimPrefix Tryz.l101 ⟨l.toArray⟩ ⟨#[46, 119, 111, 114, 100, 32]⟩ W
  have htl := trim_len l [46, 119, 111, 114, 100, 32]
  unfold wordS at hw
  generalize Lib.trimPrefix l [46, 119, 111, 114, 100, 32] = t at *
  cases hn : pnum t with
  | none => rw [hn] at hw; cases hw
  | some n' =>
    rw [hn] at hw
    simp only at hw
    split at hw
    · rename_i hb
      injection hw with hw
      subst hw
      obtain ⟨n0, n1⟩ := hb
      have hnu := number_any t (by omega) w b
      have hv : numR t = .tuple #[.int .i64 n', .bool true] := by unfold numR; rw [hn]
      rw [hv] at hnu
      have SH : Hid (SrcIs w base sb lb org ps vp) := S
      clear S b hv hn htl hl
      go_enter Tryz.func72, Tryz.ntmps72
      go_wp2_with fail
      refine (htp _).mono ?_
      rintro e w' ⟨rfl, rfl⟩
      clear htp
      go_wp2_with fail
      refine hnu.mono ?_
      rintro e w1 ⟨rfl, hb1⟩
      clear hnu
      have S1 : Hid (SrcIs w1 base sb lb org ps vp) := SH.out.stays hb1
      have c2 := S1.out.c2
      have hbs := S1.out.bs
      have hnews := pt_cells w1 ⟨at_, n', 0, ⟨0, 0, 0, 0⟩, []⟩
      go_wp2_with (at_builtin; refine wpList_append_moved rfl _ _ 85 rfl base 93 i0 _ 8 72 Tryz.underlying85 hi hz0 hz1 hz2 rfl (by decide) vp ps.length (ps.flatMap ptC) rfl (S1.out.rp.alloc _) ⟨w1.heap.size, 0, none⟩ 1 1 (ptC ⟨at_, n', 0, ⟨0, 0, 0, 0⟩, []⟩) rfl rfl hnews (pt_one _) (by unfold maxLen; omega) (by omega) (by simp; omega) ?_; intro v' w2 ho hg hm; obtain ⟨g', cap', rfl⟩ := owns_pos ho; have hp2 := S1.out.putPart ho hg hm; obtain ⟨⟨hc1, hf1⟩, hp3⟩ := hp2)
      go_ret
      exact ⟨rfl, _, hp3.1, ⟨w1, hb1, hp3.2.1⟩, fun k hk => (hp3.2.2 k hk).imp id (fun h => Nat.le_trans hb1.size h)⟩
    · cases hw
end
end Go.Proofs.YtccnliihdhnckaaGreatDoor
