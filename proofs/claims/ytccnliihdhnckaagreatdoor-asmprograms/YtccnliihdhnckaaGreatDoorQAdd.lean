/-
  A line is added.
-/
import Derived.Test.YtccnliihdhnckaaGreatDoorQLabel
namespace Go.Proofs.YtccnliihdhnckaaGreatDoor
open Go.RowKit Go.Shelf Go.Joins Go.Maps
open Num Tab Fm Txt
set_option linter.unusedVariables false
section
variable {w : World} {p : Value} {Q : Ending → World → Prop}
set_option maxRecDepth 100000 in
set_option maxHeartbeats 1000000 in
theorem add_word (at_ : Int) (l : List UInt8) (h : Lib.hasPrefix l [46, 119, 111, 114, 100] = true) {v : Value} {R : World → Prop} (hc : Calls Tryz.prog 72 #[p, .int .i64 at_, .string ⟨l.toArray⟩] w fun e w' => e = .returned v ∧ R w') :
    Calls Tryz.prog 43 #[p, .int .i64 at_, .string ⟨l.toArray⟩] w fun e w' => e = .returned v ∧ R w' := by
  have hp : ∀ W : World, Calls Tryz.prog 71 #[.string ⟨l.toArray⟩, .string ⟨#[46, 119, 111, 114, 100]⟩] W fun e w' => e = .returned (.bool true) ∧ w' = W := fun W => by
    have := Any.strings_HasPrefix Tryz.l99 ⟨l.toArray⟩ ⟨#[46, 119, 111, 114, 100]⟩ W
    rw [show Lib.hasPrefix (⟨l.toArray⟩ : ByteArray).data.toList (⟨#[46, 119, 111, 114, 100]⟩ : ByteArray).data.toList = true from h] at this
    exact this
  go_enter Tryz.func43, Tryz.ntmps43
  go_wp2_with fail
  refine (hp _).mono ?_
  rintro e w' ⟨rfl, rfl⟩
  clear hp
  go_wp2_with fail
  refine hc.mono ?_
  rintro e w2 ⟨rfl, hR⟩
  clear hc
  go_wp2
  go_ret
  exact ⟨rfl, hR⟩
set_option maxRecDepth 100000 in
set_option maxHeartbeats 1000000 in
theorem add_label (at_ : Int) (l : List UInt8) (hl : l.length ≤ 1000) (h : Lib.hasPrefix l [46, 119, 111, 114, 100] = false) (h2 : Lib.hasSuffix l [58] = true) {v : Value} {R : World → Prop} (hc : Calls Tryz.prog 74 #[p, .string ⟨(Lib.trimSuffix l [58]).toArray⟩] w fun e w' => e = .returned v ∧ R w') :
    Calls Tryz.prog 43 #[p, .int .i64 at_, .string ⟨l.toArray⟩] w fun e w' => e = .returned v ∧ R w' := by
  have hp : ∀ W : World, Calls Tryz.prog 71 #[.string ⟨l.toArray⟩, .string ⟨#[46, 119, 111, 114, 100]⟩] W fun e w' => e = .returned (.bool false) ∧ w' = W := fun W => by
    have := Any.strings_HasPrefix Tryz.l99 ⟨l.toArray⟩ ⟨#[46, 119, 111, 114, 100]⟩ W
    rw [show Lib.hasPrefix (⟨l.toArray⟩ : ByteArray).data.toList (⟨#[46, 119, 111, 114, 100]⟩ : ByteArray).data.toList = false from h] at this
    exact this
  have hs : ∀ W : World, Calls Tryz.prog 73 #[.string ⟨l.toArray⟩, .string ⟨#[58]⟩] W fun e w' => e = .returned (.tuple #[.string ⟨(Lib.trimSuffix l [58]).toArray⟩, .bool true]) ∧ w' = W := fun W => by
    have := Any.strings_CutSuffix Tryz.l104 ⟨l.toArray⟩ ⟨#[58]⟩ W (by simp [ByteArray.size]; omega)
    rw [show Lib.hasSuffix (⟨l.toArray⟩ : ByteArray).data.toList (⟨#[58]⟩ : ByteArray).data.toList = true from h2] at this
    exact this
  clear h h2
  go_enter Tryz.func43, Tryz.ntmps43
  go_wp2_with fail
  refine (hp _).mono ?_
  rintro e w' ⟨rfl, rfl⟩
  clear hp
  go_wp2_with fail
  refine (hs _).mono ?_
  rintro e w'' ⟨rfl, rfl⟩
  clear hs
  go_wp2_with fail
  refine hc.mono ?_
  rintro e w2 ⟨rfl, hR⟩
  clear hc
  go_wp2
  go_ret
  exact ⟨rfl, hR⟩
set_option maxRecDepth 100000 in
set_option maxHeartbeats 1000000 in
theorem add_instr (at_ : Int) (l : List UInt8) (hl : l.length ≤ 1000) (h : Lib.hasPrefix l [46, 119, 111, 114, 100] = false) (h2 : Lib.hasSuffix l [58] = false) {v : Value} {R : World → Prop} (hc : Calls Tryz.prog 75 #[p, .int .i64 at_, .string ⟨l.toArray⟩] w fun e w' => e = .returned v ∧ R w') :
    Calls Tryz.prog 43 #[p, .int .i64 at_, .string ⟨l.toArray⟩] w fun e w' => e = .returned v ∧ R w' := by
  have hp : ∀ W : World, Calls Tryz.prog 71 #[.string ⟨l.toArray⟩, .string ⟨#[46, 119, 111, 114, 100]⟩] W fun e w' => e = .returned (.bool false) ∧ w' = W := fun W => by
    have := Any.strings_HasPrefix Tryz.l99 ⟨l.toArray⟩ ⟨#[46, 119, 111, 114, 100]⟩ W
    rw [show Lib.hasPrefix (⟨l.toArray⟩ : ByteArray).data.toList (⟨#[46, 119, 111, 114, 100]⟩ : ByteArray).data.toList = false from h] at this
    exact this
  have hs : ∀ W : World, Calls Tryz.prog 73 #[.string ⟨l.toArray⟩, .string ⟨#[58]⟩] W fun e w' => e = .returned (.tuple #[.string ⟨(Lib.trimSuffix l [58]).toArray⟩, .bool false]) ∧ w' = W := fun W => by
    have := Any.strings_CutSuffix Tryz.l104 ⟨l.toArray⟩ ⟨#[58]⟩ W (by simp [ByteArray.size]; omega)
    rw [show Lib.hasSuffix (⟨l.toArray⟩ : ByteArray).data.toList (⟨#[58]⟩ : ByteArray).data.toList = false from h2] at this
    exact this
  clear h h2
  go_enter Tryz.func43, Tryz.ntmps43
  go_wp2_with fail
  refine (hp _).mono ?_
  rintro e w' ⟨rfl, rfl⟩
  clear hp
  go_wp2_with fail
  refine (hs _).mono ?_
  rintro e w'' ⟨rfl, rfl⟩
  clear hs
  go_wp2_with fail
  refine hc.mono ?_
  rintro e w2 ⟨rfl, hR⟩
  clear hc
  go_wp2
  go_ret
  exact ⟨rfl, hR⟩
end
end Go.Proofs.YtccnliihdhnckaaGreatDoor
