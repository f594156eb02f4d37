/-
  Package asm's read: what a letter of a form stands for, at the beginning of a text.
-/
import Derived.Test.YtccnliihdhnckaaGreatDoorKShelf
namespace Go.Proofs.YtccnliihdhnckaaGreatDoor
open Go.RowKit Go.Shelf Go.Joins
open Num Tab Fm Txt
set_option linter.unusedVariables false
def digs : List UInt8 := [48, 49, 50, 51, 52, 53, 54, 55, 56, 57]
theorem digs_is (c : UInt8) : digs.contains c = isDig c := by
  rw [Bool.eq_iff_iff]
  unfold isDig digs
  simp only [List.contains_cons, List.contains_nil, Bool.or_eq_true, beq_iff_eq, decide_eq_true_eq, ← UInt8.toNat_inj, Bool.or_false]
  simp
  omega
theorem marks_is (c : UInt8) : (digs ++ [45]).contains c = isMark c := by
  unfold isMark
  rw [← digs_is, List.contains_append]
  congr 1
  simp only [List.contains_cons, List.contains_nil, Bool.or_false]
theorem trimL_any (l cs : List UInt8) (hcs : cs.length < 4294967281) (ha : ∀ c ∈ cs, c.toNat < 128) (w : World) :
    Calls Tryz.prog 69 #[.string ⟨l.toArray⟩, .string ⟨cs.toArray⟩] w fun e w' => e = .returned (.string ⟨(l.dropWhile (cs.contains ·)).toArray⟩) ∧ Below w.heap.size w w' :=
  Any.strings_TrimLeft_laid Tryz.l161 (by kernel_rfl) ⟨l.toArray⟩ ⟨cs.toArray⟩ w (by show cs.toArray.size < _; simpa using hcs) (fun j b h => ha b (by
    have : cs[j]? = some b := by simpa using h
    exact List.mem_of_getElem? this))
theorem drop_digs (l : List UInt8) : l.dropWhile (digs.contains ·) = l.dropWhile isDig := by congr 1; funext c; exact digs_is c
theorem drop_marks (l : List UInt8) : l.dropWhile ((digs ++ [45]).contains ·) = l.dropWhile isMark := by congr 1; funext c; exact marks_is c
theorem take_run (p : UInt8 → Bool) (l : List UInt8) : l.take (l.length - (l.dropWhile p).length) = l.takeWhile p := by
  have h : l.takeWhile p ++ l.dropWhile p = l := List.takeWhile_append_dropWhile
  have hl : l.length = (l.takeWhile p).length + (l.dropWhile p).length := by rw [← List.length_append, h]
  rw [show l.length - (l.dropWhile p).length = (l.takeWhile p).length by omega]
  calc l.take (l.takeWhile p).length = (l.takeWhile p ++ l.dropWhile p).take (l.takeWhile p).length := by rw [h]
    _ = l.takeWhile p := List.take_left' rfl
theorem ext_take (l : List UInt8) (k : Nat) : (⟨l.toArray⟩ : ByteArray).extract 0 k = ⟨(l.take k).toArray⟩ := by
  apply ByteArray.ext
  simp [ByteArray.data_extract]
theorem trimReg (l : List UInt8) (w : World) :
    Calls Tryz.prog 69 #[.string ⟨l.toArray⟩, .string ⟨#[48, 49, 50, 51, 52, 53, 54, 55, 56, 57]⟩] w fun e w' => e = .returned (.string ⟨(l.dropWhile isDig).toArray⟩) ∧ Below w.heap.size w w' := by
  have h := trimL_any l digs (by decide) (by decide) w
  rw [drop_digs] at h
  exact h
theorem trimNum (l : List UInt8) (w : World) :
    Calls Tryz.prog 69 #[.string ⟨l.toArray⟩, .string ⟨#[48, 49, 50, 51, 52, 53, 54, 55, 56, 57, 45]⟩] w fun e w' => e = .returned (.string ⟨(l.dropWhile isMark).toArray⟩) ∧ Below w.heap.size w w' := by
  have h := trimL_any l (digs ++ [45]) (by decide) (by decide) w
  rw [drop_marks] at h
  exact h
theorem number_run (p : UInt8 → Bool) (l : List UInt8) (hl : l.length ≤ 281474976710656) (w : World) (b : Lb w) :
    Calls Tryz.prog 70 #[.string ((⟨l.toArray⟩ : ByteArray).extract 0 (l.length - (l.dropWhile p).length))] w fun e w' => e = .returned (numR (l.takeWhile p)) ∧ Below w.heap.size w w' := by
  rw [ext_take, take_run]
  exact number_any _ (Nat.le_trans (List.takeWhile_prefix p).length_le hl) w b
def bhd (c : UInt8) (l : List UInt8) : List UInt8 := if numB c then (if regB c then l.dropWhile isDig else l.dropWhile isMark) else l
def rdV (c : UInt8) (l : List UInt8) : Value := match readL c l with | some (n, r) => .tuple #[.int .i64 n, .string ⟨r.toArray⟩, .bool true] | none => .tuple #[.int .i64 0, .string ⟨(bhd c l).toArray⟩, .bool false]
set_option maxHeartbeats 1000000 in
theorem read83 (l : List UInt8) (hl : l.length ≤ 281474976710656) (w : World) (b : Lb w) :
    Calls Tryz.prog 36 #[.string ⟨l.toArray⟩, .int .i32 83] w fun e w' => e = .returned (rdV 83 l) ∧ Below w.heap.size w w' := by
  have hB : Hid (Lb w) := b
  clear b
  have hlen : (l.dropWhile isDig).length ≤ l.length := (List.dropWhile_suffix isDig).length_le
  have hrd : readL 83 l = (pnum (l.takeWhile isDig)).map fun n => (n, l.dropWhile isDig) := rfl
  have hv : Hid (rdV 83 l = match pnum (l.takeWhile isDig) with | some n => .tuple #[.int .i64 n, .string ⟨(l.dropWhile isDig).toArray⟩, .bool true] | none => .tuple #[.int .i64 0, .string ⟨(l.dropWhile isDig).toArray⟩, .bool false]) := by
    show rdV 83 l = _
    unfold rdV
    rw [hrd]
    cases pnum (l.takeWhile isDig) <;> rfl
  clear hrd
  cases hp : pnum (l.takeWhile isDig) with
  | none =>
    have hn : numR (l.takeWhile isDig) = .tuple #[.int .i64 0, .bool false] := by unfold numR; rw [hp]
    rw [hp] at hv
    rw [hv.out]
    clear hp
    go_enter Tryz.func36, Tryz.ntmps36
    go_wp2_with (first | (go_at_call 27; refine (isNumber83 _).mono ?_; rintro e w' ⟨rfl, rfl⟩) | (go_at_call 64; refine (register83 _ _).mono ?_; rintro e w' ⟨rfl, rfl⟩) | (go_at_call 69; refine (trimReg l _).mono ?_; rintro e w1 ⟨rfl, hb1⟩) | (go_at_call 70; refine (number_run isDig l hl _ (hB.out.stays (((Below.refl _ _).alloc (Nat.le_refl _) _).trans (hb1.mono (by simp))) (Nat.le_refl _))).mono ?_; rintro e w2 ⟨rfl, hb2⟩; rw [hn]))
    go_ret3
    exact ⟨rfl, (((Below.refl _ _).alloc (Nat.le_refl _) _).trans (hb1.mono (by simp))).trans (hb2.mono (Nat.le_trans (by simp) hb1.size))⟩
  | some n =>
    have hn : numR (l.takeWhile isDig) = .tuple #[.int .i64 n, .bool true] := by unfold numR; rw [hp]
    rw [hp] at hv
    rw [hv.out]
    clear hp
    go_enter Tryz.func36, Tryz.ntmps36
    go_wp2_with (first | (go_at_call 27; refine (isNumber83 _).mono ?_; rintro e w' ⟨rfl, rfl⟩) | (go_at_call 64; refine (register83 _ _).mono ?_; rintro e w' ⟨rfl, rfl⟩) | (go_at_call 69; refine (trimReg l _).mono ?_; rintro e w1 ⟨rfl, hb1⟩) | (go_at_call 70; refine (number_run isDig l hl _ (hB.out.stays (((Below.refl _ _).alloc (Nat.le_refl _) _).trans (hb1.mono (by simp))) (Nat.le_refl _))).mono ?_; rintro e w2 ⟨rfl, hb2⟩; rw [hn]))
    go_ret3
    exact ⟨rfl, (((Below.refl _ _).alloc (Nat.le_refl _) _).trans (hb1.mono (by simp))).trans (hb2.mono (Nat.le_trans (by simp) hb1.size))⟩
set_option maxHeartbeats 1000000 in
theorem read84 (l : List UInt8) (hl : l.length ≤ 281474976710656) (w : World) (b : Lb w) :
    Calls Tryz.prog 36 #[.string ⟨l.toArray⟩, .int .i32 84] w fun e w' => e = .returned (rdV 84 l) ∧ Below w.heap.size w w' := by
  have hB : Hid (Lb w) := b
  clear b
  have hlen : (l.dropWhile isDig).length ≤ l.length := (List.dropWhile_suffix isDig).length_le
  have hrd : readL 84 l = (pnum (l.takeWhile isDig)).map fun n => (n, l.dropWhile isDig) := rfl
  have hv : Hid (rdV 84 l = match pnum (l.takeWhile isDig) with | some n => .tuple #[.int .i64 n, .string ⟨(l.dropWhile isDig).toArray⟩, .bool true] | none => .tuple #[.int .i64 0, .string ⟨(l.dropWhile isDig).toArray⟩, .bool false]) := by
    show rdV 84 l = _
    unfold rdV
    rw [hrd]
    cases pnum (l.takeWhile isDig) <;> rfl
  clear hrd
  cases hp : pnum (l.takeWhile isDig) with
  | none =>
    have hn : numR (l.takeWhile isDig) = .tuple #[.int .i64 0, .bool false] := by unfold numR; rw [hp]
    rw [hp] at hv
    rw [hv.out]
    clear hp
    go_enter Tryz.func36, Tryz.ntmps36
    go_wp2_with (first | (go_at_call 27; refine (isNumber84 _).mono ?_; rintro e w' ⟨rfl, rfl⟩) | (go_at_call 64; refine (register84 _ _).mono ?_; rintro e w' ⟨rfl, rfl⟩) | (go_at_call 69; refine (trimReg l _).mono ?_; rintro e w1 ⟨rfl, hb1⟩) | (go_at_call 70; refine (number_run isDig l hl _ (hB.out.stays (((Below.refl _ _).alloc (Nat.le_refl _) _).trans (hb1.mono (by simp))) (Nat.le_refl _))).mono ?_; rintro e w2 ⟨rfl, hb2⟩; rw [hn]))
    go_ret3
    exact ⟨rfl, (((Below.refl _ _).alloc (Nat.le_refl _) _).trans (hb1.mono (by simp))).trans (hb2.mono (Nat.le_trans (by simp) hb1.size))⟩
  | some n =>
    have hn : numR (l.takeWhile isDig) = .tuple #[.int .i64 n, .bool true] := by unfold numR; rw [hp]
    rw [hp] at hv
    rw [hv.out]
    clear hp
    go_enter Tryz.func36, Tryz.ntmps36
    go_wp2_with (first | (go_at_call 27; refine (isNumber84 _).mono ?_; rintro e w' ⟨rfl, rfl⟩) | (go_at_call 64; refine (register84 _ _).mono ?_; rintro e w' ⟨rfl, rfl⟩) | (go_at_call 69; refine (trimReg l _).mono ?_; rintro e w1 ⟨rfl, hb1⟩) | (go_at_call 70; refine (number_run isDig l hl _ (hB.out.stays (((Below.refl _ _).alloc (Nat.le_refl _) _).trans (hb1.mono (by simp))) (Nat.le_refl _))).mono ?_; rintro e w2 ⟨rfl, hb2⟩; rw [hn]))
    go_ret3
    exact ⟨rfl, (((Below.refl _ _).alloc (Nat.le_refl _) _).trans (hb1.mono (by simp))).trans (hb2.mono (Nat.le_trans (by simp) hb1.size))⟩
set_option maxHeartbeats 1000000 in
theorem read68 (l : List UInt8) (hl : l.length ≤ 281474976710656) (w : World) (b : Lb w) :
    Calls Tryz.prog 36 #[.string ⟨l.toArray⟩, .int .i32 68] w fun e w' => e = .returned (rdV 68 l) ∧ Below w.heap.size w w' := by
  have hB : Hid (Lb w) := b
  clear b
  have hlen : (l.dropWhile isDig).length ≤ l.length := (List.dropWhile_suffix isDig).length_le
  have hrd : readL 68 l = (pnum (l.takeWhile isDig)).map fun n => (n, l.dropWhile isDig) := rfl
  have hv : Hid (rdV 68 l = match pnum (l.takeWhile isDig) with | some n => .tuple #[.int .i64 n, .string ⟨(l.dropWhile isDig).toArray⟩, .bool true] | none => .tuple #[.int .i64 0, .string ⟨(l.dropWhile isDig).toArray⟩, .bool false]) := by
    show rdV 68 l = _
    unfold rdV
    rw [hrd]
    cases pnum (l.takeWhile isDig) <;> rfl
  clear hrd
  cases hp : pnum (l.takeWhile isDig) with
  | none =>
    have hn : numR (l.takeWhile isDig) = .tuple #[.int .i64 0, .bool false] := by unfold numR; rw [hp]
    rw [hp] at hv
    rw [hv.out]
    clear hp
    go_enter Tryz.func36, Tryz.ntmps36
    go_wp2_with (first | (go_at_call 27; refine (isNumber68 _).mono ?_; rintro e w' ⟨rfl, rfl⟩) | (go_at_call 64; refine (register68 _ _).mono ?_; rintro e w' ⟨rfl, rfl⟩) | (go_at_call 69; refine (trimReg l _).mono ?_; rintro e w1 ⟨rfl, hb1⟩) | (go_at_call 70; refine (number_run isDig l hl _ (hB.out.stays (((Below.refl _ _).alloc (Nat.le_refl _) _).trans (hb1.mono (by simp))) (Nat.le_refl _))).mono ?_; rintro e w2 ⟨rfl, hb2⟩; rw [hn]))
    go_ret3
    exact ⟨rfl, (((Below.refl _ _).alloc (Nat.le_refl _) _).trans (hb1.mono (by simp))).trans (hb2.mono (Nat.le_trans (by simp) hb1.size))⟩
  | some n =>
    have hn : numR (l.takeWhile isDig) = .tuple #[.int .i64 n, .bool true] := by unfold numR; rw [hp]
    rw [hp] at hv
    rw [hv.out]
    clear hp
    go_enter Tryz.func36, Tryz.ntmps36
    go_wp2_with (first | (go_at_call 27; refine (isNumber68 _).mono ?_; rintro e w' ⟨rfl, rfl⟩) | (go_at_call 64; refine (register68 _ _).mono ?_; rintro e w' ⟨rfl, rfl⟩) | (go_at_call 69; refine (trimReg l _).mono ?_; rintro e w1 ⟨rfl, hb1⟩) | (go_at_call 70; refine (number_run isDig l hl _ (hB.out.stays (((Below.refl _ _).alloc (Nat.le_refl _) _).trans (hb1.mono (by simp))) (Nat.le_refl _))).mono ?_; rintro e w2 ⟨rfl, hb2⟩; rw [hn]))
    go_ret3
    exact ⟨rfl, (((Below.refl _ _).alloc (Nat.le_refl _) _).trans (hb1.mono (by simp))).trans (hb2.mono (Nat.le_trans (by simp) hb1.size))⟩
set_option maxHeartbeats 1000000 in
theorem read97 (l : List UInt8) (hl : l.length ≤ 281474976710656) (w : World) (b : Lb w) :
    Calls Tryz.prog 36 #[.string ⟨l.toArray⟩, .int .i32 97] w fun e w' => e = .returned (rdV 97 l) ∧ Below w.heap.size w w' := by
  have hB : Hid (Lb w) := b
  clear b
  have hlen : (l.dropWhile isMark).length ≤ l.length := (List.dropWhile_suffix isMark).length_le
  have hrd : readL 97 l = (pnum (l.takeWhile isMark)).map fun n => (n, l.dropWhile isMark) := rfl
  have hv : Hid (rdV 97 l = match pnum (l.takeWhile isMark) with | some n => .tuple #[.int .i64 n, .string ⟨(l.dropWhile isMark).toArray⟩, .bool true] | none => .tuple #[.int .i64 0, .string ⟨(l.dropWhile isMark).toArray⟩, .bool false]) := by
    show rdV 97 l = _
    unfold rdV
    rw [hrd]
    cases pnum (l.takeWhile isMark) <;> rfl
  clear hrd
  cases hp : pnum (l.takeWhile isMark) with
  | none =>
    have hn : numR (l.takeWhile isMark) = .tuple #[.int .i64 0, .bool false] := by unfold numR; rw [hp]
    rw [hp] at hv
    rw [hv.out]
    clear hp
    go_enter Tryz.func36, Tryz.ntmps36
    go_wp2_with (first | (go_at_call 27; refine (isNumber97 _).mono ?_; rintro e w' ⟨rfl, rfl⟩) | (go_at_call 64; refine (register97 _ _).mono ?_; rintro e w' ⟨rfl, rfl⟩) | (go_at_call 69; refine (trimNum l _).mono ?_; rintro e w1 ⟨rfl, hb1⟩) | (go_at_call 70; refine (number_run isMark l hl _ (hB.out.stays (((Below.refl _ _).alloc (Nat.le_refl _) _).trans (hb1.mono (by simp))) (Nat.le_refl _))).mono ?_; rintro e w2 ⟨rfl, hb2⟩; rw [hn]))
    go_ret3
    exact ⟨rfl, (((Below.refl _ _).alloc (Nat.le_refl _) _).trans (hb1.mono (by simp))).trans (hb2.mono (Nat.le_trans (by simp) hb1.size))⟩
  | some n =>
    have hn : numR (l.takeWhile isMark) = .tuple #[.int .i64 n, .bool true] := by unfold numR; rw [hp]
    rw [hp] at hv
    rw [hv.out]
    clear hp
    go_enter Tryz.func36, Tryz.ntmps36
    go_wp2_with (first | (go_at_call 27; refine (isNumber97 _).mono ?_; rintro e w' ⟨rfl, rfl⟩) | (go_at_call 64; refine (register97 _ _).mono ?_; rintro e w' ⟨rfl, rfl⟩) | (go_at_call 69; refine (trimNum l _).mono ?_; rintro e w1 ⟨rfl, hb1⟩) | (go_at_call 70; refine (number_run isMark l hl _ (hB.out.stays (((Below.refl _ _).alloc (Nat.le_refl _) _).trans (hb1.mono (by simp))) (Nat.le_refl _))).mono ?_; rintro e w2 ⟨rfl, hb2⟩; rw [hn]))
    go_ret3
    exact ⟨rfl, (((Below.refl _ _).alloc (Nat.le_refl _) _).trans (hb1.mono (by simp))).trans (hb2.mono (Nat.le_trans (by simp) hb1.size))⟩
set_option maxHeartbeats 1000000 in
theorem read105 (l : List UInt8) (hl : l.length ≤ 281474976710656) (w : World) (b : Lb w) :
    Calls Tryz.prog 36 #[.string ⟨l.toArray⟩, .int .i32 105] w fun e w' => e = .returned (rdV 105 l) ∧ Below w.heap.size w w' := by
  have hB : Hid (Lb w) := b
  clear b
  have hlen : (l.dropWhile isMark).length ≤ l.length := (List.dropWhile_suffix isMark).length_le
  have hrd : readL 105 l = (pnum (l.takeWhile isMark)).map fun n => (n, l.dropWhile isMark) := rfl
  have hv : Hid (rdV 105 l = match pnum (l.takeWhile isMark) with | some n => .tuple #[.int .i64 n, .string ⟨(l.dropWhile isMark).toArray⟩, .bool true] | none => .tuple #[.int .i64 0, .string ⟨(l.dropWhile isMark).toArray⟩, .bool false]) := by
    show rdV 105 l = _
    unfold rdV
    rw [hrd]
    cases pnum (l.takeWhile isMark) <;> rfl
  clear hrd
  cases hp : pnum (l.takeWhile isMark) with
  | none =>
    have hn : numR (l.takeWhile isMark) = .tuple #[.int .i64 0, .bool false] := by unfold numR; rw [hp]
    rw [hp] at hv
    rw [hv.out]
    clear hp
    go_enter Tryz.func36, Tryz.ntmps36
    go_wp2_with (first | (go_at_call 27; refine (isNumber105 _).mono ?_; rintro e w' ⟨rfl, rfl⟩) | (go_at_call 64; refine (register105 _ _).mono ?_; rintro e w' ⟨rfl, rfl⟩) | (go_at_call 69; refine (trimNum l _).mono ?_; rintro e w1 ⟨rfl, hb1⟩) | (go_at_call 70; refine (number_run isMark l hl _ (hB.out.stays (((Below.refl _ _).alloc (Nat.le_refl _) _).trans (hb1.mono (by simp))) (Nat.le_refl _))).mono ?_; rintro e w2 ⟨rfl, hb2⟩; rw [hn]))
    go_ret3
    exact ⟨rfl, (((Below.refl _ _).alloc (Nat.le_refl _) _).trans (hb1.mono (by simp))).trans (hb2.mono (Nat.le_trans (by simp) hb1.size))⟩
  | some n =>
    have hn : numR (l.takeWhile isMark) = .tuple #[.int .i64 n, .bool true] := by unfold numR; rw [hp]
    rw [hp] at hv
    rw [hv.out]
    clear hp
    go_enter Tryz.func36, Tryz.ntmps36
    go_wp2_with (first | (go_at_call 27; refine (isNumber105 _).mono ?_; rintro e w' ⟨rfl, rfl⟩) | (go_at_call 64; refine (register105 _ _).mono ?_; rintro e w' ⟨rfl, rfl⟩) | (go_at_call 69; refine (trimNum l _).mono ?_; rintro e w1 ⟨rfl, hb1⟩) | (go_at_call 70; refine (number_run isMark l hl _ (hB.out.stays (((Below.refl _ _).alloc (Nat.le_refl _) _).trans (hb1.mono (by simp))) (Nat.le_refl _))).mono ?_; rintro e w2 ⟨rfl, hb2⟩; rw [hn]))
    go_ret3
    exact ⟨rfl, (((Below.refl _ _).alloc (Nat.le_refl _) _).trans (hb1.mono (by simp))).trans (hb2.mono (Nat.le_trans (by simp) hb1.size))⟩
set_option maxHeartbeats 1000000 in
theorem read117 (l : List UInt8) (hl : l.length ≤ 281474976710656) (w : World) (b : Lb w) :
    Calls Tryz.prog 36 #[.string ⟨l.toArray⟩, .int .i32 117] w fun e w' => e = .returned (rdV 117 l) ∧ Below w.heap.size w w' := by
  have hB : Hid (Lb w) := b
  clear b
  have hlen : (l.dropWhile isMark).length ≤ l.length := (List.dropWhile_suffix isMark).length_le
  have hrd : readL 117 l = (pnum (l.takeWhile isMark)).map fun n => (n, l.dropWhile isMark) := rfl
  have hv : Hid (rdV 117 l = match pnum (l.takeWhile isMark) with | some n => .tuple #[.int .i64 n, .string ⟨(l.dropWhile isMark).toArray⟩, .bool true] | none => .tuple #[.int .i64 0, .string ⟨(l.dropWhile isMark).toArray⟩, .bool false]) := by
    show rdV 117 l = _
    unfold rdV
    rw [hrd]
    cases pnum (l.takeWhile isMark) <;> rfl
  clear hrd
  cases hp : pnum (l.takeWhile isMark) with
  | none =>
    have hn : numR (l.takeWhile isMark) = .tuple #[.int .i64 0, .bool false] := by unfold numR; rw [hp]
    rw [hp] at hv
    rw [hv.out]
    clear hp
    go_enter Tryz.func36, Tryz.ntmps36
    go_wp2_with (first | (go_at_call 27; refine (isNumber117 _).mono ?_; rintro e w' ⟨rfl, rfl⟩) | (go_at_call 64; refine (register117 _ _).mono ?_; rintro e w' ⟨rfl, rfl⟩) | (go_at_call 69; refine (trimNum l _).mono ?_; rintro e w1 ⟨rfl, hb1⟩) | (go_at_call 70; refine (number_run isMark l hl _ (hB.out.stays (((Below.refl _ _).alloc (Nat.le_refl _) _).trans (hb1.mono (by simp))) (Nat.le_refl _))).mono ?_; rintro e w2 ⟨rfl, hb2⟩; rw [hn]))
    go_ret3
    exact ⟨rfl, (((Below.refl _ _).alloc (Nat.le_refl _) _).trans (hb1.mono (by simp))).trans (hb2.mono (Nat.le_trans (by simp) hb1.size))⟩
  | some n =>
    have hn : numR (l.takeWhile isMark) = .tuple #[.int .i64 n, .bool true] := by unfold numR; rw [hp]
    rw [hp] at hv
    rw [hv.out]
    clear hp
    go_enter Tryz.func36, Tryz.ntmps36
    go_wp2_with (first | (go_at_call 27; refine (isNumber117 _).mono ?_; rintro e w' ⟨rfl, rfl⟩) | (go_at_call 64; refine (register117 _ _).mono ?_; rintro e w' ⟨rfl, rfl⟩) | (go_at_call 69; refine (trimNum l _).mono ?_; rintro e w1 ⟨rfl, hb1⟩) | (go_at_call 70; refine (number_run isMark l hl _ (hB.out.stays (((Below.refl _ _).alloc (Nat.le_refl _) _).trans (hb1.mono (by simp))) (Nat.le_refl _))).mono ?_; rintro e w2 ⟨rfl, hb2⟩; rw [hn]))
    go_ret3
    exact ⟨rfl, (((Below.refl _ _).alloc (Nat.le_refl _) _).trans (hb1.mono (by simp))).trans (hb2.mono (Nat.le_trans (by simp) hb1.size))⟩
set_option maxHeartbeats 1000000 in
theorem read106 (l : List UInt8) (hl : l.length ≤ 281474976710656) (w : World) (b : Lb w) :
    Calls Tryz.prog 36 #[.string ⟨l.toArray⟩, .int .i32 106] w fun e w' => e = .returned (rdV 106 l) ∧ Below w.heap.size w w' := by
  have hB : Hid (Lb w) := b
  clear b
  have hlen : (l.dropWhile isMark).length ≤ l.length := (List.dropWhile_suffix isMark).length_le
  have hrd : readL 106 l = (pnum (l.takeWhile isMark)).map fun n => (n, l.dropWhile isMark) := rfl
  have hv : Hid (rdV 106 l = match pnum (l.takeWhile isMark) with | some n => .tuple #[.int .i64 n, .string ⟨(l.dropWhile isMark).toArray⟩, .bool true] | none => .tuple #[.int .i64 0, .string ⟨(l.dropWhile isMark).toArray⟩, .bool false]) := by
    show rdV 106 l = _
    unfold rdV
    rw [hrd]
    cases pnum (l.takeWhile isMark) <;> rfl
  clear hrd
  cases hp : pnum (l.takeWhile isMark) with
  | none =>
    have hn : numR (l.takeWhile isMark) = .tuple #[.int .i64 0, .bool false] := by unfold numR; rw [hp]
    rw [hp] at hv
    rw [hv.out]
    clear hp
    go_enter Tryz.func36, Tryz.ntmps36
    go_wp2_with (first | (go_at_call 27; refine (isNumber106 _).mono ?_; rintro e w' ⟨rfl, rfl⟩) | (go_at_call 64; refine (register106 _ _).mono ?_; rintro e w' ⟨rfl, rfl⟩) | (go_at_call 69; refine (trimNum l _).mono ?_; rintro e w1 ⟨rfl, hb1⟩) | (go_at_call 70; refine (number_run isMark l hl _ (hB.out.stays (((Below.refl _ _).alloc (Nat.le_refl _) _).trans (hb1.mono (by simp))) (Nat.le_refl _))).mono ?_; rintro e w2 ⟨rfl, hb2⟩; rw [hn]))
    go_ret3
    exact ⟨rfl, (((Below.refl _ _).alloc (Nat.le_refl _) _).trans (hb1.mono (by simp))).trans (hb2.mono (Nat.le_trans (by simp) hb1.size))⟩
  | some n =>
    have hn : numR (l.takeWhile isMark) = .tuple #[.int .i64 n, .bool true] := by unfold numR; rw [hp]
    rw [hp] at hv
    rw [hv.out]
    clear hp
    go_enter Tryz.func36, Tryz.ntmps36
    go_wp2_with (first | (go_at_call 27; refine (isNumber106 _).mono ?_; rintro e w' ⟨rfl, rfl⟩) | (go_at_call 64; refine (register106 _ _).mono ?_; rintro e w' ⟨rfl, rfl⟩) | (go_at_call 69; refine (trimNum l _).mono ?_; rintro e w1 ⟨rfl, hb1⟩) | (go_at_call 70; refine (number_run isMark l hl _ (hB.out.stays (((Below.refl _ _).alloc (Nat.le_refl _) _).trans (hb1.mono (by simp))) (Nat.le_refl _))).mono ?_; rintro e w2 ⟨rfl, hb2⟩; rw [hn]))
    go_ret3
    exact ⟨rfl, (((Below.refl _ _).alloc (Nat.le_refl _) _).trans (hb1.mono (by simp))).trans (hb2.mono (Nat.le_trans (by simp) hb1.size))⟩
theorem cutP_any (l p : List UInt8) (w : World) : Calls Tryz.prog 68 #[.string ⟨l.toArray⟩, .string ⟨p.toArray⟩] w fun e w' => e = .returned (.tuple #[.string ⟨(Lib.trimPrefix l p).toArray⟩, .bool (Lib.hasPrefix l p)]) ∧ w' = w :=
  Any.strings_CutPrefix Tryz.l103 ⟨l.toArray⟩ ⟨p.toArray⟩ w
theorem enc_ascii (c : UInt8) (h : c.toNat < 128) : Utf8.encode (c.toNat : Int) = ⟨#[c]⟩ := by
  have hv : Utf8.valid (c.toNat : Int) = true := by unfold Utf8.valid; simp; omega
  have e : UInt8.ofNat ((c.toNat : Int)).toNat = c := by simp
  unfold Utf8.encode
  simp only [hv, if_true]
  rw [if_pos (by omega), e]
theorem num_ne {c : UInt8} (hc : numB c = false) (x : UInt8) (hx : numB x = true) : ¬ (c.toNat : Int) = x.toNat := by
  intro h
  have : c = x := by apply UInt8.toNat_inj.mp; omega
  subst this
  rw [hc] at hx; cases hx
theorem rdV_lit (c : UInt8) (hc : numB c = false) (l : List UInt8) : rdV c l = .tuple #[.int .i64 0, .string ⟨(Lib.trimPrefix l [c]).toArray⟩, .bool (Lib.hasPrefix l [c])] := by
  unfold rdV readL bhd
  simp only [hc, Bool.false_eq_true, if_false]
  cases l with
  | nil => rfl
  | cons x r =>
    by_cases h : x = c
    · subst h; simp [strip, Lib.trimPrefix, Lib.hasPrefix, List.isPrefixOf]
    · have h' : ¬ c = x := fun e => h e.symm
      simp [strip, Lib.trimPrefix, Lib.hasPrefix, List.isPrefixOf, h, h']
set_option maxHeartbeats 1000000 in
theorem readN (c : UInt8) (hc : numB c = false) (h128 : c.toNat < 128) (l : List UInt8) (w : World) :
    Calls Tryz.prog 36 #[.string ⟨l.toArray⟩, .int .i32 c.toNat] w fun e w' => e = .returned (rdV c l) ∧ w' = w := by
  have n83 : ¬ (c.toNat : Int) = 83 := num_ne hc 83 (by decide)
  have n84 : ¬ (c.toNat : Int) = 84 := num_ne hc 84 (by decide)
  have n68 : ¬ (c.toNat : Int) = 68 := num_ne hc 68 (by decide)
  have n97 : ¬ (c.toNat : Int) = 97 := num_ne hc 97 (by decide)
  have n105 : ¬ (c.toNat : Int) = 105 := num_ne hc 105 (by decide)
  have n117 : ¬ (c.toNat : Int) = 117 := num_ne hc 117 (by decide)
  have n106 : ¬ (c.toNat : Int) = 106 := num_ne hc 106 (by decide)
  have hE := enc_ascii c h128
  rw [rdV_lit c hc l]
  go_enter Tryz.func36, Tryz.ntmps36
  go_wp2_with (first | (go_at_call 27; refine (isNumberN _ n83 n84 n68 n97 n105 n117 n106 _).mono ?_; rintro e w' ⟨rfl, rfl⟩) | (go_at_call 68; refine (cutP_any l [c] _).mono ?_; rintro e w' ⟨rfl, rfl⟩))
  go_ret3
  exact ⟨rfl, rfl⟩
end Go.Proofs.YtccnliihdhnckaaGreatDoor
