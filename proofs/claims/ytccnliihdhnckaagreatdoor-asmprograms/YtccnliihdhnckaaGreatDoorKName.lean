/-
  What may be a label's name; the place of a word.
-/
import Derived.Lib.DecodeN
import Derived.Test.YtccnliihdhnckaaGreatDoorQParse
namespace Go.Proofs.YtccnliihdhnckaaGreatDoor
open Go.RowKit Go.Shelf Go.Joins
open Num Tab Fm Txt
set_option linter.unusedVariables false
theorem decodeN_hi (n b0 b1 b2 b3 : Nat) (h : 128 ≤ b0) (h2 : b0 < 256) : 128 ≤ (Lib.decodeN n b0 b1 b2 b3).1 ∧ (Lib.decodeN n b0 b1 b2 b3).1 < 2147483648 := by
  unfold Lib.decodeN
  rw [if_neg (by omega)]
  split
  · split <;> simp <;> omega
  · split
    · split <;> simp <;> omega
    · split
      · split <;> simp <;> omega
      · simp
def letB (c : UInt8) : Bool := decide (97 ≤ c.toNat ∧ c.toNat ≤ 122)
def nmB (c : UInt8) : Bool := letB c || isDig c
def isNm (l : List UInt8) : Bool := decide (l ≠ [] ∧ l.length ≤ 12) && letB (l.headD 0) && l.all nmB
theorem isLetter_any (r : Int) (w : World) : Calls Tryz.prog 124 #[.int .i32 r] w fun e w' => e = .returned (.bool (decide (97 ≤ r ∧ r ≤ 122))) ∧ w' = w := by
  by_cases h1 : 97 ≤ r
  · by_cases h2 : r ≤ 122
    · rw [decide_eq_true ⟨h1, h2⟩]
      go_enter Tryz.func124, Tryz.ntmps124
      go_wp2
      go_ret
      exact ⟨rfl, rfl⟩
    · rw [decide_eq_false (fun h => h2 h.2)]
      go_enter Tryz.func124, Tryz.ntmps124
      go_wp2
      go_ret
      exact ⟨rfl, rfl⟩
  · rw [decide_eq_false (fun h => h1 h.1)]
    go_enter Tryz.func124, Tryz.ntmps124
    go_wp2
    go_ret
    exact ⟨rfl, rfl⟩
theorem place_any (b : Nat) (base n : Int) (h0 : 0 ≤ base) (h1 : base < 4294967296) (n0 : 0 ≤ n) (n1 : n ≤ 1000000) (w : World) (hc : w.cell? ⟨b, 0, none⟩ = some (.int .u32 base)) :
    Calls Tryz.prog 104 #[.pointer (some ⟨b, 0, none⟩), .int .i64 n] w fun e w' => e = .returned (.int .u32 ((base + 4 * n) % 4294967296)) ∧ w' = w := by
  go_enter Tryz.func104, Tryz.ntmps104
  go_wp2
  go_ret
  exact ⟨rfl, rfl⟩
end Go.Proofs.YtccnliihdhnckaaGreatDoor
/-
  isName, for any text.
-/
namespace Go.Proofs.YtccnliihdhnckaaGreatDoor
open Go.RowKit Go.Shelf Go.Joins
open Num Tab Fm Txt
set_option linter.unusedVariables false
structure NInv (w wr : World) (l : List UInt8) (p : Nat) : Prop where
  it : wr.heap[w.heap.size]? = some (.stringIter ⟨l.toArray⟩ p)
  bel : Below w.heap.size w wr
theorem NInv.next {w wr : World} {l : List UInt8} {p : Nat} (E : NInv w wr l p) (j : Nat) : NInv w (wr.iterAt w.heap.size ⟨l.toArray⟩ j) l j :=
  ⟨Lib.iterAt_heap wr _ _ p _ E.it, Lib.below_iterAt E.bel (Nat.le_refl _) _ _⟩
theorem NInv.start (w : World) (l : List UInt8) : NInv w (w.iter ⟨l.toArray⟩ 0) l 0 :=
  ⟨World.iter_heap w _ 0, (Below.refl _ _).alloc (Nat.le_refl _) _⟩
theorem let_iff (c : UInt8) : decide (97 ≤ (c.toNat : Int) ∧ (c.toNat : Int) ≤ 122) = letB c := by
  unfold letB; rw [decide_eq_decide]; omega
theorem isNm_all {l : List UInt8} (hne : l ≠ []) (hl : l.length ≤ 12) (h0 : letB (l.headD 0) = true) : isNm l = l.all nmB := by
  unfold isNm; rw [h0, decide_eq_true ⟨hne, hl⟩]; rfl
theorem all_take {l : List UInt8} {p : Nat} (h : p < l.length) : (l.take (p + 1)).all nmB = ((l.take p).all nmB && nmB l[p]) := by
  rw [List.take_succ_eq_append_getElem h, List.all_append]; simp
set_option maxRecDepth 100000 in
set_option maxHeartbeats 1000000 in
theorem isName_any (l : List UInt8) (hl : l.length ≤ 1000) (w : World) : Calls Tryz.prog 102 #[.string ⟨l.toArray⟩] w fun e w' => e = .returned (.bool (isNm l)) ∧ Below w.heap.size w w' := by
  have hl' : (l.length : Int) ≤ 1000 := by omega
  cases hc : l with
  | nil =>
    go_enter Tryz.func102, Tryz.ntmps102
    go_wp2
    go_ret
    exact ⟨rfl, Below.refl _ _⟩
  | cons c t =>
    rw [← hc]
    have hne : l ≠ [] := by rw [hc]; simp
    have hnb : (l == []) = false := by rw [hc]; rfl
    have h0l : 0 < l.length := by rw [hc]; simp
    have h0l' : (0 : Int) < l.length := by omega
    have hh : l.headD 0 = l[0] := by subst hc; rfl
    have hi0 : ∀ h, (⟨l.toArray⟩ : ByteArray)[0]'h = l[0] := fun _ => rfl
    clear hc
    by_cases h12 : 12 < (l.length : Int)
    · have HF : Hid (isNm l = false) := by show isNm l = false; unfold isNm; rw [decide_eq_false (by omega)]; rfl
      rw [HF.out]
      go_enter Tryz.func102, Tryz.ntmps102
      go_wp2
      go_ret
      exact ⟨rfl, Below.refl _ _⟩
    · have hb1 : (l[0].toNat : Int) ≤ 255 := by have := l[0].toNat_lt; omega
      have hb0 : (0 : Int) ≤ l[0].toNat := by omega
      have hil := isLetter_any (l[0].toNat : Int)
      rw [let_iff] at hil
      cases hle : letB l[0] with
      | false =>
        rw [hle] at hil
        have HF : Hid (isNm l = false) := by show isNm l = false; unfold isNm; rw [hh, hle]; simp
        rw [HF.out]
        go_enter Tryz.func102, Tryz.ntmps102
        go_wp2_with (go_at_call 124; refine (hil _).mono ?_; rintro e w' ⟨rfl, rfl⟩)
        go_ret
        exact ⟨rfl, Below.refl _ _⟩
      | true =>
        rw [hle] at hil
        have HF : Hid (isNm l = l.all nmB) := isNm_all hne (by omega) (by rw [hh]; exact hle)
        rw [HF.out]
        go_enter Tryz.func102, Tryz.ntmps102
        go_wp2_with (go_at_call 124; refine (hil _).mono ?_; rintro e w' ⟨rfl, rfl⟩)
        clear hil hle hh hi0 hb0 hb1
        go_loopw [2] (fun a wr => ∃ p : Nat, p ≤ l.length ∧ a = .bool false ∧ Hid ((l.take p).all nmB = true) ∧ NInv w' wr l p) (fun _ wr => l.length - wr.iterPos w'.heap.size)
        case atStart => exact ⟨0, Nat.zero_le _, rfl, rfl, NInv.start _ _⟩
        case round =>
          obtain ⟨p, hp, rfl, HA, E⟩ := hrel
          by_cases hpl : p < l.length
          · have hat := all_take hpl
            by_cases hc128 : l[p].toNat < 128
            · have hnx := fun ty => dec_at l p hpl _ rfl hc128 wr w'.heap.size E.it ty
              have hil := isLetter_any (l[p].toNat : Int)
              rw [let_iff] at hil
              have hnm : nmB l[p] = (letB l[p] || decide (48 ≤ l[p].toNat ∧ l[p].toNat ≤ 57)) := rfl
              have E2 := E.next (p + 1)
              have hpos := iterPos_of E2.it
              generalize l[p] = c at hc128 hnx hil hnm hat
              generalize wr.iterAt w'.heap.size ⟨l.toArray⟩ (p + 1) = wr2 at hnx E2 hpos
              cases hle : letB c with
              | true =>
                rw [hle] at hil hnm
                have HN : Hid ((l.take (p + 1)).all nmB = true) := by show _ = true; rw [hat, HA.out, hnm]; rfl
                clear hat hnm
                go_wp2_with (go_at_call 124; refine (hil _).mono ?_; rintro e w2 ⟨rfl, rfl⟩)
                go_roundw
                case rel => exact ⟨p + 1, by omega, rfl, HN.out, E2⟩
                case measure => rw [hpos, iterPos_of E.it]; omega
              | false =>
                rw [hle] at hil hnm
                by_cases d1 : (c.toNat : Int) < 48
                · have HN : Hid (l.all nmB = false) := by
                    show _ = false
                    rw [← List.take_append_drop (p + 1) l, List.all_append, hat, hnm, decide_eq_false (by omega)]; simp
                  clear hat hnm
                  go_wp2_with (go_at_call 124; refine (hil _).mono ?_; rintro e w2 ⟨rfl, rfl⟩)
                  go_ret
                  exact ⟨by rw [HN.out]; rfl, E2.bel⟩
                · by_cases d2 : 57 < (c.toNat : Int)
                  · have HN : Hid (l.all nmB = false) := by
                      show _ = false
                      rw [← List.take_append_drop (p + 1) l, List.all_append, hat, hnm, decide_eq_false (by omega)]; simp
                    clear hat hnm
                    go_wp2_with (go_at_call 124; refine (hil _).mono ?_; rintro e w2 ⟨rfl, rfl⟩)
                    go_ret
                    exact ⟨by rw [HN.out]; rfl, E2.bel⟩
                  · have HN : Hid ((l.take (p + 1)).all nmB = true) := by show _ = true; rw [hat, HA.out, hnm, decide_eq_true (by omega)]; rfl
                    clear hat hnm
                    go_wp2_with (go_at_call 124; refine (hil _).mono ?_; rintro e w2 ⟨rfl, rfl⟩)
                    go_roundw
                    case rel => exact ⟨p + 1, by omega, rfl, HN.out, E2⟩
                    case measure => rw [hpos, iterPos_of E.it]; omega
            · have hs : p < (ByteArray.mk l.toArray).size := by simpa [ByteArray.size] using hpl
              have hnx := fun ty => Lib.run_next_any_at (P := Tryz.prog) wr w'.heap.size _ p ty E.it hs
              have hdec := Lib.decode_at ⟨l.toArray⟩ p
              have hg : ((⟨l.toArray⟩ : ByteArray).get! p).toNat = l[p].toNat := by simp [ByteArray.get!, hpl]
              have hlt : l[p].toNat < 256 := l[p].toNat_lt
              have hhi : 128 ≤ (Utf8.decode ⟨l.toArray⟩ p).1 ∧ (Utf8.decode ⟨l.toArray⟩ p).1 < 2147483648 := by
                rw [hdec]; exact decodeN_hi _ _ _ _ _ (by rw [hg]; omega) (by rw [hg]; omega)
              have hnf : nmB l[p] = false := by
                unfold nmB letB isDig; simp; omega
              have HN : Hid (l.all nmB = false) := by
                show _ = false
                rw [← List.take_append_drop (p + 1) l, List.all_append, hat, hnf]; simp
              have E2 := E.next (p + (Utf8.decode ⟨l.toArray⟩ p).2)
              have hil := isLetter_any ((Utf8.decode ⟨l.toArray⟩ p).1 : Int)
              rw [decide_eq_false (by omega)] at hil
              clear hat hnf hdec hg
              generalize (Utf8.decode ⟨l.toArray⟩ p).1 = r at *
              generalize wr.iterAt w'.heap.size ⟨l.toArray⟩ (p + (Utf8.decode ⟨l.toArray⟩ p).2) = wr2 at hnx E2
              have d1 : ¬ (r : Int) < 48 := by omega
              have d2 : (57 : Int) < r := by omega
              go_wp2_with (go_at_call 124; refine (hil _).mono ?_; rintro e w2 ⟨rfl, rfl⟩)
              go_ret
              exact ⟨by rw [HN.out]; rfl, E2.bel⟩
          · obtain rfl : p = l.length := by omega
            have hs : ¬ l.length < (ByteArray.mk l.toArray).size := by simp [ByteArray.size]
            have hnx := fun ty => Lib.run_next_end_at (P := Tryz.prog) wr _ _ _ ty E.it hs
            have hbel := E.bel
            have HN : Hid (l.all nmB = true) := by have := HA.out; rwa [List.take_length] at this
            clear HA
            go_wp2
            go_ret
            exact ⟨by rw [HN.out]; rfl, hbel⟩
end Go.Proofs.YtccnliihdhnckaaGreatDoor
/-
  The document's answer's number at a place, as lists say it: NumberAt.
-/
namespace Go.Proofs.YtccnliihdhnckaaGreatDoor
open Go.RowKit Go.Shelf Go.Joins
open Num Tab Fm Txt
set_option linter.unusedVariables false
def bad : Value := .tuple #[.int .i64 0, .int .i64 (-1)]
/-- what NumberAt answers -/
def naV (l : List UInt8) (a : Nat) : Value := match rnum (l.drop a) with | some (n, r) => .tuple #[.int .i64 n, .int .i64 ((l.length : Int) - r.length)] | none => bad
/-- the digits from a place on -/
def digsAt (l : List UInt8) (f : Nat) : List UInt8 := (l.drop f).takeWhile isDig
def naW (l : List UInt8) (f : Nat) (mi : Bool) : Value :=
  if digsAt l f = [] ∨ 10 < (digsAt l f).length ∨ ((digsAt l f).head? = some 48 ∧ (1 < (digsAt l f).length ∨ mi = true)) then bad
  else .tuple #[.int .i64 (if mi then -(val (digsAt l f) : Int) else val (digsAt l f)), .int .i64 ((f + (digsAt l f).length : Nat) : Int)]
theorem drop_digs_len (l : List UInt8) (f : Nat) (hf : f ≤ l.length) : (l.length : Int) - ((l.drop f).dropWhile isDig).length = ((f + (digsAt l f).length : Nat) : Int) := by
  have h : (l.drop f).takeWhile isDig ++ (l.drop f).dropWhile isDig = l.drop f := List.takeWhile_append_dropWhile
  have := congrArg List.length h
  rw [List.length_append, List.length_drop] at this
  unfold digsAt
  omega
theorem naV_plain (l : List UInt8) (a : Nat) (ha : a ≤ l.length) (h : (l.drop a).head? ≠ some 45) : naV l a = naW l a false := by
  have hb : ((l.drop a).head? == some 45) = false := by simpa using h
  unfold naV naW rnum
  simp only [hb, Bool.false_eq_true, if_false]
  show (match (if digsAt l a = [] ∨ 10 < (digsAt l a).length ∨ ((digsAt l a).head? = some 48 ∧ (1 < (digsAt l a).length ∨ False)) then none else some ((val (digsAt l a) : Int), (l.drop a).dropWhile isDig)) with | some (n, r) => Value.tuple #[.int .i64 n, .int .i64 ((l.length : Int) - r.length)] | none => bad) = _
  split
  · rename_i n r hh
    split at hh
    · cases hh
    · rename_i hn
      injection hh with hh
      injection hh with e1 e2
      subst e1 e2
      rw [if_neg hn, drop_digs_len l a ha]
  · rename_i hh
    split at hh
    · rename_i hn
      rw [if_pos hn]
    · cases hh
theorem naV_minus (l : List UInt8) (a : Nat) (ha : a < l.length) (h : l[a] = 45) : naV l a = naW l (a + 1) true := by
  have hd : l.drop a = 45 :: l.drop (a + 1) := by rw [List.drop_eq_getElem_cons ha, h]
  unfold naV naW rnum
  rw [hd]
  simp only [List.head?_cons, beq_self_eq_true, if_true, List.tail_cons]
  show (match (if digsAt l (a + 1) = [] ∨ 10 < (digsAt l (a + 1)).length ∨ ((digsAt l (a + 1)).head? = some 48 ∧ (1 < (digsAt l (a + 1)).length ∨ True)) then none else some (-(val (digsAt l (a + 1)) : Int), (l.drop (a + 1)).dropWhile isDig)) with | some (n, r) => Value.tuple #[.int .i64 n, .int .i64 ((l.length : Int) - r.length)] | none => bad) = _
  split
  · rename_i n r hh
    split at hh
    · cases hh
    · rename_i hn
      injection hh with hh
      injection hh with e1 e2
      subst e1 e2
      rw [if_neg hn, drop_digs_len l (a + 1) (by omega)]
  · rename_i hh
    split at hh
    · rename_i hn
      rw [if_pos hn]
    · cases hh
/-- a digit more -/
theorem digs_more (l : List UInt8) (f i : Nat) (hi : i ≤ (digsAt l f).length) (hl : f + i < l.length) (hd : isDig l[f + i] = true) : i < (digsAt l f).length ∧ ∀ h : i < (digsAt l f).length, (digsAt l f)[i] = l[f + i] := by
  have key : ∀ (r : List UInt8) (i : Nat), i ≤ (r.takeWhile isDig).length → ∀ (h : i < r.length), isDig r[i] = true → i < (r.takeWhile isDig).length := by
    intro r
    induction r with
    | nil => intro i _ h; simp at h
    | cons c r ih =>
      intro i hi h hd
      by_cases hc : isDig c = true
      · simp only [List.takeWhile_cons, hc, if_true, List.length_cons] at hi ⊢
        cases i with
        | zero => omega
        | succ i =>
          have := ih i (by omega) (by simpa using h) (by simpa using hd)
          omega
      · simp only [List.takeWhile_cons, hc, Bool.false_eq_true, if_false, List.length_nil] at hi ⊢
        have : i = 0 := by omega
        subst this
        simp at hd
        exact absurd hd hc
  have hdl : i < (l.drop f).length := by rw [List.length_drop]; omega
  have e : (l.drop f)[i] = l[f + i] := List.getElem_drop
  refine ⟨key (l.drop f) i hi hdl (by rw [e]; exact hd), fun h => ?_⟩
  rw [← e]
  unfold digsAt at h ⊢
  exact List.IsPrefix.getElem (List.takeWhile_prefix isDig) h
theorem digs_end (l : List UInt8) (f i : Nat) (hi : i ≤ (digsAt l f).length) (h : f + i = l.length ∨ ∃ h : f + i < l.length, isDig l[f + i] = false) : i = (digsAt l f).length := by
  rcases Nat.lt_or_ge i (digsAt l f).length with g | g
  · exfalso
    have hl : (digsAt l f).length ≤ (l.drop f).length := (List.takeWhile_prefix isDig).length_le
    rw [List.length_drop] at hl
    have hfi : f + i < l.length := by omega
    have hdl : i < (l.drop f).length := by rw [List.length_drop]; omega
    have e : (digsAt l f)[i] = l[f + i] := by
      have e1 : (l.drop f)[i] = l[f + i] := List.getElem_drop
      rw [← e1]
      unfold digsAt at g ⊢
      exact List.IsPrefix.getElem (List.takeWhile_prefix isDig) g
    have hd := mem_take isDig (l.drop f) _ (List.getElem_mem (l := (l.drop f).takeWhile isDig) g)
    have hd2 : isDig l[f + i] = true := by rw [← e]; exact hd
    rcases h with h | ⟨h, h2⟩
    · omega
    · rw [hd2] at h2; cases h2
  · omega
theorem val_take (ds : List UInt8) (i : Nat) (h : i < ds.length) : val (ds.take (i + 1)) = val (ds.take i) * 10 + (ds[i].toNat - 48) := by
  rw [List.take_add_one, List.getElem?_eq_getElem h]
  simp only [Option.toList_some]
  rw [val_append]; rfl
theorem val_lt (ds : List UInt8) (hd : ∀ c ∈ ds, isDig c = true) : val ds < 10 ^ ds.length := by
  induction h : ds.length generalizing ds with
  | zero => rw [List.eq_nil_of_length_eq_zero h]; decide
  | succ n ih =>
    have hn : ds ≠ [] := by intro e; subst e; simp at h
    obtain ⟨a, c, rfl⟩ : ∃ a c, ds = a ++ [c] := ⟨ds.dropLast, ds.getLast hn, (List.dropLast_concat_getLast hn).symm⟩
    have hl : a.length = n := by simp at h; exact h
    have := ih a (fun x hx => hd x (by simp [hx])) hl
    have hc := hd c (by simp)
    unfold isDig at hc
    simp at hc
    rw [val_append, Nat.pow_succ]
    show val a * 10 + (c.toNat - 48) < _
    omega
theorem digs_head (l : List UInt8) (f : Nat) (hf : f < l.length) (h : 0 < (digsAt l f).length) : (digsAt l f).head? = some l[f] := by
  have e : (l.drop f)[0]'(by rw [List.length_drop]; omega) = l[f] := by rw [List.getElem_drop]; rfl
  have e2 : (digsAt l f)[0] = l[f] := by
    rw [← e]
    unfold digsAt at h ⊢
    exact List.IsPrefix.getElem (List.takeWhile_prefix isDig) h
  rw [List.head?_eq_getElem?, List.getElem?_eq_getElem h, e2]
end Go.Proofs.YtccnliihdhnckaaGreatDoor
