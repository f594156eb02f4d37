/-
  What asm.Assemble answers, as a function of its lines.
-/
import Derived.Test.YtccnliihdhnckaaGreatDoorQDecode
import Derived.Test.YtccnliihdhnckaaGreatDoorQFin
namespace Go.Proofs.YtccnliihdhnckaaGreatDoor
open Go.RowKit Go.Shelf Go.Joins Go.Maps
open Num Tab Fm Txt
set_option linter.unusedVariables false
abbrev Lbs := List UInt8 → Option Int
def lNone : Lbs := fun _ => none
def lPut (g : Lbs) (s : List UInt8) (n : Int) : Lbs := fun t => if t = s then some n else g t
/-- a line is added: parts and labels, or an error's number -/
def addP (at_ : Int) (l : List UInt8) (ps : List Pt) (g : Lbs) : Except Nat (List Pt × Lbs) :=
  if Lib.hasPrefix l [46, 119, 111, 114, 100] then
    match wordS l with
    | none => .error 0
    | some n => .ok (ps ++ [⟨at_, n, 0, ⟨0, 0, 0, 0⟩, []⟩], g)
  else if Lib.hasSuffix l [58] then
    if isNm (Lib.trimSuffix l [58]) then
      if (g (Lib.trimSuffix l [58])).isSome then .error 6 else .ok (ps, lPut g (Lib.trimSuffix l [58]) ps.length)
    else .error 0
  else match parseS (cutT l) with
    | .name => .error 4
    | .text => .error 0
    | .bound => .error 1
    | .ok k f => .ok (ps ++ [⟨at_, 0, k, f, cutN l⟩], g)
def addsP : List (List UInt8) → Nat → List Pt → Lbs → Except (Nat × Nat) (List Pt × Lbs)
  | [], _, ps, g => .ok (ps, g)
  | l :: ls, i, ps, g => match addP i l ps g with
    | .error j => .error (i, j)
    | .ok r => addsP ls (i + 1) r.1 r.2
def finsP (org : Int) (g : Lbs) : List Pt → Nat → Except (Int × Nat) (List Int)
  | [], _ => .ok []
  | p :: ps, n => match finP org g n p with
    | .error j => .error (p.line, j)
    | .ok v => match finsP org g ps (n + 1) with
      | .error e => .error e
      | .ok vs => .ok (v :: vs)
def asmP (ls : List (List UInt8)) (org : Int) : Except (Int × Nat) (List Int) :=
  match addsP ls 0 [] lNone with
  | .error e => .error (e.1, e.2)
  | .ok r => finsP org r.2 r.1 0
/-- what a part holds -/
def PtOk (x : Pt) : Prop := 0 ≤ x.word ∧ x.word < 4294967296 ∧ x.k < 54 ∧ (x.k = 0 ∨ okF x.k x.f) ∧ x.name.length ≤ 1000
def PsOk (ps : List Pt) (g : Lbs) : Prop := (∀ x ∈ ps, PtOk x) ∧ ∀ s v, g s = some v → 0 ≤ v ∧ v ≤ ps.length
theorem PsOk.nil : PsOk [] lNone := ⟨fun x h => by simp at h, fun s v h => by simp [lNone] at h⟩
theorem wordS_rng {l : List UInt8} {n : Int} (h : wordS l = some n) : 0 ≤ n ∧ n < 4294967296 := by
  unfold wordS at h
  split at h
  · cases h
  · split at h
    · injection h with h; subst h; omega
    · cases h
theorem cutN_len (l : List UInt8) : (cutN l).length ≤ l.length := by
  unfold cutN
  split
  · simp
  · simp
theorem PsOk.add {at_ : Int} {l : List UInt8} {ps ps' : List Pt} {g g' : Lbs} (P : PsOk ps g) (hl : l.length ≤ 1000) (h : addP at_ l ps g = .ok (ps', g')) : PsOk ps' g' ∧ ps'.length ≤ ps.length + 1 := by
  have snoc : ∀ x, PtOk x → PsOk (ps ++ [x]) g := fun x hx => ⟨fun y hy => by
      rcases List.mem_append.1 hy with hy | hy
      · exact P.1 y hy
      · simp at hy; subst hy; exact hx, fun s v e => by have := P.2 s v e; simp; omega⟩
  unfold addP at h
  split at h
  · split at h
    · cases h
    · rename_i n hn
      injection h with h; injection h with h1 h2; subst h1 h2
      have := wordS_rng hn
      exact ⟨snoc _ ⟨this.1, this.2, by simp, Or.inl rfl, by simp⟩, by simp⟩
  · split at h
    · split at h
      · split at h
        · cases h
        · injection h with h; injection h with h1 h2; subst h1 h2
          refine ⟨⟨P.1, fun s v e => ?_⟩, by omega⟩
          unfold lPut at e
          split at e
          · injection e with e; omega
          · exact P.2 s v e
      · cases h
    · split at h
      · cases h
      · cases h
      · cases h
      · rename_i k f hk
        injection h with h; injection h with h1 h2; subst h1 h2
        obtain ⟨k1, k2, ok, _⟩ := parse_ok _ _ _ hk
        exact ⟨snoc _ ⟨by simp, by simp, k2, Or.inr ok, by have := cutN_len l; simp; omega⟩, by simp⟩
theorem addP_err {at_ : Int} {l : List UInt8} {ps : List Pt} {g : Lbs} {j : Nat} (h : addP at_ l ps g = .error j) : j < 10 := by
  unfold addP at h
  repeat' split at h
  all_goals (first | (injection h with h; omega) | cases h)
theorem finsP_len {org : Int} {g : Lbs} : ∀ {ps : List Pt} {n : Nat} {vs : List Int}, finsP org g ps n = .ok vs → vs.length = ps.length
  | [], n, vs, h => by simp [finsP] at h; subst h; rfl
  | p :: ps, n, vs, h => by
    unfold finsP at h
    split at h
    · cases h
    · split at h
      · cases h
      · rename_i v hv vs' hvs
        injection h with h; subst h
        simp [finsP_len hvs]
end Go.Proofs.YtccnliihdhnckaaGreatDoor
/-
  Words written as text are assembled again: the lines of AsmBack, as lists.
-/
namespace Go.Proofs.YtccnliihdhnckaaGreatDoor
open Go.RowKit Go.Shelf Go.Joins Go.Maps
open Num Tab Fm Txt
set_option linter.unusedVariables false
theorem occ32 (l : List UInt8) (i : Nat) : Lib.occAt l [32] i = true ↔ l[i]? = some 32 := by
  unfold Lib.occAt
  rw [List.isPrefixOf_iff_prefix]
  constructor
  · rintro ⟨r, hr⟩
    have h2 : (l.drop i)[0]? = some 32 := by rw [← hr]; rfl
    simpa using h2
  · intro h
    have hlt : i < l.length := (List.getElem?_eq_some_iff.1 h).1
    refine ⟨l.drop (i + 1), ?_⟩
    have h2 := (List.getElem?_eq_some_iff.1 h).2
    rw [List.drop_eq_getElem_cons hlt, h2]
    rfl
theorem lsi_at (X B : List UInt8) (h : (32 : UInt8) ∉ B) : lsi (X ++ 32 :: B) = X.length + 1 := by
  unfold lsi Lib.lastIndex
  rw [if_pos (by simp; omega)]
  have hat : Lib.occAt (X ++ 32 :: B) [32] X.length = true := (occ32 _ _).2 (by simp)
  rcases Lib.lastOcc_spec (X ++ 32 :: B) [32] ((X ++ 32 :: B).length - [(32 : UInt8)].length + 1) with ⟨_, hn⟩ | ⟨i, hi, e, hc, hn⟩
  · rw [hn X.length (by simp; omega)] at hat; cases hat
  · rw [e]
    have h1 : ¬ i < X.length := fun hl => by
      rw [hn X.length hl (by simp; omega)] at hat; cases hat
    have h2 : ¬ X.length < i := fun hl => by
      have := (occ32 _ _).1 hc
      rw [List.getElem?_append_right (by omega)] at this
      obtain ⟨m, hm⟩ : ∃ m, i - X.length = m + 1 := ⟨i - X.length - 1, by omega⟩
      rw [hm, List.getElem?_cons_succ] at this
      exact h (List.mem_of_getElem? this)
    omega
theorem mark_let {c : UInt8} (h : isMark c = true) : letB c = false := by
  unfold isMark isDig at h
  unfold letB
  simp at h ⊢
  rcases h with h | h
  · omega
  · subst h; decide
theorem nm_no (c : UInt8) (l : List UInt8) (h : letB c = false) : isNm (c :: l) = false := by
  unfold isNm; simp [h]
theorem br_form : ∀ k, k < 54 → isBr k = true → k = 7 ∨ k = 8 ∨ k = 29 ∨ k = 30 ∨ k = 31 ∨ k = 32 ∨ k = 33 ∨ k = 34 := by decide
end Go.Proofs.YtccnliihdhnckaaGreatDoor
/-
  A line is added, whatever it is.
-/
namespace Go.Proofs.YtccnliihdhnckaaGreatDoor
open Go.RowKit Go.Shelf Go.Joins Go.Maps
open Num Tab Fm Txt
set_option linter.unusedVariables false
section
variable {w : World} {base sb lb : Nat} {org : Int} {ps : List Pt} {vp : Value}
set_option maxRecDepth 100000 in
set_option maxHeartbeats 1000000 in
theorem label_noName (E : Nat → Addr) (EE : Er9 E w) (p : Value) (s : List UInt8) (hl : s.length ≤ 1000) (hn : isNm s = false) :
    Calls Tryz.prog 74 #[p, .string ⟨s.toArray⟩] w fun e w' => e = .returned (.iface 210 (.pointer (some (E 0)))) ∧ Below w.heap.size w w' := by
  have hin := isName_any s hl w
  rw [hn] at hin
  have HE : Hid (Er9 E w) := EE
  clear EE hn
  go_enter Tryz.func74, Tryz.ntmps74
  go_wp2_with fail
  refine hin.mono ?_
  rintro e w1 ⟨rfl, hb1⟩
  clear hin
  have c0 := (HE.out.stays hb1).c0
  go_wp2
  go_ret
  exact ⟨rfl, hb1⟩
set_option maxRecDepth 100000 in
set_option maxHeartbeats 1000000 in
theorem label_twice (E : Nat → Addr) (EE : Er9 E w) (S : SrcIs w base sb lb org ps vp) {N : Nat} {g : List UInt8 → Option Int} (L : LabelsAt w lb N g) (s : List UInt8) (hl : s.length ≤ 1000) (hn : isNm s = true) (hg : (g s).isSome = true) :
    Calls Tryz.prog 74 #[.pointer (some ⟨sb, 0, none⟩), .string ⟨s.toArray⟩] w fun e w' => e = .returned (.iface 210 (.pointer (some (E 6)))) ∧ Below w.heap.size w w' := by
  have hin := isName_any s hl w
  rw [hn] at hin
  have hk := key9 s hl
  have HE : Hid (Er9 E w) := EE
  have SH : Hid (SrcIs w base sb lb org ps vp) := S
  have LH : Hid (LabelsAt w lb N g) := L
  clear S L hn EE
  go_enter Tryz.func74, Tryz.ntmps74
  go_wp2_with fail
  refine hin.mono ?_
  rintro e w1 ⟨rfl, hb1⟩
  clear hin
  have c1 := (SH.out.stays hb1).c1
  have c6 := (HE.out.stays hb1).c6
  have hlook := (LH.out.stays hb1).look s hk
  rw [hg] at hlook
  generalize (g s).getD 0 = v at hlook
  clear SH LH HE
  go_wp2
  go_ret
  exact ⟨rfl, hb1⟩
/-- what add answers -/
def AddOut (E : Nat → Addr) (B base sb lb : Nat) (org : Int) (N : Nat) (w : World) (e : Ending) (w' : World) : Except Nat (List Pt × Lbs) → Prop
  | .error j => e = .returned (.iface 210 (.pointer (some (E j)))) ∧ Below B w w'
  | .ok r => e = .returned .nilIface ∧ ∃ vp', SrcIs w' base sb lb org r.1 vp' ∧ LabelsAt w' lb (N + 1) r.2 ∧ Below B w w'
theorem below_turned {B : Nat} {w w1 w' : World} (h1 : Below w.heap.size w w1) (h2 : STurned w1 w' sb vp) (hB : B ≤ w.heap.size) (hs : B ≤ sb) (hv : ∀ k, vp.ownBlock = some k → B ≤ k) : Below B w w' :=
  ⟨h2.os.trans h1.os, h2.tape.trans h1.tape, h2.output.trans h1.output, Nat.le_trans h1.size h2.size, fun k hk => (h2.block k (by have := h1.size; omega) (by omega) (fun e => by have := hv k e; omega)).trans (h1.block k (by omega))⟩
theorem LabelsAt.same {N : Nat} {g : Lbs} {w' : World} (L : LabelsAt w lb N g) (h : w'.heap[lb]? = w.heap[lb]?) : LabelsAt w' lb N g := by
  obtain ⟨D, ⟨es, clock, hb, F, hs, hD⟩, h3⟩ := L
  exact ⟨D, ⟨es, clock, h.trans hb, F, hs, hD⟩, h3⟩
theorem labels_turned {N : Nat} {g : Lbs} {w1 w' : World} (L : LabelsAt w lb N g) (h1 : Below w.heap.size w w1) (h2 : STurned w1 w' sb vp) (hn : lb ≠ sb) (hv : vp.ownBlock ≠ some lb) : LabelsAt w' lb N g :=
  L.same ((h2.block lb (by have := L.lt; have := h1.size; omega) hn hv).trans (h1.block lb L.lt))
theorem below_grow {B : Nat} {w w1 w' : World} (h1 : Below w.heap.size w w1) (h2 : w1.grownBy w' (some lb)) (hB : B ≤ w.heap.size) (hl : B ≤ lb) : Below B w w' :=
  ⟨h2.os.trans h1.os, h2.tape.trans h1.tape, h2.output.trans h1.output, Nat.le_trans h1.size h2.size, fun k hk => (h2.block k (by have := h1.size; omega) (by simp; omega)).trans (h1.block k (by omega))⟩
theorem trimS_len (l p : List UInt8) : (Lib.trimSuffix l p).length ≤ l.length := by
  unfold Lib.trimSuffix; split <;> simp
theorem add_all (E : Nat → Addr) (EE : Er9 E w) (S : SrcIs w base sb lb org ps vp) (b : Lb w) {N : Nat} {g : Lbs} (L : LabelsAt w lb N g) (hN : N < 1000) {B : Nat} (hB : B ≤ w.heap.size) (hs : B ≤ sb) (hlb : B ≤ lb) (hbb : B ≤ base) (at_ : Int) (l : List UInt8) (hl : l.length ≤ 1000) (hp : ps.length ≤ 10000) :
    Calls Tryz.prog 43 #[.pointer (some ⟨sb, 0, none⟩), .int .i64 at_, .string ⟨l.toArray⟩] w fun e w' => AddOut E B base sb lb org N w e w' (addP at_ l ps g) := by
  have hvb : ∀ k, vp.ownBlock = some k → B ≤ k := fun k e => by have := (S.rp.lt k e).1; omega
  have hvl : vp.ownBlock ≠ some lb := fun e => by have := (S.rp.lt lb e).1; have := S.ll; omega
  have no : ∀ j, addP at_ l ps g = .error j → (Calls Tryz.prog 43 #[.pointer (some ⟨sb, 0, none⟩), .int .i64 at_, .string ⟨l.toArray⟩] w fun e w' => e = .returned (.iface 210 (.pointer (some (E j)))) ∧ Below w.heap.size w w') → Calls Tryz.prog 43 #[.pointer (some ⟨sb, 0, none⟩), .int .i64 at_, .string ⟨l.toArray⟩] w fun e w' => AddOut E B base sb lb org N w e w' (addP at_ l ps g) := by
    intro j hj hc
    rw [hj]
    exact hc.mono fun e w' h => ⟨h.1, h.2.mono hB⟩
  by_cases h1 : Lib.hasPrefix l [46, 119, 111, 114, 100] = true
  · cases hw : wordS l with
    | none =>
      exact no 0 (by unfold addP; rw [if_pos h1, hw]) (add_word at_ l h1 (plain_no E EE _ b at_ l hl hw))
    | some n =>
      have ha : addP at_ l ps g = .ok (ps ++ [⟨at_, n, 0, ⟨0, 0, 0, 0⟩, []⟩], g) := by unfold addP; rw [if_pos h1, hw]
      rw [ha]
      refine (add_word at_ l h1 (plain_ok S b at_ l hl hp n hw)).mono ?_
      rintro e w' ⟨rfl, vp', S', ⟨w1, hb1, ht⟩, hm⟩
      exact ⟨rfl, vp', S', (labels_turned L hb1 ht S.nl.symm hvl).mono (by omega), below_turned hb1 ht hB hs hvb⟩
  · have h1' : Lib.hasPrefix l [46, 119, 111, 114, 100] = false := by simpa using h1
    by_cases h2 : Lib.hasSuffix l [58] = true
    · have htl := trimS_len l [58]
      by_cases h3 : isNm (Lib.trimSuffix l [58]) = true
      · by_cases h4 : (g (Lib.trimSuffix l [58])).isSome = true
        · exact no 6 (by unfold addP; rw [if_neg h1, if_pos h2, if_pos h3, if_pos h4]) (add_label at_ l hl h1' h2 (label_twice E EE S L _ (by omega) h3 h4))
        · have ha : addP at_ l ps g = .ok (ps, lPut g (Lib.trimSuffix l [58]) ps.length) := by unfold addP; rw [if_neg h1, if_pos h2, if_pos h3, if_neg h4]
          rw [ha]
          have hc := label_ok S L (by unfold maxLen; omega) hp (Lib.trimSuffix l [58]) (by omega) h3 (by simpa using h4)
          refine (add_label at_ l hl h1' h2 hc).mono ?_
          rintro e w' ⟨rfl, S', L', w1, hb1, hg⟩
          exact ⟨rfl, vp, S', L', below_grow hb1 hg hB hlb⟩
      · exact no 0 (by unfold addP; rw [if_neg h1, if_pos h2, if_neg h3]) (add_label at_ l hl h1' h2 (label_noName E EE _ _ (by omega) (by simpa using h3)))
    · have h2' : Lib.hasSuffix l [58] = false := by simpa using h2
      have err : ∀ j, prE (parseS (cutT l)) = j → j < 10 → addP at_ l ps g = .error j → Calls Tryz.prog 43 #[.pointer (some ⟨sb, 0, none⟩), .int .i64 at_, .string ⟨l.toArray⟩] w fun e w' => AddOut E B base sb lb org N w e w' (addP at_ l ps g) := fun j hj hn ha =>
        no j ha (add_instr at_ l hl h1' h2' (instr_no E EE _ b at_ l hl j hj hn))
      cases hw : parseS (cutT l) with
      | name => exact err 4 (by rw [hw]; rfl) (by omega) (by unfold addP; rw [if_neg h1, if_neg h2, hw])
      | text => exact err 0 (by rw [hw]; rfl) (by omega) (by unfold addP; rw [if_neg h1, if_neg h2, hw])
      | bound => exact err 1 (by rw [hw]; rfl) (by omega) (by unfold addP; rw [if_neg h1, if_neg h2, hw])
      | ok k f =>
        have ha : addP at_ l ps g = .ok (ps ++ [⟨at_, 0, k, f, cutN l⟩], g) := by unfold addP; rw [if_neg h1, if_neg h2, hw]
        rw [ha]
        refine (add_instr at_ l hl h1' h2' (instr_ok E EE S b at_ l hl hp k f hw)).mono ?_
        rintro e w' ⟨rfl, vp', S', ⟨w1, hb1, ht⟩, hm⟩
        exact ⟨rfl, vp', S', (labels_turned L hb1 ht S.nl.symm hvl).mono (by omega), below_turned hb1 ht hB hs hvb⟩
end
end Go.Proofs.YtccnliihdhnckaaGreatDoor
