/-
  What asm.Assemble answers, as a function of its lines.
-/
import Derived.Test.YtccnliihdhnckaaGreatDoorFin
namespace Go.Proofs.YtccnliihdhnckaaGreatDoor
open Go.RowKit Go.Shelf Go.Joins Go.Maps
open Num Tab Fm Txt
set_option linter.unusedVariables false
abbrev Lbs := List UInt8 → Option Int
def lNone : Lbs := fun _ => none
def lPut (g : Lbs) (s : List UInt8) (n : Int) : Lbs := fun t => if t = s then some n else g t
/-- a line is added: parts and labels, or an error's number -/
def addP (at_ : Int) (l : List UInt8) (ps : List Pt) (g : Lbs) : Except Nat (List Pt × Lbs) :=
  if Lib.hasPrefix l [46, 119, 111, 114, 100] then
    match wordS l with
    | none => .error 0
    | some n => .ok (ps ++ [⟨at_, n, 0, ⟨0, 0, 0, 0⟩, []⟩], g)
  else if Lib.hasSuffix l [58] then
    if isNm (Lib.trimSuffix l [58]) then
      if (g (Lib.trimSuffix l [58])).isSome then .error 6 else .ok (ps, lPut g (Lib.trimSuffix l [58]) ps.length)
    else .error 0
  else match parseS (cutT l) with
    | .name => .error 4
    | .text => .error 0
    | .bound => .error 1
    | .ok k f => .ok (ps ++ [⟨at_, 0, k, f, cutN l⟩], g)
def addsP : List (List UInt8) → Nat → List Pt → Lbs → Except (Nat × Nat) (List Pt × Lbs)
  | [], _, ps, g => .ok (ps, g)
  | l :: ls, i, ps, g => match addP i l ps g with
    | .error j => .error (i, j)
    | .ok r => addsP ls (i + 1) r.1 r.2
def finsP (org : Int) (g : Lbs) : List Pt → Nat → Except (Int × Nat) (List Int)
  | [], _ => .ok []
  | p :: ps, n => match finP org g n p with
    | .error j => .error (p.line, j)
    | .ok v => match finsP org g ps (n + 1) with
      | .error e => .error e
      | .ok vs => .ok (v :: vs)
def asmP (ls : List (List UInt8)) (org : Int) : Except (Int × Nat) (List Int) :=
  match addsP ls 0 [] lNone with
  | .error e => .error (e.1, e.2)
  | .ok r => finsP org r.2 r.1 0
/-- what a part holds -/
def PtOk (x : Pt) : Prop := 0 ≤ x.word ∧ x.word < 4294967296 ∧ x.k < 54 ∧ (x.k = 0 ∨ okF x.k x.f) ∧ x.name.length ≤ 1000
def PsOk (ps : List Pt) (g : Lbs) : Prop := (∀ x ∈ ps, PtOk x) ∧ ∀ s v, g s = some v → 0 ≤ v ∧ v ≤ ps.length
theorem PsOk.nil : PsOk [] lNone := ⟨fun x h => by simp at h, fun s v h => by simp [lNone] at h⟩
theorem wordS_rng {l : List UInt8} {n : Int} (h : wordS l = some n) : 0 ≤ n ∧ n < 4294967296 := by
  unfold wordS at h
  split at h
  · cases h
  · split at h
    · injection h with h; subst h; omega
    · cases h
theorem cutN_len (l : List UInt8) : (cutN l).length ≤ l.length := by
  unfold cutN
  split
  · simp
  · simp
theorem PsOk.add {at_ : Int} {l : List UInt8} {ps ps' : List Pt} {g g' : Lbs} (P : PsOk ps g) (hl : l.length ≤ 1000) (h : addP at_ l ps g = .ok (ps', g')) : PsOk ps' g' ∧ ps'.length ≤ ps.length + 1 := by
  have snoc : ∀ x, PtOk x → PsOk (ps ++ [x]) g := fun x hx => ⟨fun y hy => by
      rcases List.mem_append.1 hy with hy | hy
      · exact P.1 y hy
      · simp at hy; subst hy; exact hx, fun s v e => by have := P.2 s v e; simp; omega⟩
  unfold addP at h
  split at h
  · split at h
    · cases h
    · rename_i n hn
      injection h with h; injection h with h1 h2; subst h1 h2
      have := wordS_rng hn
      exact ⟨snoc _ ⟨this.1, this.2, by simp, Or.inl rfl, by simp⟩, by simp⟩
  · split at h
    · split at h
      · split at h
        · cases h
        · injection h with h; injection h with h1 h2; subst h1 h2
          refine ⟨⟨P.1, fun s v e => ?_⟩, by omega⟩
          unfold lPut at e
          split at e
          · injection e with e; omega
          · exact P.2 s v e
      · cases h
    · split at h
      · cases h
      · cases h
      · cases h
      · rename_i k f hk
        injection h with h; injection h with h1 h2; subst h1 h2
        obtain ⟨k1, k2, ok, _⟩ := parse_ok _ _ _ hk
        exact ⟨snoc _ ⟨by simp, by simp, k2, Or.inr ok, by have := cutN_len l; simp; omega⟩, by simp⟩
theorem addP_err {at_ : Int} {l : List UInt8} {ps : List Pt} {g : Lbs} {j : Nat} (h : addP at_ l ps g = .error j) : j < 10 := by
  unfold addP at h
  repeat' split at h
  all_goals (first | (injection h with h; omega) | cases h)
theorem finsP_len {org : Int} {g : Lbs} : ∀ {ps : List Pt} {n : Nat} {vs : List Int}, finsP org g ps n = .ok vs → vs.length = ps.length
  | [], n, vs, h => by simp [finsP] at h; subst h; rfl
  | p :: ps, n, vs, h => by
    unfold finsP at h
    split at h
    · cases h
    · split at h
      · cases h
      · rename_i v hv vs' hvs
        injection h with h; subst h
        simp [finsP_len hvs]
end Go.Proofs.YtccnliihdhnckaaGreatDoor
