/-
  faulted; OwnRows.
-/
import Derived.Test.YtcccaejjhodnkabGreatDoorQCode
import Derived.Test.YtcccaejjhodnkabGreatDoorKMk3
import Derived.Test.YtcccaejjhodnkabGreatDoorKMk5
namespace Go.Proofs.YtcccaejjhodnkabGreatDoor
open Go.RowKit Go.Maps
open Num
set_option linter.unusedVariables false
/-- the errors as the program's variables have them, by their numbers -/
def peS (S : Nat → Addr) (n : Nat) : Addr := S (n - 1)
theorem num_is (n : Nat) (h1 : 1 ≤ n) (h2 : n ≤ 10) : num (n - 1) = (n : Int) := by unfold num; rw [if_pos (by omega)]; omega
set_option maxRecDepth 100000 in
set_option maxHeartbeats 1000000 in
theorem faulted_any (S : Nat → Addr) {w : World} (EE : Errs S w) (f : Int × Int) (x : Value) (C : CErr (peS S) w f x) (hv : f = (0, -1) ∨ (1 ≤ f.1 ∧ f.1 ≤ 10)) :
    Calls Tryz.prog 9 #[x, .agg #[.int .i64 f.1, .int .i64 f.2]] w fun e w' => e = .returned (.bool true) ∧ Below w.heap.size w w' := by
  obtain ⟨a, b⟩ := f
  have B0 : Below w.heap.size w (w.alloc (.cells #[.int .i64 a, .int .i64 b] 42)) := (Below.refl _ _).alloc (Nat.le_refl _) _
  have c0 : (w.alloc (.cells #[.int .i64 a, .int .i64 b] 42)).cell? ⟨w.heap.size, 0, none⟩ = some (.int .i64 a) := by simp
  have c1 : (w.alloc (.cells #[.int .i64 a, .int .i64 b] 42)).cell? ⟨w.heap.size, 1, none⟩ = some (.int .i64 b) := by simp
  have E1 := EE.stays B0
  have hcode : ∃ y : Int, Calls Tryz.prog 23 #[x] (w.alloc (.cells #[.int .i64 a, .int .i64 b] 42)) (fun e w' => e = .returned (.tuple #[.int .i64 a, .int .i64 y]) ∧ Below (w.alloc (.cells #[.int .i64 a, .int .i64 b] 42)).heap.size (w.alloc (.cells #[.int .i64 a, .int .i64 b] 42)) w') ∧ (a = 0 ∨ y = b) := by
    rcases C with ⟨h1, h2⟩ | ⟨h1, h2, fb, h3, h4, h5⟩
    · have h1 : b = -1 := h1
      have h2 : x = erV (peS S) a := h2
      by_cases ha : a = 0
      · subst ha
        rw [show erV (peS S) 0 = .nilIface from rfl] at h2
        subst h2
        refine ⟨-1, (code_nil _).mono ?_, .inl rfl⟩
        rintro e w' ⟨rfl, hw⟩
        rw [hw]
        exact ⟨rfl, Below.refl _ _⟩
      · have hpos : 1 ≤ a := hv.elim (fun h => absurd (congrArg Prod.fst h) ha) (fun h => h.1)
        obtain ⟨n, rfl⟩ : ∃ n : Nat, a = n := ⟨a.toNat, by omega⟩
        have hn : 1 ≤ n ∧ n ≤ 10 := by
          rcases hv with hv | hv
          · injection hv with hv; exact absurd hv ha
          · have h5 : (1 : Int) ≤ (n : Int) := hv.1
            have h6 : (n : Int) ≤ 10 := hv.2
            omega
        rw [erV_some ha] at h2
        have hcb := code_bare S (S (n - 1)) (n - 1) _ E1 (.inl ⟨by omega, rfl⟩) (E1.row (n - 1) (by omega))
        rw [num_is n hn.1 hn.2] at hcb
        subst h2
        exact ⟨-1, hcb, .inr h1.symm⟩
    · have h2 : a ≠ 0 := h2
      have hpos : 1 ≤ a := hv.elim (fun h => absurd (congrArg Prod.fst h) h2) (fun h => h.1)
      obtain ⟨n, rfl⟩ : ∃ n : Nat, a = n := ⟨a.toNat, by omega⟩
      have hn : 1 ≤ n ∧ n ≤ 10 := by
        rcases hv with hv | hv
        · injection hv with hv; exact absurd hv h2
        · have h5 : (1 : Int) ≤ (n : Int) := hv.1
          have h6 : (n : Int) ≤ 10 := hv.2
          omega
      have h5' : w.cell? ⟨fb, 0 + 1, none⟩ = some (.iface 171 (.pointer (some (S (n - 1))))) := by rw [h5]; show some (erV (peS S) (n : Int)) = _; rw [erV_some h2]; rfl
      have hcf := code_fault S (S (n - 1)) (n - 1) fb 0 b _ E1 (.inl ⟨by omega, rfl⟩) (E1.row (n - 1) (by omega)) ((B0.cell (p := ⟨fb, 0, none⟩) (World.block_lt_of_cell? _ _ h4)).trans h4) ((B0.cell (p := ⟨fb, 0 + 1, none⟩) (World.block_lt_of_cell? _ _ h5')).trans h5')
      rw [num_is n hn.1 hn.2] at hcf
      subst h3
      exact ⟨b, hcf, .inr rfl⟩
  obtain ⟨y, hco, hay⟩ := hcode
  have hx : ∃ X, x = X := ⟨_, rfl⟩
  clear C E1 EE hv
  go_enter Tryz.func9, Tryz.ntmps9
  go_upto_region 1 with fail
  generalize w.alloc (.cells #[.int .i64 a, .int .i64 b] 42) = V at *
  have HB : Hid (Below w.heap.size w V) := B0
  have z0 := World.block_lt_of_cell? _ _ c0
  clear B0
  go_wp2_with fail
  refine hco.mono ?_
  rintro e w2 ⟨rfl, hb2⟩
  have HB2 : Hid (Below w.heap.size w w2) := HB.out.trans (hb2.mono HB.out.size)
  have d0 := (hb2.cell (p := ⟨w.heap.size, 0, none⟩) z0).trans c0
  have d1 := (hb2.cell (p := ⟨w.heap.size, 1, none⟩) z0).trans c1
  have z2 := World.block_lt_of_cell? _ _ d0
  clear hco hb2 HB c0 c1 z0
  by_cases ha : a = 0
  · subst ha
    go_wp2
    go_ret
    exact ⟨rfl, HB2.out⟩
  · have hy : y = b := hay.resolve_left ha
    subst hy
    have hab : (a == 0) = false := by simpa using ha
    clear hay ha
    go_wp2
    go_ret
    exact ⟨by first | rfl | simp, HB2.out⟩
set_option maxRecDepth 100000 in
set_option maxHeartbeats 2000000 in
theorem ownOps_own {w : World} {v : Value} {l : List Opx} (A : OpsIn w v l) (hl : l.length ≤ 1000) :
    Calls Tryz.prog 34 #[v] w fun e w' => ∃ v', e = .returned v' ∧ w'.ownsRow w.heap.size 64 6 v' l.length (opL l) ∧ Below w.heap.size w w' := by
  have A0 := A
  obtain ⟨ao, cap, rfl, hc, hh⟩ := A.sh
  have OK : Hid (∀ o ∈ l, o.ok) := A.ok
  obtain ⟨i0, hi, hz0, hz1, hz2⟩ := info_parts infoOp
  clear A
  cases ao with
  | none =>
    have hl0 : l = [] := by
      rcases Nat.eq_zero_or_pos l.length with h | h
      · exact List.length_eq_zero_iff.1 h
      · obtain ⟨b, off, e, _⟩ := hh h; cases e
    subst hl0
    clear hh A0
    go_enter Tryz.func34, Tryz.ntmps34
    go_wp2
    go_ret
    exact ⟨_, rfl, World.ownsRow_nil _ _ _ _, Below.refl _ _⟩
  | some ad =>
    have hnews : ∀ j u, (opL l)[j]? = some u → w.cell? (ad.add j) = some u := by
      rcases Nat.eq_zero_or_pos l.length with h | h
      · have : l = [] := List.length_eq_zero_iff.1 h
        subst this; intro j u hj; simp [opL] at hj
      · obtain ⟨b, off, e, hcl⟩ := hh h
        injection e with e; subst e
        exact opL_at hcl
    clear hh A0
    go_enter Tryz.func34, Tryz.ntmps34
    go_wp2_with (at_builtin; refine wpList_append_moved rfl _ _ 40 rfl w.heap.size 64 i0 (.agg #[.string ⟨#[]⟩, .int .i64 0, .int .i64 0, .int .i64 0, .int .u32 0, .int .i64 0]) 6 56 Tryz.underlying40 hi hz0 hz1 hz2 rfl (by decide) (.slice none 0 0) 0 [] rfl (World.ownsRow_nil _ _ _ _) ad l.length cap (opL l) rfl (opL_len l) hnews (opL_one l) (by unfold maxLen; omega) (by omega) (Nat.le_refl _) ?_; intro v' w3 ho hg hm)
    go_ret
    rw [Nat.zero_add, List.nil_append] at ho
    exact ⟨_, rfl, ho, ⟨hg.os, hg.tape, hg.output, hg.size, fun k hk => hg.block k hk (by intro e; cases e)⟩⟩
theorem RwAt.snocU {W1 W' : World} {base : Nat} {vr v' u' : Value} {us : List Value} {rs : List (List Opx)} {row : List Opx} (R : RwAt W1 base vr us rs) (hU : W1.ownsRow base 64 6 u' row.length (opL row)) (hf : ∀ g, u'.ownBlock = some g → vr.ownBlock ≠ some g ∧ ∀ (k : Nat) (u : Value), us[k]? = some u → u.ownBlock ≠ some g) (ok : ∀ o ∈ row, o.ok)
    (ho : W'.ownsRow base 40 1 v' (rs.length + 1) (us ++ [u'])) (hg : W1.grownBy W' vr.ownBlock) (hm : Moved W1 vr v') : RwAt W' base v' (us ++ [u']) (rs ++ [row]) := by
  have hl := R.len
  have at_ : ∀ k u, (us ++ [u'])[k]? = some u → (k < us.length ∧ us[k]? = some u) ∨ (k = us.length ∧ u = u') := by
    intro k u h
    by_cases hk : k < us.length
    · rw [List.getElem?_append_left hk] at h; exact .inl ⟨hk, h⟩
    · rw [List.getElem?_append_right (by omega)] at h
      have h0 : k - us.length = 0 := by
        rcases Nat.eq_zero_or_pos (k - us.length) with h' | h'
        · exact h'
        · rw [List.getElem?_eq_none (by simp; omega)] at h; cases h
      rw [h0] at h
      exact .inr ⟨by omega, by simpa using h.symm⟩
  refine ⟨by rw [List.length_append]; exact ho, fun k u row' hu hr => ?_, fun k k' u q g hu hu' hne hg' => ?_, fun row' hr => ?_⟩
  · rcases at_ k u hu with ⟨hk, hu⟩ | ⟨hk, rfl⟩
    · rw [List.getElem?_append_left (by omega)] at hr
      obtain ⟨h1, h2⟩ := R.each k u row' hu hr
      refine ⟨h1.kept hg ?_, fun g hgu hv => ?_⟩
      · cases hob : u.ownBlock with
        | none => exact .inl rfl
        | some g => exact .inr (Ne.symm (h2 g hob))
      · rcases hm g hv with h | h
        · exact h2 g hgu h
        · have := (R.ult hu g hgu).2; omega
    · rw [List.getElem?_append_right (by omega), show k - rs.length = 0 by omega] at hr
      obtain rfl : row = row' := by simpa using hr
      refine ⟨hU.kept hg ?_, fun g hgu hv => ?_⟩
      · cases hob : u.ownBlock with
        | none => exact .inl rfl
        | some g => exact .inr (Ne.symm (hf g hob).1)
      · rcases hm g hv with h | h
        · exact (hf g hgu).1 h
        · have := (hU.lt g hgu).2; omega
  · rcases at_ k u hu with ⟨hk, hu1⟩ | ⟨hk, rfl⟩
    · rcases at_ k' q hu' with ⟨hk', hu2⟩ | ⟨hk', rfl⟩
      · exact R.apart k k' u q g hu1 hu2 hne hg'
      · intro h; exact (hf g h).2 k u hu1 hg'
    · rcases at_ k' q hu' with ⟨hk', hu2⟩ | ⟨hk', rfl⟩
      · exact (hf g hg').2 k' q hu2
      · omega
  · rcases List.mem_append.1 hr with h | h
    · exact R.ok row' h
    · simp at h; subst h; exact ok
end Go.Proofs.YtcccaejjhodnkabGreatDoor
