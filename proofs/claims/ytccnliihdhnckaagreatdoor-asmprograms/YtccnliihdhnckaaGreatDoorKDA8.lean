/-
  AsmPrograms: a copy of the lines, errors held against faults, too many lines, a base that is no multiple of 4; what the program and the document answer goes together.
-/
import Derived.Test.YtccnliihdhnckaaGreatDoorQCode
import Derived.Test.YtccnliihdhnckaaGreatDoorQDA7
namespace Go.Proofs.YtccnliihdhnckaaGreatDoor
open Go.RowKit Go.Shelf Go.Joins Go.Maps
open Num Tab Fm Txt
set_option linter.unusedVariables false
theorem encP_err {k : Nat} {s t d m : Int} {j : Nat} (h : encP k s t d m = .error j) : j < 10 := by
  unfold encP at h
  split at h
  · cases h
  · injection h with h; omega
theorem reachP_err {org : Int} {g : List UInt8 → Option Int} {n k : Nat} {nm : List UInt8} {j : Nat} (h : reachP org g n k nm = .error j) : j < 10 := by
  unfold reachP at h
  repeat' split at h
  all_goals (first | (injection h with h; omega) | cases h)
theorem finP_err {org : Int} {g : List UInt8 → Option Int} {n : Nat} {p : Pt} {j : Nat} (h : finP org g n p = .error j) : j < 10 := by
  unfold finP at h
  split at h
  · cases h
  · split at h
    · exact encP_err h
    · cases hr : reachP org g n p.k p.name with
      | error i => rw [hr] at h; injection h with h; rw [← h]; exact reachP_err hr
      | ok m => rw [hr] at h; exact encP_err h
theorem finsP_err {org : Int} {g : Lbs} : ∀ (ps : List Pt) (n : Nat) (x : Int × Nat), finsP org g ps n = .error x → x.2 < 10
  | [], n, x, h => by simp [finsP] at h
  | p :: ps, n, x, h => by
    unfold finsP at h
    cases hf : finP org g n p with
    | error j => rw [hf] at h; injection h with h; rw [← h]; exact finP_err hf
    | ok v =>
      rw [hf] at h
      simp only at h
      cases hg : finsP org g ps (n + 1) with
      | error y => rw [hg] at h; injection h with h; rw [← h]; exact finsP_err ps (n + 1) y hg
      | ok vs => rw [hg] at h; cases h
theorem addsP_err : ∀ (ls : List (List UInt8)) (i : Nat) (ps : List Pt) (g : Lbs) (x : Nat × Nat), addsP ls i ps g = .error x → x.2 < 10
  | [], i, ps, g, x, h => by simp [addsP] at h
  | l :: ls, i, ps, g, x, h => by
    unfold addsP at h
    cases ha : addP i l ps g with
    | error j => rw [ha] at h; injection h with h; rw [← h]; exact addP_err ha
    | ok r => rw [ha] at h; exact addsP_err ls (i + 1) r.1 r.2 x h
theorem addP_len {at_ : Int} {l : List UInt8} {ps : List Pt} {g : Lbs} {r : List Pt × Lbs} (h : addP at_ l ps g = .ok r) : r.1.length ≤ ps.length + 1 := by
  unfold addP at h
  repeat' split at h
  all_goals (cases h <;> simp)
theorem adds_len : ∀ (ls : List (List UInt8)) (i : Nat) (ps : List Pt) (g : Lbs) (r : List Pt × Lbs), addsP ls i ps g = .ok r → r.1.length ≤ ps.length + ls.length
  | [], i, ps, g, r, h => by simp [addsP] at h; subst h; simp
  | l :: ls, i, ps, g, r, h => by
    unfold addsP at h
    cases ha : addP i l ps g with
    | error j => rw [ha] at h; cases h
    | ok q =>
      rw [ha] at h
      have h1 := addP_len ha
      have h2 := adds_len ls (i + 1) q.1 q.2 r h
      simp; omega
theorem asmP_err {ls : List (List UInt8)} {org : Int} {x : Int × Nat} (h : asmP ls org = .error x) : x.2 < 10 := by
  unfold asmP at h
  cases ha : addsP ls 0 [] lNone with
  | error y => rw [ha] at h; injection h with h; rw [← h]; exact addsP_err ls 0 [] lNone y ha
  | ok r => rw [ha] at h; exact finsP_err r.1 0 x h
theorem loT_0 {ls : List (List UInt8)} (h : loT ls 210 60 = 0) : ls.length ≤ 210 ∧ ∀ l ∈ ls, l.length ≤ 60 := by
  unfold loT at h
  split at h
  · cases h
  · split at h
    · cases h
    · rename_i h1 h2
      refine ⟨by omega, fun l hl => ?_⟩
      have h3 : ¬ ls.any (fun l => decide ((60 : Int) < (l.length : Int))) = true := h2
      rw [List.any_eq_true] at h3
      have : ¬ ((60 : Int) < (l.length : Int)) := fun h4 => h3 ⟨l, hl, decide_eq_true h4⟩
      omega
theorem loT_01 (ls : List (List UInt8)) (a b : Int) : loT ls a b = 0 ∨ loT ls a b = 1 := by
  unfold loT; split
  · exact Or.inr rfl
  · split
    · exact Or.inr rfl
    · exact Or.inl rfl
set_option maxRecDepth 100000 in
set_option maxHeartbeats 2000000 in
theorem ownTexts_any {w : World} {ao : Option Addr} {ls : List (List UInt8)} (X : TIn w ao ls) (cap : Nat) (hn : ls.length ≤ 1000) :
    Calls Tryz.prog 16 #[.slice ao ls.length cap] w fun e w' => ∃ v', e = .returned v' ∧ w'.ownsRow w.heap.size 9 1 v' ls.length (ls.map strV) ∧ Below w.heap.size w w' := by
  obtain ⟨i0, hi, hz0, hz1, hz2⟩ := info_parts info9
  cases ao with
  | none =>
    have hl0 : ls = [] := by
      rcases Nat.eq_zero_or_pos ls.length with h | h
      · exact List.length_eq_zero_iff.1 h
      · obtain ⟨b, off, e, _⟩ := X.sh h; cases e
    subst hl0
    clear X
    go_enter Tryz.func16, Tryz.ntmps16
    go_wp2
    go_ret
    exact ⟨_, rfl, World.ownsRow_nil _ _ _ _, Below.refl _ _⟩
  | some ad =>
    have hnews : ∀ j u, (ls.map strV)[j]? = some u → w.cell? (ad.add j) = some u := by
      intro j u hj
      have hlt : j < ls.length := by have := (List.getElem?_eq_some_iff.1 hj).1; simpa using this
      obtain ⟨b, off, e, hcl⟩ := X.sh (by omega)
      injection e with e; subst e
      rw [List.getElem?_map, List.getElem?_eq_getElem hlt] at hj
      injection hj with hj
      have e2 : (⟨b, off, none⟩ : Addr).add j = ⟨b, off + j, none⟩ := by unfold Addr.add; simp
      rw [e2, hcl j _ (List.getElem?_eq_getElem hlt), ← hj]; rfl
    have hone : ∀ u ∈ ls.map strV, u.oneCell' = true := fun u hu => by
      obtain ⟨l, _, rfl⟩ := List.mem_map.1 hu; rfl
    have hlen : (ls.map strV).length = ls.length * 1 := by simp
    clear X
    go_enter Tryz.func16, Tryz.ntmps16
    go_wp2_with (at_builtin; refine wpList_append_moved rfl _ _ 39 rfl w.heap.size 9 i0 _ 1 16 Tryz.underlying39 hi hz0 hz1 hz2 rfl (by decide) (.slice none 0 0) 0 [] rfl (World.ownsRow_nil _ _ _ _) ad ls.length cap (ls.map strV) rfl hlen hnews hone (by unfold maxLen; omega) (by omega) (Nat.le_refl _) ?_; intro v' w3 ho hg hm)
    go_ret
    rw [Nat.zero_add, List.nil_append] at ho
    exact ⟨_, rfl, ho, ⟨hg.os, hg.tape, hg.output, hg.size, fun k hk => hg.block k hk (by intro e; cases e)⟩⟩
/-- an error against a fault, where plain.Code tells the fault -/
theorem faulted_of {w : World} {err : Value} {c a : Int} (h : ∀ W, Below w.heap.size w W → Calls Tryz.prog 33 #[err] W fun e w' => e = .returned (.tuple #[.int .i64 c, .int .i64 a]) ∧ Below W.heap.size W w') :
    Calls Tryz.prog 18 #[err, .agg #[.int .i64 c, .int .i64 a]] w fun e w' => e = .returned (.bool true) ∧ Below w.heap.size w w' := by
  have bA : Below w.heap.size w (w.alloc (.cells #[.int .i64 c, .int .i64 a] 46)) := (Below.refl _ _).alloc (Nat.le_refl _) _
  have hc := h _ bA
  have k0 : (w.alloc (.cells #[.int .i64 c, .int .i64 a] 46)).cell? ⟨w.heap.size, 0, none⟩ = some (.int .i64 c) := by simp
  have k1 : (w.alloc (.cells #[.int .i64 c, .int .i64 a] 46)).cell? ⟨w.heap.size, 1, none⟩ = some (.int .i64 a) := by simp
  clear h
  go_enter Tryz.func18, Tryz.ntmps18
  go_wp2_with fail
  refine hc.mono ?_
  rintro e w1 ⟨rfl, hb⟩
  have c0 := (hb.cell (cell_lt k0)).trans k0
  have c1 := (hb.cell (cell_lt k1)).trans k1
  have hB : Hid (Below w.heap.size w w1) := bA.trans (hb.mono bA.size)
  clear hb k0 k1 bA hc
  by_cases hz : (c == 0) = true
  · have hz' : c = 0 := by simpa using hz
    go_wp2
    go_ret
    exact ⟨by simp, hB.out⟩
  · have hz2 : (c == 0) = false := by simpa using hz
    clear hz
    go_wp2
    go_ret
    exact ⟨by simp, hB.out⟩
theorem bare_any (c : Int) (w : World) : Calls Tryz.prog 45 #[.int .i64 c] w fun e w' => e = .returned (.agg #[.int .i64 c, .int .i64 (-1)]) ∧ Below w.heap.size w w' := by
  have hb : Below w.heap.size w (w.alloc (.cells #[.int .i64 c, .int .i64 (-1)] 46)) := (Below.refl _ _).alloc (Nat.le_refl _) _
  go_enter Tryz.func45, Tryz.ntmps45
  go_wp2
  exact bodyPost_ret (v := .agg #[.int .i64 c, .int .i64 (-1)]) (by simp [results, Tryz.results45, go_sem]) rfl ⟨rfl, hb⟩
set_option maxRecDepth 100000 in
set_option maxHeartbeats 2000000 in
theorem assembleOf_full {w : World} {ao : Option Addr} {cap n : Nat} (h : 200 < (n : Int)) (hm : (n : Int) ≤ 1000) (org : Int) :
    Calls Tryz.prog 17 #[.slice ao n cap, .int .u32 org] w fun e w' => e = .returned (.tuple #[.slice none 0 0, .agg #[.int .i64 8, .int .i64 (-1)]]) ∧ Below w.heap.size w w' := by
  have S0 : Hid _ := DS.start w
  have hba := fun W => bare_any 8 W
  go_enter Tryz.func17, Tryz.ntmps17
  go_wp2_with fail
  refine (hba _).mono ?_
  rintro e w1 ⟨rfl, hb⟩
  have H := S0.out.stays hb
  have f0 := H.f0
  have f1 := H.f1
  have z0 := H.ff 0
  have z1 := H.ff 1
  obtain ⟨t0, t1, tb⟩ := H.told 8 (-1)
  clear S0 hb H hba
  go_wp2
  exact bodyPost_ret (results_tc Tryz.results17 _ _ _ (A := ⟨w.heap.size, 0, none⟩) rfl (fault_ld t0 t1)) rfl ⟨rfl, tb⟩
set_option maxRecDepth 100000 in
set_option maxHeartbeats 2000000 in
theorem assembleOf_align {w : World} {ao : Option Addr} {cap n : Nat} (h : (n : Int) ≤ 200) (org : Int) (o0 : 0 ≤ org) (o1 : org < 4294967296) (oa : (org % 4 != 0) = true) :
    Calls Tryz.prog 17 #[.slice ao n cap, .int .u32 org] w fun e w' => e = .returned (.tuple #[.slice none 0 0, .agg #[.int .i64 9, .int .i64 (-1)]]) ∧ Below w.heap.size w w' := by
  have S0 : Hid _ := DS.start w
  have hba := fun W => bare_any 9 W
  go_enter Tryz.func17, Tryz.ntmps17
  go_wp2_with fail
  refine (hba _).mono ?_
  rintro e w1 ⟨rfl, hb⟩
  have H := S0.out.stays hb
  have f0 := H.f0
  have f1 := H.f1
  have z0 := H.ff 0
  have z1 := H.ff 1
  obtain ⟨t0, t1, tb⟩ := H.told 9 (-1)
  clear S0 hb H hba
  go_wp2
  exact bodyPost_ret (results_tc Tryz.results17 _ _ _ (A := ⟨w.heap.size, 0, none⟩) rfl (fault_ld t0 t1)) rfl ⟨rfl, tb⟩
set_option maxRecDepth 100000 in
set_option maxHeartbeats 2000000 in
theorem assemble_full {w : World} {S : Nat → Addr} (EE : Errs S w) {ao : Option Addr} {cap n : Nat} (h : 200 < (n : Int)) (hm : (n : Int) ≤ 1000) (org : Int) :
    Calls Tryz.prog 15 #[.slice ao n cap, .int .u32 org] w fun e w' => e = .returned (.tuple #[.slice none 0 0, .iface 210 (.pointer (some (S 7)))]) ∧ Below w.heap.size w w' := by
  have c7 := EE.c7
  clear EE
  go_enter Tryz.func15, Tryz.ntmps15
  go_wp2_with fail
  go_quiet (fail)
  go_wp2
  go_ret2
  exact ⟨rfl, below_drewN (Below.refl _ _) _⟩
set_option maxRecDepth 100000 in
set_option maxHeartbeats 2000000 in
theorem assemble_align {w : World} {S : Nat → Addr} (EE : Errs S w) {ao : Option Addr} {cap n : Nat} (h : (n : Int) ≤ 200) (org : Int) (o0 : 0 ≤ org) (o1 : org < 4294967296) (oa : (org % 4 != 0) = true) :
    Calls Tryz.prog 15 #[.slice ao n cap, .int .u32 org] w fun e w' => e = .returned (.tuple #[.slice none 0 0, .iface 210 (.pointer (some (S 8)))]) ∧ Below w.heap.size w w' := by
  have c8 := EE.c8
  clear EE
  go_enter Tryz.func15, Tryz.ntmps15
  go_wp2_with fail
  go_quiet (fail)
  go_wp2
  go_ret2
  exact ⟨rfl, below_drewN (Below.refl _ _) _⟩
/-- a row of words as a slice -/
theorem row_in {w : World} {b : Nat} {v : Value} {vs : List Int} (h : w.ownsRow b 22 1 v vs.length (vs.map u32V)) : ∃ wo wc, v = .slice wo vs.length wc ∧ WIn w wo vs := by
  rcases h.2 with ⟨e, h2⟩ | ⟨q, cq, cur, e, _⟩
  · exact ⟨none, 0, by rw [e, h2], ⟨fun h3 => by omega⟩⟩
  · refine ⟨_, cq, e, ⟨fun _ => ⟨q, 0, rfl, fun i x hx => ?_⟩⟩⟩
    subst e
    have := h.cells (g := q) rfl i (u32V x) (by rw [List.getElem?_map, hx]; rfl)
    rw [add_lit] at this
    rw [Nat.zero_add]; exact this
theorem alike_none (w : World) : Calls Tryz.prog 19 #[.slice none 0 0, .slice none 0 0] w fun e w' => e = .returned (.int .i64 1) ∧ Below w.heap.size w w' :=
  alike_any w (ao := none) (bo := none) (vs := []) ⟨fun h => absurd h (by simp)⟩ ⟨fun h => absurd h (by simp)⟩ 0 0 (by simp)
/-- the end of the law: the error is the fault, the words are alike -/
def Two (w : World) (v err v2 : Value) (c a : Int) : Prop := ∀ W, Below w.heap.size w W →
  (Calls Tryz.prog 18 #[err, .agg #[.int .i64 c, .int .i64 a]] W fun e w' => e = .returned (.bool true) ∧ Below W.heap.size W w') ∧
  (Calls Tryz.prog 19 #[v, v2] W fun e w' => e = .returned (.int .i64 1) ∧ Below W.heap.size W w')
theorem two_bare {w : World} {S : Nat → Addr} (EE : Errs S w) (k : Nat) (hk : k < 10) (c : Int) (hc : (k : Int) + 1 = c) : Two w (.slice none 0 0) (.iface 210 (.pointer (some (S k)))) (.slice none 0 0) c (-1) := fun W hW => by
  refine ⟨faulted_of fun W2 h2 => ?_, alike_none W⟩
  have E2 := (EE.stays hW).stays h2
  have h := code_bare S (S k) k W2 E2 (Or.inl ⟨hk, rfl⟩) (E2.row k hk)
  have hn : num k = c := by unfold num; rw [if_pos hk]; exact hc
  rw [hn] at h; exact h
theorem two_fault {w : World} {S : Nat → Addr} (EE : Errs S w) (k : Nat) (hk : k < 10) (at_ : Int) (q : Nat) (h0 : w.cell? ⟨q, 0, none⟩ = some (.int .i64 at_)) (h1 : w.cell? ⟨q, 1, none⟩ = some (.iface 210 (.pointer (some (S k))))) : Two w (.slice none 0 0) (.iface 89 (.pointer (some ⟨q, 0, none⟩))) (.slice none 0 0) ((k : Int) + 1) at_ := fun W hW => by
  refine ⟨faulted_of fun W2 h2 => ?_, alike_none W⟩
  have E2 := (EE.stays hW).stays h2
  have h := code_fault S (S k) k q 0 at_ W2 E2 (Or.inl ⟨hk, rfl⟩) (E2.row k hk) (cell_stays h2 (Nat.le_refl _) (cell_stays hW (Nat.le_refl _) h0)) (cell_stays h2 (Nat.le_refl _) (cell_stays hW (Nat.le_refl _) h1))
  have hn : num k = (k : Int) + 1 := by unfold num; rw [if_pos hk]
  rw [hn] at h; exact h
theorem two_ok {w : World} {wo wo2 : Option Addr} {vs : List Int} (A : WIn w wo vs) (B : WIn w wo2 vs) (c1 c2 : Nat) (hn : (vs.length : Int) ≤ 1000000) : Two w (.slice wo vs.length c1) .nilIface (.slice wo2 vs.length c2) 0 (-1) := fun W hW => by
  refine ⟨faulted_of fun W2 h2 => (code_nil W2).mono ?_, alike_any W (A.stays hW) (B.stays hW) c1 c2 hn⟩
  rintro e w' ⟨rfl, rfl⟩
  exact ⟨rfl, Below.refl _ _⟩
theorem both_any {w : World} (S : Nat → Addr) (EE : Errs S w) (T : Tb (S 3) (S 1) w) (b : Lb w) {ao : Option Addr} {cap : Nat} {ls : List (List UInt8)} (X : TIn w ao ls) {b0 : Nat} {lv : Value} (hrow : w.ownsRow b0 9 1 lv ls.length (ls.map strV)) (hn : ls.length ≤ 210) (hls : ∀ l ∈ ls, l.length ≤ 60) (org : Int) (o0 : 0 ≤ org) (o1 : org < 4294967296) :
    Calls Tryz.prog 15 #[lv, .int .u32 org] w fun e w4 => ∃ v err, e = .returned (.tuple #[v, err]) ∧ Below w.heap.size w w4 ∧
      Calls Tryz.prog 17 #[.slice ao ls.length cap, .int .u32 org] w4 fun e2 w5 => ∃ v2 c a, e2 = .returned (.tuple #[v2, .agg #[.int .i64 c, .int .i64 a]]) ∧ Below w4.heap.size w4 w5 ∧ Two w5 v err v2 c a := by
  by_cases h2 : 200 < ls.length
  · obtain ⟨lo, lcap, hlv, _⟩ := row_shape hrow
    subst hlv
    refine (assemble_full EE (by omega) (by omega) org).mono ?_
    rintro e w4 ⟨rfl, hb4⟩
    refine ⟨_, _, rfl, hb4, (assembleOf_full (by omega) (by omega) org).mono ?_⟩
    rintro e w5 ⟨rfl, hb5⟩
    exact ⟨_, _, _, rfl, hb5, two_bare ((EE.stays hb4).stays hb5) 7 (by omega) 8 (by decide)⟩
  by_cases oa : org % 4 = 0
  · refine (assemble_any S EE.nine T b ls hrow (by omega) (fun l hl => by have := hls l hl; omega) org o0 o1 oa).mono ?_
    rintro e w4 ⟨hA, hb4⟩
    have hd := assembleOf_any (cap := cap) (X.stays hb4) (by omega) (fun l hl => by have := hls l hl; omega) org o0 o1 oa
    cases hR : asmP ls org with
    | ok vs =>
      rw [hR] at hA hd
      obtain ⟨v, rfl, hr⟩ := hA
      obtain ⟨wo, wc, rfl, hw⟩ := row_in hr
      refine ⟨_, _, rfl, hb4, hd.mono ?_⟩
      rintro e w5 ⟨⟨v2, rfl, hr2⟩, hb5⟩
      obtain ⟨wo2, wc2, rfl, hw2⟩ := row_in hr2
      have hlen : (vs.length : Int) ≤ 1000000 := by
        unfold asmP at hR
        cases ha : addsP ls 0 [] lNone with
        | error y => rw [ha] at hR; cases hR
        | ok r =>
          rw [ha] at hR
          have h1 := finsP_len hR
          have h2 := adds_len ls 0 [] lNone r ha
          simp at h2; omega
      exact ⟨_, _, _, rfl, hb5, two_ok (hw.stays hb5) hw2 wc wc2 hlen⟩
    | error x =>
      rw [hR] at hA hd
      obtain ⟨q, rfl, h0, h1⟩ := hA
      refine ⟨_, _, rfl, hb4, hd.mono ?_⟩
      rintro e w5 ⟨rfl, hb5⟩
      exact ⟨_, _, _, rfl, hb5, two_fault ((EE.stays hb4).stays hb5) x.2 (asmP_err hR) x.1 q (cell_stays hb5 (Nat.le_refl _) h0) (cell_stays hb5 (Nat.le_refl _) h1)⟩
  · have hb : (org % 4 != 0) = true := by simpa using oa
    obtain ⟨lo, lcap, hlv, _⟩ := row_shape hrow
    subst hlv
    refine (assemble_align EE (by omega) org o0 o1 hb).mono ?_
    rintro e w4 ⟨rfl, hb4⟩
    refine ⟨_, _, rfl, hb4, (assembleOf_align (by omega) org o0 o1 hb).mono ?_⟩
    rintro e w5 ⟨rfl, hb5⟩
    exact ⟨_, _, _, rfl, hb5, two_bare ((EE.stays hb4).stays hb5) 8 (by omega) 9 (by decide)⟩
end Go.Proofs.YtccnliihdhnckaaGreatDoor
/-
  The walk of AsmPrograms.
-/
namespace Go.Proofs.YtccnliihdhnckaaGreatDoor
open Go.RowKit Go.Shelf Go.Joins Go.Maps
open Num Tab Fm Txt
set_option linter.unusedVariables false
set_option maxHeartbeats 4000000 in
theorem asmPrograms_any {w : World} (S : Nat → Addr) (EE : Errs S w) (T : Tb (S 3) (S 1) w) (b : Lb w) {ao : Option Addr} {cap : Nat} {ls : List (List UInt8)} (X : TIn w ao ls) (hs : ∀ l ∈ ls, (l.length : Int) ≤ 9223372036854775807) (hn : (ls.length : Int) ≤ 9223372036854775807) (org : Int) (o0 : 0 ≤ org) (o1 : org < 4294967296) :
    Calls Tryz.prog 4 #[.slice ao ls.length cap, .int .u32 org] w fun e w' => e = .returned (.bool true) ∧ Below w.heap.size w w' := by
  have HE : Hid (Errs S w) := EE
  have HT : Hid (Tb (S 3) (S 1) w) := T
  have HL : Hid (Lb w) := b
  have HX : Hid (TIn w ao ls) := X
  have htx := texted_any (S 3) (S 1) w T b
  have HLG : Hid (∀ W, Below w.heap.size w W → Calls Tryz.prog 14 #[.slice ao ls.length cap, .int .i64 210, .int .i64 60] W fun e w' => e = .returned (.int .i64 (loT ls 210 60)) ∧ Below W.heap.size W w') := fun W hW => longT_any W (X.stays hW) cap hs hn 210 60
  clear EE T b X hs
  go_enter Tryz.func4, Tryz.ntmps4
  go_wp2_with fail
  refine htx.mono ?_
  rintro e w1 ⟨rfl, hb1⟩
  have HB1 : Hid (Below w.heap.size w w1) := hb1
  have hlt := HLG.out w1 hb1
  clear htx hb1 HLG
  rcases loT_01 ls 210 60 with h0 | h1
  · rw [h0] at hlt
    obtain ⟨hl, hl2⟩ := loT_0 h0
    have HL2 : Hid (∀ l ∈ ls, l.length ≤ 60) := hl2
    clear hl2 h0
    go_wp2_with fail
    refine hlt.mono ?_
    rintro e w2 ⟨rfl, hb2⟩
    have HB2 : Hid (Below w.heap.size w w2) := HB1.out.trans (hb2.mono HB1.out.size)
    have how := ownTexts_any (HX.out.stays HB2.out) cap (by omega)
    clear hlt hb2 HB1
    go_wp2_with fail
    refine how.mono ?_
    rintro e w3 ⟨v', rfl, hrow, hb3⟩
    have HB3 : Hid (Below w.heap.size w w3) := HB2.out.trans (hb3.mono HB2.out.size)
    have hbo := both_any S (HE.out.stays HB3.out) (HT.out.stays HB3.out (Nat.le_refl _)) (HL.out.stays HB3.out (Nat.le_refl _)) (HX.out.stays HB3.out) (cap := cap) hrow hl HL2.out org o0 o1
    clear how hb3 hrow HB2
    go_wp2_with fail
    refine hbo.mono ?_
    rintro e w4 ⟨v, err, rfl, hb4, hd⟩
    have HB4 : Hid (Below w.heap.size w w4) := HB3.out.trans (hb4.mono HB3.out.size)
    clear hbo hb4 HB3
    go_wp2_with fail
    refine hd.mono ?_
    rintro e w5 ⟨v2, c, a, rfl, hb5, ht⟩
    have HB5 : Hid (Below w.heap.size w w5) := HB4.out.trans (hb5.mono HB4.out.size)
    have HTW : Hid (Two w5 v err v2 c a) := ht
    have bA : Below w5.heap.size w5 (w5.alloc (.cells #[.int .i64 c, .int .i64 a] 46)) := (Below.refl _ _).alloc (Nat.le_refl _) _
    have k0 : (w5.alloc (.cells #[.int .i64 c, .int .i64 a] 46)).cell? ⟨w5.heap.size, 0, none⟩ = some (.int .i64 c) := by simp
    have k1 : (w5.alloc (.cells #[.int .i64 c, .int .i64 a] 46)).cell? ⟨w5.heap.size, 1, none⟩ = some (.int .i64 a) := by simp
    clear hd hb5 ht HB4
    go_upto_region 6 with fail
    generalize w5.alloc (.cells #[.int .i64 c, .int .i64 a] 46) = w6 at *
    have hf := (HTW.out w6 bA).1
    go_wp2_with fail
    refine hf.mono ?_
    rintro e w7 ⟨rfl, hb7⟩
    have HB7 : Hid (Below w5.heap.size w5 w7) := bA.trans (hb7.mono bA.size)
    have hal := (HTW.out w7 HB7.out).2
    clear hf hb7 k0 k1 bA
    go_wp2_with fail
    refine hal.mono ?_
    rintro e w8 ⟨rfl, hb8⟩
    have HB8 : Hid (Below w.heap.size w w8) := HB5.out.trans ((HB7.out.trans (hb8.mono HB7.out.size)).mono HB5.out.size)
    clear hal hb8
    go_wp2
    go_ret
    exact ⟨rfl, HB8.out⟩
  · rw [h1] at hlt
    clear h1
    go_wp2_with fail
    refine hlt.mono ?_
    rintro e w2 ⟨rfl, hb2⟩
    have HB2 : Hid (Below w.heap.size w w2) := HB1.out.trans (hb2.mono HB1.out.size)
    clear hlt hb2
    go_wp2
    go_ret
    exact ⟨rfl, HB2.out⟩
end Go.Proofs.YtccnliihdhnckaaGreatDoor
