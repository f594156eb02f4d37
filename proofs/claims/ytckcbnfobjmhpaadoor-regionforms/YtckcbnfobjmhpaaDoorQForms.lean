/-
  The walk of RegionForms.
-/
import Derived.Test.YtckcbnfobjmhpaaDoorCode
import Derived.Test.YtckcbnfobjmhpaaDoorQFo2
namespace Go.Proofs.YtckcbnfobjmhpaaDoor
open Go.RowKit Go.Maps
open Num
set_option linter.unusedVariables false
theorem WordsIn.stays {w w' : World} {v : Value} {xs : List Int} (X : WordsIn w v xs) (h : Below w.heap.size w w') : WordsIn w' v xs := by
  obtain ⟨⟨ao, cap, h1, h2, h3⟩, wf⟩ := X
  refine ⟨⟨ao, cap, h1, h2, fun hp => ?_⟩, wf⟩
  obtain ⟨b, off, h4, h5⟩ := h3 hp
  exact ⟨b, off, h4, fun i hi => K.cell_stays h (Nat.le_refl _) (h5 i hi)⟩
/-- a region in a variable -/
structure VarAt (w : World) (rb : Nat) (pc : Int) (L g c h k c2 : Nat) : Prop where
  q0 : w.cell? ⟨rb, 0, none⟩ = some (.int .u32 pc)
  q1 : w.cell? ⟨rb, 1, none⟩ = some (.slice (some ⟨g, 0, none⟩) L c)
  q2 : w.cell? ⟨rb, 2, none⟩ = some (.slice (some ⟨h, 0, none⟩) k c2)
theorem VarAt.stays {w w' : World} {rb : Nat} {pc : Int} {L g c h k c2 : Nat} (q : VarAt w rb pc L g c h k c2) (hb : Below w.heap.size w w') : VarAt w' rb pc L g c h k c2 :=
  ⟨K.cell_stays hb (Nat.le_refl _) q.q0, K.cell_stays hb (Nat.le_refl _) q.q1, K.cell_stays hb (Nat.le_refl _) q.q2⟩
theorem VarAt.alloc (w : World) (pc : Int) (L g c h k c2 : Nat) : VarAt (w.alloc (.cells #[.int .u32 pc, .slice (some ⟨g, 0, none⟩) L c, .slice (some ⟨h, 0, none⟩) k c2] 51)) w.heap.size pc L g c h k c2 :=
  ⟨by simp, by simp, by simp⟩
/-- the number of an error -/
def fN (n : Nat) : Int := if n = 2 then 2 else if n = 3 then 9 else if n = 4 then 10 else if n = 5 then 6 else 0
theorem fchk_in (pc most : Int) : fchk pc most = 0 ∨ fchk pc most = 2 ∨ fchk pc most = 3 ∨ fchk pc most = 4 := by unfold fchk; (repeat' split) <;> simp
theorem fE_in (m : Nat → Int) (pc most : Int) : fE m pc most = 0 ∨ fE m pc most = 2 ∨ fE m pc most = 3 ∨ fE m pc most = 4 ∨ fE m pc most = 5 := by
  unfold fE
  split
  · rcases fchk_in pc most with h | h | h | h <;> simp [h]
  · split <;> simp
section
variable {w : World} {m : Nat → Int}
theorem formOf_all {db gb kb : Nat} (D : DRam w db gb kb m) (pc most : Int) (h0 : 0 ≤ pc) (h1 : pc < 4294967296) :
    Calls Tryd.prog 25 #[.pointer (some ⟨db, 0, none⟩), .int .u32 pc, .int .i64 most] w fun e w' => Below w.heap.size w w' ∧
      ((fE m pc most ≠ 0 ∧ e = .returned (.tuple #[reg0, .int .i64 (fN (fE m pc most))])) ∨
       (fE m pc most = 0 ∧ ∃ g c h k c2, e = .returned (.tuple #[.agg #[.int .u32 pc, .slice (some ⟨g, 0, none⟩) (lenR (kdAt m pc) (many pc) most.toNat) c, .slice (some ⟨h, 0, none⟩) k c2], .int .i64 0]) ∧ RegV w' pc m (lenR (kdAt m pc) (many pc) most.toNat) g c h k c2)) := by
  by_cases hc : fchk pc most = 0
  · obtain ⟨m0, m1, p4, p1⟩ := fchk_ok hc
    have hcast : ((most.toNat : Nat) : Int) = most := by omega
    have hf := formOf_any D pc h0 p1 p4 most.toNat (by omega) (by omega)
    rw [hcast] at hf
    refine hf.mono ?_
    rintro e w' ⟨hb, ⟨hl, rfl⟩ | ⟨hl, v, vi, vp, rfl, RA⟩⟩
    · have hE : fE m pc most = 5 := by unfold fE; rw [if_neg (by simp [hc]), if_pos hl]
      exact ⟨hb, Or.inl ⟨by omega, by rw [hE]; rfl⟩⟩
    · have hE : fE m pc most = 0 := by unfold fE; rw [if_neg (by simp [hc]), if_neg (by omega)]
      refine ⟨hb, Or.inr ⟨hE, ?_⟩⟩
      obtain ⟨he, hri, hrp⟩ := RA
      generalize hL : lenR (kdAt m pc) (many pc) most.toNat = L at *
      obtain ⟨L', rfl⟩ : ∃ L', L = L' + 1 := ⟨L - 1, by omega⟩
      obtain ⟨k', hk⟩ : ∃ k', cntP pc (L' + 1) = k' + 1 := ⟨cntP pc (L' + 1) - 1, by unfold cntP; omega⟩
      rw [hk] at hrp
      obtain ⟨g, c, rfl⟩ := owns_pos hri
      obtain ⟨h, c2, rfl⟩ := owns_pos hrp
      subst he
      refine ⟨g, c, h, k' + 1, c2, rfl, InsAt.of_row hri, by omega, hk, fun i hi => ?_, by omega, owns_cap hri, owns_cap hrp⟩
      have h2 := hrp.cells (g := h) rfl i _ (pgV_get (pc / 256) (k' + 1) i hi)
      rw [add_lit] at h2; exact h2
  · have hE : fE m pc most = fchk pc most := by unfold fE; rw [if_pos hc]
    refine (formOf_bad (rb := db) (gb := gb) (kb := kb) most h0 h1 hc).mono ?_
    rintro e w' ⟨rfl, hb⟩
    refine ⟨hb, Or.inl ⟨by rw [hE]; exact hc, ?_⟩⟩
    rw [hE]
    rcases fchk_in pc most with h | h | h | h
    · exact absurd h hc
    · rw [h]; rfl
    · rw [h]; rfl
    · rw [h]; rfl
set_option maxRecDepth 100000 in
set_option maxHeartbeats 1000000 in
theorem coded_nil (w : World) : Calls Tryd.prog 23 #[.nilIface, .int .i64 0] w fun e w' => e = .returned (.bool true) ∧ w' = w := by
  have hc := code_nil w
  go_enter Tryd.func23, Tryd.ntmps23
  go_wp2_with fail
  refine hc.mono ?_
  rintro e w' ⟨rfl, rfl⟩
  clear hc
  go_wp2
  go_ret
  exact ⟨rfl, rfl⟩
set_option maxRecDepth 100000 in
set_option maxHeartbeats 1000000 in
theorem coded_err {S : Nat → Addr} {w : World} (E : Errs S w) (k : Nat) (hk : k < 10) : Calls Tryd.prog 23 #[.iface 192 (.pointer (some (S k))), .int .i64 ((k : Int) + 1)] w fun e w' => e = .returned (.bool true) ∧ Below w.heap.size w w' := by
  have hc := code_bare S (S k) k w E (Or.inl ⟨hk, rfl⟩) (E.row k hk)
  rw [show num k = (k : Int) + 1 by unfold num; rw [if_pos hk]] at hc
  clear E
  go_enter Tryd.func23, Tryd.ntmps23
  go_wp2_with fail
  refine hc.mono ?_
  rintro e w' ⟨rfl, hb⟩
  clear hc
  go_wp2
  go_ret
  exact ⟨rfl, hb⟩
theorem coded_fE {S : Nat → Addr} {w : World} (E : Errs S w) (pc most : Int) (h : fE m pc most ≠ 0) : Calls Tryd.prog 23 #[.iface 192 (.pointer (some (ferr (S 2) (S 1) (S 8) (S 9) (S 5) (fE m pc most)))), .int .i64 (fN (fE m pc most))] w fun e w' => e = .returned (.bool true) ∧ Below w.heap.size w w' := by
  rcases fE_in m pc most with e | e | e | e | e
  · exact absurd e h
  · rw [e]; exact coded_err E 1 (by omega)
  · rw [e]; exact coded_err E 8 (by omega)
  · rw [e]; exact coded_err E 9 (by omega)
  · rw [e]; exact coded_err E 5 (by omega)
set_option maxRecDepth 100000 in
set_option maxHeartbeats 4000000 in
theorem sameInts_eq (w : World) (ga gb n ca cb : Nat) (f : Nat → Int) (hn : n ≤ 10000) (ha : ∀ i, i < n → w.cell? ⟨ga, i, none⟩ = some (.int .i64 (f i))) (hb : ∀ i, i < n → w.cell? ⟨gb, i, none⟩ = some (.int .i64 (f i))) :
    Calls Tryd.prog 28 #[.slice (some ⟨ga, 0, none⟩) n ca, .slice (some ⟨gb, 0, none⟩) n cb] w fun e w' => e = .returned (.bool true) ∧ ∃ k, w' = w.drewN k := by
  have hn' : (n : Int) ≤ 10000 := by omega
  go_enter Tryd.func28, Tryd.ntmps28
  go_wp2
  go_loopw [5] (fun i wr => ∃ j q : Nat, j ≤ n ∧ i = .int .i64 j ∧ wr = w.drewN q) (fun i _ => n - (intOf i).toNat)
  case atStart => exact ⟨0, 0, Nat.zero_le _, rfl, rfl⟩
  case round =>
    obtain ⟨j, q, hj, rfl, rfl⟩ := hrel
    by_cases hlt : j < n
    · have a0 := ha j hlt
      have b0 := hb j hlt
      have hlt' : (j : Int) < n := by omega
      clear ha hb
      go_wp2_with fail
      go_quiet (fail)
      go_wp2
      go_roundw
      case rel => exact ⟨j + 1, q + nq, by omega, by go_num, by simp⟩
      case measure => simp [intOf]; omega
    · clear ha hb
      go_wp2
      go_ret
      exact ⟨rfl, q, rfl⟩
theorem sameInts_nil (w : World) (pa pb : Option Addr) (ca cb : Nat) :
    Calls Tryd.prog 28 #[.slice pa 0 ca, .slice pb 0 cb] w fun e w' => e = .returned (.bool true) ∧ w' = w := by
  go_enter Tryd.func28, Tryd.ntmps28
  go_wp2
  go_loopw [5] (fun i wr => i = .int .i64 0 ∧ wr = w) (fun _ _ => 0)
  case atStart => exact ⟨rfl, rfl⟩
  case round =>
    obtain ⟨rfl, rfl⟩ := hrel
    go_wp2
    go_ret
    exact ⟨rfl, rfl⟩
end
/-- the document's region in a variable -/
theorem VarAt.alloc36 (w : World) (pc : Int) (L g c h k c2 : Nat) : VarAt (w.alloc (.cells #[.int .u32 pc, .slice (some ⟨g, 0, none⟩) L c, .slice (some ⟨h, 0, none⟩) k c2] 56)) w.heap.size pc L g c h k c2 :=
  ⟨by simp, by simp, by simp⟩
theorem fE_chkF {m : Nat → Int} {pc most : Int} (h : fE m pc most = 0) : fchk pc most = 0 := by
  by_cases e : fchk pc most = 0
  · exact e
  · unfold fE at h; rw [if_pos e] at h; exact absurd h e
section
variable {w : World} {S : Nat → Addr}
set_option maxRecDepth 100000 in
set_option maxHeartbeats 16000000 in
theorem forms_any (V : Vs (S 2) (S 8) (S 9) (S 3) (S 1) (S 5) w) (EE : Errs S w) {v : Value} {xs : List Int} (X : WordsIn w v xs) (hlen : (xs.length : Int) ≤ 9223372036854775807) (pc most : Int) (p0 : 0 ≤ pc) (p1 : pc < 4294967296) (o0 : -9223372036854775808 ≤ most) (o1 : most ≤ 9223372036854775807) :
    Calls Tryd.prog 6 #[v, .int .u32 pc, .int .i64 most] w fun e w' => e = .returned (.bool true) ∧ Below w.heap.size w w' := by
  obtain ⟨ao, cap, rfl, hcap, _⟩ := X.sh
  have hfo := formed_any V
  have XH : Hid (WordsIn w (.slice ao xs.length cap) xs) := X
  have VH : Hid (Vs (S 2) (S 8) (S 9) (S 3) (S 1) (S 5) w) := V
  have EH : Hid (Errs S w) := EE
  clear X V EE
  go_enter Tryd.func6, Tryd.ntmps6
  go_wp2_with fail
  refine hfo.mono ?_
  rintro e w1 ⟨rfl, hb1⟩
  clear hfo
  by_cases t1 : 5000 < (xs.length : Int)
  · go_wp2
    go_ret
    exact ⟨rfl, hb1⟩
  have u1 : (xs.length : Int) ≤ 5000 := by omega
  clear t1
  have hB1 : Hid (Below w.heap.size w w1) := hb1
  have hn := form_nil (VH.out.stays hb1).E pc most
  clear hb1
  go_wp2_with fail
  refine hn.mono ?_
  rintro e w2 ⟨rfl, hb2⟩
  clear hn
  have hA2 : Below w2.heap.size w2 (w2.alloc (.cells #[.int .u32 0, .slice none 0 0, .slice none 0 0] 51)) := (Below.refl _ _).alloc (Nat.le_refl _) _
  have hB2 : Hid (Below w.heap.size w w2) := hB1.out.trans (hb2.mono hB1.out.size)
  have hB2a : Hid (Below w.heap.size w _) := hB2.out.trans (hA2.mono hB2.out.size)
  have hc := coded_err (EH.out.stays hB2a.out) 2 (by omega)
  rw [show ((2 : Nat) : Int) + 1 = 3 by omega] at hc
  have z1 : (w2.alloc (.cells #[.int .u32 0, .slice none 0 0, .slice none 0 0] 51)).cell? ⟨w2.heap.size, 1, none⟩ = some (.slice none 0 0) := by simp
  clear hb2 hA2 hB1 hB2
  go_wp2_with fail
  generalize w2.alloc (.cells #[.int .u32 0, .slice none 0 0, .slice none 0 0] 51) = w2a at *
  generalize w2.heap.size = b2 at *
  refine hc.mono ?_
  rintro e w3 ⟨rfl, hb3⟩
  have z2 := K.cell_stays hb3 (Nat.le_refl _) z1
  have hB3 : Hid (Below w.heap.size w w3) := hB2a.out.trans (hb3.mono hB2a.out.size)
  clear hc hb3 z1 hB2a
  have hnw := new_ex (w := w3) (xs := xs) (v := .slice ao xs.length cap) (XH.out.stays hB3.out) (by omega)
  go_wp2_with fail
  refine hnw.mono ?_
  rintro e w4 ⟨sb, bp, bw, bh, rfl, R, hb4, l1, l2⟩
  clear hnw l1 l2 z2
  have hB4 : Hid (Below w.heap.size w w4) := hB3.out.trans (hb4.mono hB3.out.size)
  have hdn : Hid (∀ W, Below w.heap.size w W → Calls Tryd.prog 26 #[.slice ao xs.length cap] W fun e w' => ∃ rb gb kb : Nat, e = .returned (.pointer (some ⟨rb, 0, none⟩)) ∧ DRam w' rb gb kb (mw xs) ∧ Below W.heap.size W w' ∧ W.heap.size ≤ rb ∧ W.heap.size ≤ gb ∧ W.heap.size ≤ kb) := fun W hW => dnew_any (XH.out.stays hW) (by omega)
  generalize mw xs = m at *
  have hf := form_any (VH.out.stays hB4.out) R pc most p0 p1
  clear R hb4 hB3
  go_wp2_with fail
  refine hf.mono ?_
  rintro e w5 ⟨hb5, hres⟩
  clear hf
  have hB5 : Hid (Below w.heap.size w w5) := hB4.out.trans (hb5.mono hB4.out.size)
  clear hb5 hB4
  rcases hres with ⟨hE, rfl⟩ | ⟨hE, g, c, h, k, c2, rfl, RV⟩
  · have hA5 : Below w5.heap.size w5 (w5.alloc (.cells #[.int .u32 0, .slice none 0 0, .slice none 0 0] 51)) := (Below.refl _ _).alloc (Nat.le_refl _) _
    have hB5a : Hid (Below w.heap.size w _) := hB5.out.trans (hA5.mono hB5.out.size)
    have RZ5 : Hid (RZ _ w5.heap.size) := RZ.alloc w5
    have hcf : Hid (∀ W, Below w.heap.size w W → Calls Tryd.prog 23 #[.iface 192 (.pointer (some (ferr (S 2) (S 1) (S 8) (S 9) (S 5) (fE m pc most)))), .int .i64 (fN (fE m pc most))] W fun e w' => e = .returned (.bool true) ∧ Below W.heap.size W w') := fun W hW => coded_fE (EH.out.stays hW) pc most hE
    have hfo : Hid (∀ W db gb kb, DRam W db gb kb m → Calls Tryd.prog 25 #[.pointer (some ⟨db, 0, none⟩), .int .u32 pc, .int .i64 most] W fun e w' => Below W.heap.size W w' ∧ e = .returned (.tuple #[reg0, .int .i64 (fN (fE m pc most))])) := fun W db gb kb D => (formOf_all D pc most p0 p1).mono fun e w' ⟨hb, h⟩ => ⟨hb, by rcases h with h | h; exact h.2; exact absurd h.1 hE⟩
    generalize ferr (S 2) (S 1) (S 8) (S 9) (S 5) (fE m pc most) = er at *
    generalize fN (fE m pc most) = en at *
    clear hA5 hB5
    go_wp2_with fail
    generalize w5.alloc (.cells #[.int .u32 0, .slice none 0 0, .slice none 0 0] 51) = w5a at *
    generalize w5.heap.size = b5 at *
    refine (hdn.out _ hB5a.out).mono ?_
    rintro e w6 ⟨db, gb, kb, rfl, D, hb6, _, _, _⟩
    have hB6 : Hid (Below w.heap.size w w6) := hB5a.out.trans (hb6.mono hB5a.out.size)
    have hb5l : b5 < w5a.heap.size := World.block_lt_of_cell? _ _ RZ5.out.r0
    have RZ6 : Hid (RZ w6 b5) := RZ5.out.stays hb6 hb5l
    have hf6 := hfo.out w6 db gb kb D
    clear hb6 D hB5a RZ5
    go_wp2_with fail
    refine hf6.mono ?_
    rintro e w7 ⟨hb7, rfl⟩
    have hB7 : Hid (Below w.heap.size w w7) := hB6.out.trans (hb7.mono hB6.out.size)
    have hb6l : b5 < w6.heap.size := World.block_lt_of_cell? _ _ RZ6.out.r0
    have RZ7 : Hid (RZ w7 b5) := RZ6.out.stays hb7 hb6l
    have hb7l : b5 < w7.heap.size := World.block_lt_of_cell? _ _ RZ7.out.r0
    have hA7 : Below w7.heap.size w7 (w7.alloc (.cells #[.int .u32 0, .slice none 0 0, .slice none 0 0] 56)) := (Below.refl _ _).alloc (Nat.le_refl _) _
    have hB7a : Hid (Below w.heap.size w _) := hB7.out.trans (hA7.mono hB7.out.size)
    have RZa : Hid (RZ _ b5) := RZ7.out.stays hA7 hb7l
    have RZb : Hid (RZ _ w7.heap.size) := (⟨by simp, by simp, by simp, fun j => by simp⟩ : RZ (w7.alloc (.cells #[.int .u32 0, .slice none 0 0, .slice none 0 0] 56)) w7.heap.size)
    clear hf6 hb7 hA7 hB6 hB7 RZ6 RZ7
    go_wp2_with fail
    generalize w7.alloc (.cells #[.int .u32 0, .slice none 0 0, .slice none 0 0] 56) = w7a at *
    generalize w7.heap.size = b7 at *
    refine (hcf.out _ hB7a.out).mono ?_
    rintro e w8 ⟨rfl, hb8⟩
    have hB8 : Hid (Below w.heap.size w w8) := hB7a.out.trans (hb8.mono hB7a.out.size)
    have Ra := RZa.out.stays hb8 (World.block_lt_of_cell? _ _ RZa.out.r0)
    have Rb := RZb.out.stays hb8 (World.block_lt_of_cell? _ _ RZb.out.r0)
    have ra0 := Ra.r0
    have ra1 := Ra.r1
    have ra2 := Ra.r2
    have rb0 := Rb.r0
    have rb1 := Rb.r1
    have rb2 := Rb.r2
    have hle := fun W => len_any (w := W) 0 none 0 0 none 0 0 (by omega)
    have hen := fun W => ends_few (w := W) 0 none 0 0 none 0 0 (by omega)
    clear hb8 hB7a RZa RZb Ra Rb
    go_wp2_with fail
    refine (sameIns_nil w8 none none 0 0).mono ?_
    rintro e wk ⟨rfl, hwk⟩
    rw [hwk]; clear hwk wk
    go_wp2_with fail
    refine (sameInts_nil w8 none none 0 0).mono ?_
    rintro e wk ⟨rfl, hwk⟩
    rw [hwk]; clear hwk wk
    go_wp2_with fail
    refine (hle w8).mono ?_
    rintro e w9 ⟨rfl, hb9⟩
    have q0 := K.cell_stays hb9 (Nat.le_refl _) ra0
    have q1 := K.cell_stays hb9 (Nat.le_refl _) ra1
    have q2 := K.cell_stays hb9 (Nat.le_refl _) ra2
    have hB9 : Hid (Below w.heap.size w w9) := hB8.out.trans (hb9.mono hB8.out.size)
    clear hle hb9 ra0 ra1 ra2 rb0 rb1 rb2
    go_wp2_with fail
    refine (hen w9).mono ?_
    rintro e w10 ⟨rfl, hb10⟩
    go_wp2
    go_ret
    exact ⟨rfl, hB9.out.trans (hb10.mono hB9.out.size)⟩
  · obtain ⟨_, _, p4, p2⟩ := fchk_ok (fE_chkF hE)
    have hreg := lenR_reg (kdAt m pc) (many pc) most.toNat
    have hfo : Hid (∀ W db gb kb, DRam W db gb kb m → Calls Tryd.prog 25 #[.pointer (some ⟨db, 0, none⟩), .int .u32 pc, .int .i64 most] W fun e w' => Below W.heap.size W w' ∧ ∃ g c h k c2, e = .returned (.tuple #[.agg #[.int .u32 pc, .slice (some ⟨g, 0, none⟩) (lenR (kdAt m pc) (many pc) most.toNat) c, .slice (some ⟨h, 0, none⟩) k c2], .int .i64 0]) ∧ RegV w' pc m (lenR (kdAt m pc) (many pc) most.toNat) g c h k c2) := fun W db gb kb D => (formOf_all D pc most p0 p1).mono fun e w' ⟨hb, h⟩ => ⟨hb, by rcases h with h | h; exact absurd hE h.1; exact h.2⟩
    generalize lenR (kdAt m pc) (many pc) most.toNat = L at *
    have hL24 : L ≤ 24 := by have := hreg.room; have := (fchk_ok (fE_chkF hE)).2.1; omega
    have hL24' : (L : Int) ≤ 24 := by omega
    have hA5 : Below w5.heap.size w5 (w5.alloc (.cells #[.int .u32 pc, .slice (some ⟨g, 0, none⟩) L c, .slice (some ⟨h, 0, none⟩) k c2] 51)) := (Below.refl _ _).alloc (Nat.le_refl _) _
    have hB5a : Hid (Below w.heap.size w _) := hB5.out.trans (hA5.mono hB5.out.size)
    have RV5 : Hid (RegV _ pc m L g c h k c2) := RV.stays hA5
    have VA5 : Hid (VarAt _ w5.heap.size pc L g c h k c2) := VarAt.alloc w5 pc L g c h k c2
    clear hA5 hB5 RV
    go_wp2_with fail
    generalize w5.alloc (.cells #[.int .u32 pc, .slice (some ⟨g, 0, none⟩) L c, .slice (some ⟨h, 0, none⟩) k c2] 51) = w5a at *
    generalize w5.heap.size = b5 at *
    refine (hdn.out _ hB5a.out).mono ?_
    rintro e w6 ⟨db, gb, kb, rfl, D, hb6, _, _, _⟩
    have hB6 : Hid (Below w.heap.size w w6) := hB5a.out.trans (hb6.mono hB5a.out.size)
    have RV6 : Hid _ := RV5.out.stays hb6
    have VA6 : Hid _ := VA5.out.stays hb6
    have hf6 := hfo.out w6 db gb kb D
    clear hb6 D hB5a RV5 VA5
    go_wp2_with fail
    refine hf6.mono ?_
    rintro e w7 ⟨hb7, g7, c7, h7, k7, d7, rfl, RVd⟩
    have hB7 : Hid (Below w.heap.size w w7) := hB6.out.trans (hb7.mono hB6.out.size)
    have hA7 : Below w7.heap.size w7 (w7.alloc (.cells #[.int .u32 pc, .slice (some ⟨g7, 0, none⟩) L c7, .slice (some ⟨h7, 0, none⟩) k7 d7] 56)) := (Below.refl _ _).alloc (Nat.le_refl _) _
    have hB7a : Hid (Below w.heap.size w _) := hB7.out.trans (hA7.mono hB7.out.size)
    have RVa : Hid (RegV _ pc m L g c h k c2) := (RV6.out.stays hb7).stays hA7
    have VAa : Hid (VarAt _ b5 pc L g c h k c2) := (VA6.out.stays hb7).stays hA7
    have RVb : Hid (RegV _ pc m L g7 c7 h7 k7 d7) := RVd.stays hA7
    have VAb : Hid (VarAt _ w7.heap.size pc L g7 c7 h7 k7 d7) := VarAt.alloc36 w7 pc L g7 c7 h7 k7 d7
    have hkk : k7 = k := by have e1 := RVa.out.cnt; have e2 := RVb.out.cnt; rw [e1] at e2; exact e2.symm
    subst hkk
    clear hf6 hb7 hA7 hB6 hB7 RV6 VA6 RVd
    go_wp2_with fail
    generalize w7.alloc (.cells #[.int .u32 pc, .slice (some ⟨g7, 0, none⟩) L c7, .slice (some ⟨h7, 0, none⟩) k7 d7] 56) = w7a at *
    generalize w7.heap.size = b7 at *
    refine (coded_nil w7a).mono ?_
    rintro e wk ⟨rfl, hwk⟩
    rw [hwk]; clear hwk wk
    have qa0 := VAa.out.q0
    have qa1 := VAa.out.q1
    have qa2 := VAa.out.q2
    have qb0 := VAb.out.q0
    have qb1 := VAb.out.q1
    have qb2 := VAb.out.q2
    have hk24 : k7 ≤ 10000 := by have := RVa.out.cnt; unfold cntP at this; omega
    go_wp2_with fail
    refine (sameIns_eq w7a g 0 g7 0 L c c7 (wAt m pc) (by omega) RVa.out.ins RVb.out.ins).mono ?_
    rintro e w8 ⟨rfl, n8, hw8⟩
    have hb8 : Below w7a.heap.size w7a w8 := by rw [hw8]; exact below_drewN (Below.refl _ _) n8
    clear hw8
    have hB8 : Hid (Below w.heap.size w w8) := hB7a.out.trans (hb8.mono hB7a.out.size)
    have RV8a : Hid _ := RVa.out.stays hb8
    have RV8b : Hid _ := RVb.out.stays hb8
    have VA8a : Hid _ := VAa.out.stays hb8
    have VA8b : Hid _ := VAb.out.stays hb8
    clear hb8 hB7a RVa RVb VAa VAb qa0 qa1 qa2 qb0 qb1 qb2
    have qa2 := VA8a.out.q2
    have qb2 := VA8b.out.q2
    go_wp2_with fail
    refine (sameInts_eq w8 h h7 k7 c2 d7 (fun i => pc / 256 + i) hk24 RV8a.out.pgs RV8b.out.pgs).mono ?_
    rintro e w9 ⟨rfl, n9, hw9⟩
    have hb9 : Below w8.heap.size w8 w9 := by rw [hw9]; exact below_drewN (Below.refl _ _) n9
    clear hw9 qa2 qb2
    have hB9 : Hid (Below w.heap.size w w9) := hB8.out.trans (hb9.mono hB8.out.size)
    have RV9a : Hid (RegV w9 pc m L g c h k7 c2) := RV8a.out.stays hb9
    have RV9b : Hid (RegV w9 pc m L g7 c7 h7 k7 d7) := RV8b.out.stays hb9
    have VA9a : Hid (VarAt w9 b5 pc L g c h k7 c2) := VA8a.out.stays hb9
    have VA9b : Hid (VarAt w9 b7 pc L g7 c7 h7 k7 d7) := VA8b.out.stays hb9
    clear hb9 hB8 RV8a RV8b VA8a VA8b
    have qb1 := VA9b.out.q1
    have hle := fun W => len_any (w := W) pc (some ⟨g, 0, none⟩) L c (some ⟨h, 0, none⟩) k7 c2 (by omega)
    by_cases hfew : L < 2
    · have hL1 : decide (1 < (L : Int)) = false := by simp; omega
      have hen := fun W => ends_few (w := W) pc (some ⟨g, 0, none⟩) L c (some ⟨h, 0, none⟩) k7 c2 hfew
      have qa0 := VA9a.out.q0
      have qa1 := VA9a.out.q1
      have qa2 := VA9a.out.q2
      go_wp2_with fail
      refine (hle w9).mono ?_
      rintro e w10 ⟨rfl, hb10⟩
      have hB10 : Hid (Below w.heap.size w w10) := hB9.out.trans (hb10.mono hB9.out.size)
      have V10 := VA9a.out.stays hb10
      have y0 := V10.q0
      have y1 := V10.q1
      have y2 := V10.q2
      clear hb10 hle V10 qa0 qa1 qa2 qb1
      go_wp2_with fail
      refine (hen w10).mono ?_
      rintro e w11 ⟨rfl, hb11⟩
      go_wp2
      go_ret
      exact ⟨rfl, hB10.out.trans (hb11.mono hB10.out.size)⟩
    · have hL1 : decide (1 < (L : Int)) = true := by simp; omega
      have ei : (L : Int) - 2 = ((L - 2 : Nat) : Int) := by omega
      have eL : ((L - 2 : Nat) : Int) < L := by omega
      have hop := RV9b.out.ins (L - 2) 0 (by omega) (by omega)
      simp only [insC, List.getElem?_cons_zero, Nat.add_zero, Nat.zero_add] at hop
      have hki := kindOf_nat (decK (wAt m pc (L - 2))) (decK_lt _) w9
      have hkt := (kw_tests (knd (wAt m pc (L - 2))) (knd_in _)).2.2
      change Calls Tryd.prog 29 #[.int .i64 (decK (wAt m pc (L - 2)))] w9 fun e w' => e = .returned (.string ⟨(Tab.kwL.getD (knd (wAt m pc (L - 2))) []).toArray⟩) ∧ Below w9.heap.size w9 w' at hki
      have hopa : Hid (∀ W, Below w9.heap.size w9 W → W.cell? ⟨g, (L - 2) * 5, none⟩ = some (.int .i64 (decK (wAt m pc (L - 2))))) := fun W hW => by
        have h1 := (RV9a.out.stays hW).ins (L - 2) 0 (by omega) (by omega)
        simpa [insC] using h1
      have hen : Hid (∀ W, Below w9.heap.size w9 W → _) := fun W hW => ends_any (w := W) pc g L c (some ⟨h, 0, none⟩) k7 c2 (by omega) hL24 (decK (wAt m pc (L - 2))) (decK_lt _) (hopa.out W hW)
      change Hid (∀ W, Below w9.heap.size w9 W → Calls Tryd.prog 31 #[.agg #[.int .u32 pc, .slice (some ⟨g, 0, none⟩) L c, .slice (some ⟨h, 0, none⟩) k7 c2]] W fun e w' => e = .returned (.string (if knd (wAt m pc (L - 2)) = 2 then ⟨#[98, 114, 97, 110, 99, 104]⟩ else ⟨#[111, 110]⟩)) ∧ Below W.heap.size W w') at hen
      generalize decK (wAt m pc (L - 2)) = i0 at *
      generalize knd (wAt m pc (L - 2)) = kd at *
      generalize (⟨(Tab.kwL.getD kd []).toArray⟩ : ByteArray) = ss at *
      clear hopa
      by_cases k2 : kd = 2
      all_goals
        first
        | (have hk2 : (ss.toList == [98, 114, 97, 110, 99, 104]) = true := by (rw [hkt]; simpa using k2)
           rw [if_pos k2] at hen)
        | (have hk2 : (ss.toList == [98, 114, 97, 110, 99, 104]) = false := by (rw [hkt]; simpa using k2)
           rw [if_neg k2] at hen)
        clear hkt
        go_wp2_with fail
        refine hki.mono ?_
        rintro e w10 ⟨rfl, hb10⟩
        have hB10 : Hid (Below w.heap.size w w10) := hB9.out.trans (hb10.mono hB9.out.size)
        have hb910 : Hid (Below w9.heap.size w9 w10) := hb10
        have V10 := VA9a.out.stays hb10
        have y0 := V10.q0
        have y1 := V10.q1
        have y2 := V10.q2
        have hop2 := K.cell_stays hb10 (Nat.le_refl _) qb1
        clear hki hb10 V10 hop qb1
        go_wp2_with fail
        refine (hle w10).mono ?_
        rintro e w11 ⟨rfl, hb11⟩
        have hB11 : Hid (Below w.heap.size w w11) := hB10.out.trans (hb11.mono hB10.out.size)
        have hb911 : Hid (Below w9.heap.size w9 w11) := hb910.out.trans (hb11.mono hb910.out.size)
        have V11 := (VA9a.out.stays hb910.out).stays hb11
        have x0 := V11.q0
        have x1 := V11.q1
        have x2 := V11.q2
        clear hb11 hle V11 y0 y1 y2 hop2
        go_wp2_with fail
        refine (hen.out w11 hb911.out).mono ?_
        rintro e w12 ⟨rfl, hb12⟩
        go_wp2
        go_ret
        exact ⟨rfl, hB11.out.trans (hb12.mono hB11.out.size)⟩
end
end Go.Proofs.YtckcbnfobjmhpaaDoor
