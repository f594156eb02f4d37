/-
  Form, whatever it is asked of; the closed fact; an instruction's word again.
-/
import Derived.Test.YtckcbnfobjmhpaaDoorSame
namespace Go.Proofs.YtckcbnfobjmhpaaDoor
open Go.RowKit Go.Maps
open Num
set_option linter.unusedVariables false
theorem owns_cap {w : World} {base : Nat} {e : TypeId} {size n g cap : Nat} {xs : List Value} (h : w.ownsRow base e size (.slice (some ⟨g, 0, none⟩) n cap) n xs) : n ≤ cap := by
  rcases h.2 with ⟨h, _⟩ | ⟨g', cap', cur, h1, _, _, h2, _⟩
  · cases h
  · injection h1 with _ _ h3; omega
/-- which error Form has -/
def fE (m : Nat → Int) (pc most : Int) : Nat := if fchk pc most ≠ 0 then fchk pc most else if lenR (kdAt m pc) (many pc) most.toNat = 0 then 5 else 0
theorem fchk_ok {pc most : Int} (h : fchk pc most = 0) : 1 ≤ most ∧ most ≤ 24 ∧ pc % 4 = 0 ∧ pc < 16384 := by
  unfold fchk at h
  split at h
  · cases h
  · split at h
    · cases h
    · split at h
      · cases h
      · rename_i a b c; exact ⟨by omega, by omega, by omega, by omega⟩
/-- the program's variables, as it lays them -/
structure Vs (ps pa pf pk pb pn : Addr) (w : World) : Prop where
  E : Er ps pa pf w
  T : K.Tb pk pb w
  n : w.cell? ⟨0, 0, none⟩ = some (.iface 192 (.pointer (some pn)))
theorem Vs.stays {ps pa pf pk pb pn : Addr} {w w' : World} (h : Vs ps pa pf pk pb pn w) (hb : Below w.heap.size w w') : Vs ps pa pf pk pb pn w' :=
  ⟨h.E.stays2 hb, h.T.stays hb (Nat.le_refl _), K.cell_stays hb (Nat.le_refl _) h.n⟩
section
variable {w : World} {sb bp bw bh N : Nat} {m : Nat → Int} {wt ht : Int → Bool} {ps pa pf pk pb pn : Addr}
/-- a region as a value: its instructions lie in g, its pages in h -/
structure RegV (w : World) (pc : Int) (m : Nat → Int) (L g c h k c2 : Nat) : Prop where
  ins : InsAt w g 0 (wAt m pc) L
  pos : 1 ≤ L
  cnt : cntP pc L = k
  pgs : ∀ i, i < k → w.cell? ⟨h, i, none⟩ = some (.int .i64 (pc / 256 + i))
  kp : 1 ≤ k
  lc : L ≤ c
  kc : k ≤ c2
theorem RegV.stays {pc : Int} {L g c h k c2 : Nat} {w' : World} (r : RegV w pc m L g c h k c2) (hb : Below w.heap.size w w') : RegV w' pc m L g c h k c2 :=
  ⟨r.ins.stays r.pos hb, r.pos, r.cnt, fun i hi => K.cell_stays hb (Nat.le_refl _) (r.pgs i hi), r.kp, r.lc, r.kc⟩
theorem pgV_get (a : Int) (k i : Nat) (h : i < k) : (pgV a k)[i]? = some (.int .i64 (a + i)) := by simp [pgV, List.getElem?_map, List.getElem?_range h]
theorem form_any (V : Vs ps pa pf pk pb pn w) (R : RamIs w sb bp bw bh N m wt ht) (pc most : Int) (h0 : 0 ≤ pc) (h1 : pc < 4294967296) :
    Calls Tryd.prog 22 #[.pointer (some ⟨sb, 0, none⟩), .int .u32 pc, .int .i64 most] w fun e w' => Below w.heap.size w w' ∧
      ((fE m pc most ≠ 0 ∧ e = .returned (.tuple #[reg0, .iface 192 (.pointer (some (ferr ps pb pa pf pn (fE m pc most))))])) ∨
       (fE m pc most = 0 ∧ ∃ g c h k c2, e = .returned (.tuple #[.agg #[.int .u32 pc, .slice (some ⟨g, 0, none⟩) (lenR (kdAt m pc) (many pc) most.toNat) c, .slice (some ⟨h, 0, none⟩) k c2], .nilIface]) ∧ RegV w' pc m (lenR (kdAt m pc) (many pc) most.toNat) g c h k c2)) := by
  by_cases hc : fchk pc most = 0
  · obtain ⟨m0, m1, p4, p1⟩ := fchk_ok hc
    have hcast : ((most.toNat : Nat) : Int) = most := by omega
    have hf := form_loop (pn := pn) V.E V.T R pc h0 p1 p4 most.toNat (by omega) (by omega) V.n
    rw [hcast] at hf
    refine hf.mono ?_
    rintro e w' ⟨hb, ⟨hl, rfl⟩ | ⟨hl, v, vi, vp, rfl, RA⟩⟩
    · have hE : fE m pc most = 5 := by unfold fE; rw [if_neg (by simp [hc]), if_pos hl]
      exact ⟨hb, Or.inl ⟨by omega, by rw [hE]; rfl⟩⟩
    · have hE : fE m pc most = 0 := by unfold fE; rw [if_neg (by simp [hc]), if_neg (by omega)]
      refine ⟨hb, Or.inr ⟨hE, ?_⟩⟩
      obtain ⟨he, hri, hrp⟩ := RA
      generalize hL : lenR (kdAt m pc) (many pc) most.toNat = L at *
      obtain ⟨L', rfl⟩ : ∃ L', L = L' + 1 := ⟨L - 1, by omega⟩
      obtain ⟨k', hk⟩ : ∃ k', cntP pc (L' + 1) = k' + 1 := ⟨cntP pc (L' + 1) - 1, by unfold cntP; omega⟩
      rw [hk] at hrp
      obtain ⟨g, c, rfl⟩ := owns_pos hri
      obtain ⟨h, c2, rfl⟩ := owns_pos hrp
      subst he
      refine ⟨g, c, h, k' + 1, c2, rfl, InsAt.of_row hri, by omega, hk, fun i hi => ?_, by omega, owns_cap hri, owns_cap hrp⟩
      have h2 := hrp.cells (g := h) rfl i _ (pgV_get (pc / 256) (k' + 1) i hi)
      rw [add_lit] at h2; exact h2
  · have hE : fE m pc most = fchk pc most := by unfold fE; rw [if_pos hc]
    refine (form_bad (pn := pn) V.E V.T pc most h0 h1 hc).mono ?_
    rintro e w' ⟨rfl, hb⟩
    exact ⟨hb, Or.inl ⟨by rw [hE]; exact hc, by rw [hE]⟩⟩
theorem dec_pos {v : Int} (h : knd v ≠ 3) : 1 ≤ decK v := by
  rcases Nat.eq_zero_or_pos (decK v) with e | e
  · unfold knd at h; rw [e] at h; exact absurd rfl h
  · exact e
theorem decK_xw {v : Int} (h : 1 ≤ decK v) : Tab.xw (decK v) v = v := by
  unfold decK at h ⊢
  cases hf : (List.range 54).find? (fun k => decide (1 ≤ k ∧ Tab.xw k v = v)) with
  | none => rw [hf] at h; simp at h
  | some j =>
    have hj := List.find?_some hf
    simp only [decide_eq_true_eq] at hj
    exact hj.2
theorem encode_v (T : K.Tb pk pb w) (v : Int) (h0 : 0 ≤ v) (h1 : v < 4294967296) (hk : knd v ≠ 3) : Calls Tryd.prog 32 #[insV v] w fun e w' => e = .returned (.tuple #[.int .u32 v, .nilIface]) ∧ Below w.heap.size w w' := by
  have hk1 := dec_pos hk
  have hk2 := decK_lt v
  obtain ⟨⟨a0, a1⟩, ⟨b0, b1⟩, ⟨c0, c1⟩, d0, d1⟩ := K.x_rng (Tab.sh (decK v)) v h0 h1
  have h := K.encode_any pk pb (decK v) hk1 hk2 (Tab.xs (Tab.sh (decK v)) v) (Tab.xt (Tab.sh (decK v)) v) (Tab.xd (Tab.sh (decK v)) v) (Tab.xm (Tab.sh (decK v)) v) d0 (by omega) (by omega) (by omega) (by omega) (by omega) (by omega) (by omega) w T
  rw [K.encR_ok (Tab.ok_of (Tab.sh (decK v)) (Tab.sh_all _ hk2) v h0 h1).1] at h
  have hx : Tab.enc (decK v) (Tab.xs (Tab.sh (decK v)) v) (Tab.xt (Tab.sh (decK v)) v) (Tab.xd (Tab.sh (decK v)) v) (Tab.xm (Tab.sh (decK v)) v) = v := decK_xw hk1
  rw [hx] at h
  exact h
theorem formed_len : lenR (kdAt (mw [604045319, 12]) 0) (many 0) (5 : Int).toNat = 1 := by decide +kernel
theorem formed_fE : fE (mw [604045319, 12]) 0 5 = 0 := by decide +kernel
set_option maxRecDepth 100000 in
set_option maxHeartbeats 4000000 in
theorem formed_any (V : Vs ps pa pf pk pb pn w) : Calls Tryd.prog 21 #[] w fun e w' => e = .returned (.bool true) ∧ Below w.heap.size w w' := by
  have bA : Below w.heap.size w (w.alloc (.cells #[.int .u32 604045319, .int .u32 12] 23)) := (Below.refl _ _).alloc (Nat.le_refl _) _
  have X : WordsIn (w.alloc (.cells #[.int .u32 604045319, .int .u32 12] 23)) (.slice (some ⟨w.heap.size, 0, none⟩) 2 2) [604045319, 12] := by
    refine ⟨⟨_, 2, rfl, by simp, fun _ => ⟨w.heap.size, 0, rfl, fun i hi => ?_⟩⟩, mw_wf _ (by simp)⟩
    have : i = 0 ∨ i = 1 := by simp at hi; omega
    rcases this with rfl | rfl <;> simp
  have hnw := new_ex X (by decide)
  have VH : Hid (Vs ps pa pf pk pb pn w) := V
  have BH : Hid (Below w.heap.size w (w.alloc (.cells #[.int .u32 604045319, .int .u32 12] 23))) := bA
  clear V bA X
  go_enter Tryd.func21, Tryd.ntmps21
  go_wp2_with fail
  refine hnw.mono ?_
  rintro e w1 ⟨sb, bp, bw, bh, rfl, R, hb, l1, l2⟩
  clear hnw
  have B1 : Hid (Below w.heap.size w w1) := BH.out.trans (hb.mono BH.out.size)
  have hf := form_any (VH.out.stays B1.out) R 0 5 (by omega) (by omega)
  rw [formed_fE, formed_len] at hf
  clear R hb
  go_wp2_with fail
  refine hf.mono ?_
  rintro e w2 ⟨hb2, ⟨h, _⟩ | ⟨_, g, c, h, k, c2, rfl, RV⟩⟩
  · exact absurd rfl h
  clear hf
  have B2 : Hid (Below w.heap.size w w2) := B1.out.trans (hb2.mono B1.out.size)
  clear hb2
  have hle := fun W => len_any (w := W) 0 (some ⟨g, 0, none⟩) 1 c (some ⟨h, 0, none⟩) k c2 (by omega)
  have hen := fun W => ends_few (w := W) 0 (some ⟨g, 0, none⟩) 1 c (some ⟨h, 0, none⟩) k c2 (by omega)
  clear RV
  go_wp2_with fail
  refine (hle _).mono ?_
  rintro e w3 ⟨rfl, hb3⟩
  have hA : Below w2.heap.size w2 (w2.alloc (.cells #[.int .u32 0, .slice (some ⟨g, 0, none⟩) 1 c, .slice (some ⟨h, 0, none⟩) k c2] 51)) := (Below.refl _ _).alloc (Nat.le_refl _) _
  have hB3 : Below w2.heap.size w2 w3 := hA.trans (hb3.mono hA.size)
  have q0 : w3.cell? ⟨w2.heap.size, 0, none⟩ = some (.int .u32 0) := by rw [hb3.cell (by simp)]; simp
  have q1 : w3.cell? ⟨w2.heap.size, 1, none⟩ = some (.slice (some ⟨g, 0, none⟩) 1 c) := by rw [hb3.cell (by simp)]; simp
  have q2 : w3.cell? ⟨w2.heap.size, 2, none⟩ = some (.slice (some ⟨h, 0, none⟩) k c2) := by rw [hb3.cell (by simp)]; simp
  have B3 : Hid (Below w.heap.size w w3) := B2.out.trans (hB3.mono B2.out.size)
  clear hA hB3 hb3 hle
  go_wp2_with fail
  refine (hen _).mono ?_
  rintro e w4 ⟨rfl, hb4⟩
  go_wp2
  go_ret
  exact ⟨rfl, B3.out.trans (hb4.mono B3.out.size)⟩
end
end Go.Proofs.YtckcbnfobjmhpaaDoor
