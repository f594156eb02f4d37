/-
  Package opt: what is known of registers, in a map.
-/
import Derived.Test.YtcccaejjhodnkaaDoorOptFns
import Derived.Test.YtcccaejjhodnkaaDoorIrRes
import Derived.Maps.OwnSet
import Derived.WalkSpells
namespace Go.Proofs.YtcccaejjhodnkaaDoor
open Go.RowKit Go.Maps
open Num
set_option linter.unusedVariables false
theorem law3 : Keyed Tryd.prog 3 := int_keyed Tryd.underlying3
/-- an element, as it is -/
def heldE (v : Value) : Option (DataW Value × List MemPlace) := some (.held v, [])
theorem wf_i64 {n : Int} (h0 : -9223372036854775808 ≤ n) (h1 : n ≤ 9223372036854775807) : (Lit.int .i64 n).wf = true := by
  simp [Lit.wf, IntKind.min, IntKind.max, IntKind.signed, IntKind.bits]; omega
theorem key3 {n : Int} (h0 : -9223372036854775808 ≤ n) (h1 : n ≤ 9223372036854775807) : keyOf Tryd.prog 3 (.int .i64 n) = some (.int .i64 n) := keyOf_int_mk Tryd.underlying3 (wf_i64 h0 h1)
theorem isKey_i64 {n : Int} : WideAt.IsKeyLit (.int .i64 n) := by trivial
theorem lit_ne {a b : Int} (h : a ≠ b) : (Lit.int .i64 a) ≠ .int .i64 b := by intro e; cases e; exact h rfl
theorem zeroU (w : World) : (zeroValue 23).run Tryd.prog w = .ok (.int .u32 0) w := by kernel_rfl
/-- facts in a map -/
structure FactsAt (w : World) (b N : Nat) (f : Fx) : Prop where
  own : ∃ D : DataW Value, w.ownsMap Tryd.prog 3 heldE b N D ∧ (∀ x : Int, Maps.has D (.int .i64 x) = (f x).isSome) ∧ ∀ (x v : Int), f x = some v → D.atKey (.int .i64 x) (.held (.int .u32 0)) = .held (.int .u32 v)
  bd : ∀ x v, f x = some v → 0 ≤ v ∧ v < 4294967296
theorem FactsAt.lt {w : World} {b N : Nat} {f : Fx} (F : FactsAt w b N f) : b < w.heap.size := let ⟨_, h, _⟩ := F.own; h.lt
theorem FactsAt.stays {w w' : World} {b N : Nat} {f : Fx} (F : FactsAt w b N f) (h : Below w.heap.size w w') : FactsAt w' b N f := by
  obtain ⟨D, h1, h2, h3⟩ := F.own
  exact ⟨⟨D, h1.kept ⟨h.os, h.tape, h.output, h.size, fun k hk _ => h.block k hk⟩ (row := none) (by simp), h2, h3⟩, F.bd⟩
theorem FactsAt.look {w : World} {b N : Nat} {f : Fx} (F : FactsAt w b N f) (n v : Int) (h : f n = some v) (h0 : -9223372036854775808 ≤ n) (h1 : n ≤ 9223372036854775807) : (Instr.lookup 109 (.map (some b)) (.int .i64 n) false).run Tryd.prog w = .ok (.int .u32 v) w := by
  obtain ⟨D, g1, g2, g3⟩ := F.own
  obtain ⟨u, ps, hrun, hv⟩ := g1.lookup law3 Tryd.underlying109 (zeroU w) (zd := .held (.int .u32 0)) (zp := []) rfl (key3 h0 h1)
  rw [g3 n v h] at hv
  simp only [heldE, Option.some.injEq, Prod.mk.injEq, DataW.held.injEq] at hv
  rw [hrun, hv.1]
theorem FactsAt.has {w : World} {b N : Nat} {f : Fx} (F : FactsAt w b N f) (n : Int) (h0 : -9223372036854775808 ≤ n) (h1 : n ≤ 9223372036854775807) : ∃ u, (Instr.lookup 109 (.map (some b)) (.int .i64 n) true).run Tryd.prog w = .ok (.tuple #[u, .bool (f n).isSome]) w := by
  obtain ⟨D, g1, g2, g3⟩ := F.own
  obtain ⟨u, ps, hrun, hv⟩ := g1.look_ok law3 Tryd.underlying109 (zeroU w) (zd := .held (.int .u32 0)) (zp := []) rfl (key3 h0 h1)
  exact ⟨u, by rw [hrun, g2 n]⟩
theorem facts_put {w w' : World} {b N : Nat} {f : Fx} {n v : Int} {D : DataW Value} (g2 : ∀ x : Int, Maps.has D (.int .i64 x) = (f x).isSome) (g3 : ∀ (x v : Int), f x = some v → D.atKey (.int .i64 x) (.held (.int .u32 0)) = .held (.int .u32 v)) (hD : IsMap D) (bd : ∀ x v, f x = some v → 0 ≤ v ∧ v < 4294967296) (v0 : 0 ≤ v) (v1 : v < 4294967296)
    (h1 : w'.ownsMap Tryd.prog 3 heldE b N (D.put (.int .i64 n) (.held (.int .u32 v)))) : FactsAt w' b N (putF f n (some v)) := by
  refine ⟨⟨_, h1, fun x => ?_, fun x u hx => ?_⟩, fun x u hx => ?_⟩
  · unfold putF
    by_cases e : x = n
    · subst e; rw [if_pos rfl]; exact has_put_same hD isKey_i64 _
    · rw [if_neg e, has_put_other (lit_ne e), g2]
  · unfold putF at hx
    by_cases e : x = n
    · subst e; rw [if_pos rfl] at hx; cases hx; exact atKey_put_same hD isKey_i64 _ _
    · rw [if_neg e] at hx; rw [atKey_put_other (lit_ne e), g3 x u hx]
  · unfold putF at hx
    by_cases e : x = n
    · rw [if_pos e] at hx; cases hx; exact ⟨v0, v1⟩
    · rw [if_neg e] at hx; exact bd x u hx
theorem facts_del {w' : World} {b N : Nat} {f : Fx} {n : Int} {D : DataW Value} (g2 : ∀ x : Int, Maps.has D (.int .i64 x) = (f x).isSome) (g3 : ∀ (x v : Int), f x = some v → D.atKey (.int .i64 x) (.held (.int .u32 0)) = .held (.int .u32 v)) (bd : ∀ x v, f x = some v → 0 ≤ v ∧ v < 4294967296)
    (h1 : w'.ownsMap Tryd.prog 3 heldE b N (D.del (.int .i64 n))) : FactsAt w' b N (putF f n none) := by
  refine ⟨⟨_, h1, fun x => ?_, fun x u hx => ?_⟩, fun x u hx => ?_⟩
  · unfold putF
    by_cases e : x = n
    · subst e; rw [if_pos rfl]; exact has_del_same
    · rw [if_neg e, has_del_other (lit_ne e), g2]
  · unfold putF at hx
    by_cases e : x = n
    · rw [if_pos e] at hx; cases hx
    · rw [if_neg e] at hx; rw [atKey_del_other (lit_ne e), g3 x u hx]
  · unfold putF at hx
    by_cases e : x = n
    · rw [if_pos e] at hx; cases hx
    · rw [if_neg e] at hx; exact bd x u hx
/-- bounds of an op's registers -/
structure Opx.rg (o : Opx) : Prop where
  a0 : -9223372036854775808 ≤ o.a
  a1 : o.a ≤ 9223372036854775807
  b0 : -9223372036854775808 ≤ o.b
  b1 : o.b ≤ 9223372036854775807
  d0 : -9223372036854775808 ≤ o.d
  d1 : o.d ≤ 9223372036854775807
theorem Opx.ok.rg {o : Opx} (h : o.ok) : o.rg := ⟨h.a0, h.a1, h.b0, h.b1, h.d0, h.d1⟩
set_option maxHeartbeats 1000000 in
theorem know_any {w : World} {b N : Nat} {f : Fx} (F : FactsAt w b N f) (n : Int) (h0 : -9223372036854775808 ≤ n) (h1 : n ≤ 9223372036854775807) : Calls Tryd.prog 90 #[.map (some b), .int .i64 n] w fun e w' => e = .returned (.bool (f n).isSome) ∧ w' = w := by
  obtain ⟨u, hu⟩ := F.has n h0 h1
  generalize (f n).isSome = r at *
  clear F
  go_enter Tryd.func90, Tryd.ntmps90
  go_wp2
  go_ret
  exact ⟨rfl, rfl⟩
set_option maxRecDepth 100000 in
set_option maxHeartbeats 2000000 in
theorem newFacts_any (w : World) : Calls Tryd.prog 54 #[] w fun e w' => ∃ b, e = .returned (.map (some b)) ∧ FactsAt w' b 1 fx0 ∧ Below w.heap.size w w' ∧ w.heap.size ≤ b := by
  have hmm := @run_makeMap Tryd.prog
  have hk := key3 (n := 0) (by omega) (by omega)
  obtain ⟨w1, hrun, ho, ht⟩ := (World.ownsMap_made (H := Value) w Tryd.prog 3 heldE).store law3 Tryd.underlying109 (by unfold maxLen; omega) hk (val := .int .u32 0) (d := .held (.int .u32 0)) (ps := []) rfl
  have HT : Hid (Below w.heap.size w w1) := ((Below.refl _ _).alloc (Nat.le_refl _) _).grown ht.grown (by simp) (fun k e => by cases e; exact Nat.le_refl _)
  have HF : Hid (FactsAt w1 w.heap.size 1 fx0) := by
    have := facts_put (w := w) (f := fun _ => none) (n := 0) (v := 0) (fun x => rfl) (fun x v e => by cases e) ⟨[], rfl⟩ (fun x v e => by cases e) (by omega) (by omega) ho
    exact this
  clear ho ht hk
  go_enter Tryd.func54, Tryd.ntmps54
  go_wp2
  go_ret
  exact ⟨_, rfl, HF.out, HT.out, Nat.le_refl _⟩
set_option maxRecDepth 100000 in
set_option maxHeartbeats 4000000 in
theorem tell_any {w : World} {b N : Nat} {f : Fx} (F : FactsAt w b N f) (o : Opx) (ok : o.rg) : Calls Tryd.prog 55 #[.map (some b), opV o] w fun e w' => e = .returned (.bool (tellB f o)) ∧ Below w.heap.size w w' := by
  have hr := fun w => registers_any o.s w
  unfold regV at hr
  have hd := fun w => divides_any o w
  have ka := fun w' (h : Below w.heap.size w w') => know_any (F.stays h) o.a ok.a0 ok.a1
  have kb := fun w' (h : Below w.heap.size w w') => know_any (F.stays h) o.b ok.b0 ok.b1
  have HT : Hid (tellB f o = (b2 (rD (kn o.s)) 2 && b2 (rA (kn o.s)) 1 && b2 (rB (kn o.s)) 1 && !dvB o.k && (f o.a).isSome && (f o.b).isSome)) := by
    show _ = _
    unfold tellB
    congr 2
    have hl := kn_lt o.s
    unfold b2 rD rA rB dvB Opx.k
    generalize kn o.s = k at *
    rw [Bool.eq_iff_iff]
    simp only [Bool.and_eq_true, decide_eq_true_eq, Bool.not_eq_true', decide_eq_false_iff_not]
    constructor
    · intro h
      rw [if_pos (by omega), if_pos (by omega), if_pos (by omega)]; omega
    · rintro ⟨⟨⟨h1, h2⟩, h3⟩, h4⟩
      by_cases c1 : 1 ≤ k ∧ k ≤ 20 ∨ k = 23
      · by_cases c3 : 3 ≤ k ∧ k ≤ 22 ∨ k = 24
        · omega
        · rw [if_neg c3] at h3; split at h3 <;> omega
      · rw [if_neg c1] at h1; split at h1 <;> omega
  clear F ok
  unfold opV at *
  generalize b2 (rD (kn o.s)) 2 = x1 at *
  generalize b2 (rA (kn o.s)) 1 = x2 at *
  generalize b2 (rB (kn o.s)) 1 = x3 at *
  generalize dvB o.k = x4 at *
  generalize (f o.a).isSome = x5 at *
  generalize (f o.b).isSome = x6 at *
  obtain ⟨r, hr0⟩ : ∃ r, tellB f o = r := ⟨_, rfl⟩
  rw [hr0] at HT ⊢
  clear hr0
  cases x1 with
  | false =>
    have HT : r = false := by rw [HT.out]; rfl
    subst HT
    go_enter Tryd.func55, Tryd.ntmps55
    go_wp2_with fail
    refine (hr _).mono ?_
    rintro e w1 ⟨rfl, hb1⟩
    have HB : Hid (Below w.heap.size w w1) := ((Below.refl _ _).alloc (Nat.le_refl _) _).trans (hb1.mono (by simp))
    clear hr hb1 hd ka kb
    go_wp2
    go_ret
    exact ⟨rfl, HB.out⟩
  | true =>
  cases x2 with
  | false =>
    have HT : r = false := by rw [HT.out]; rfl
    subst HT
    go_enter Tryd.func55, Tryd.ntmps55
    go_wp2_with fail
    refine (hr _).mono ?_
    rintro e w1 ⟨rfl, hb1⟩
    have HB : Hid (Below w.heap.size w w1) := ((Below.refl _ _).alloc (Nat.le_refl _) _).trans (hb1.mono (by simp))
    clear hr hb1 hd ka kb
    go_wp2
    go_ret
    exact ⟨rfl, HB.out⟩
  | true =>
  cases x3 with
  | false =>
    have HT : r = false := by rw [HT.out]; rfl
    subst HT
    go_enter Tryd.func55, Tryd.ntmps55
    go_wp2_with fail
    refine (hr _).mono ?_
    rintro e w1 ⟨rfl, hb1⟩
    have HB : Hid (Below w.heap.size w w1) := ((Below.refl _ _).alloc (Nat.le_refl _) _).trans (hb1.mono (by simp))
    clear hr hb1 hd ka kb
    go_wp2
    go_ret
    exact ⟨rfl, HB.out⟩
  | true =>
    go_enter Tryd.func55, Tryd.ntmps55
    go_wp2_with fail
    refine (hr _).mono ?_
    rintro e w1 ⟨rfl, hb1⟩
    obtain ⟨c, hf⟩ := bcellO hb1
    have hz : w.heap.size < w1.heap.size := by have := hb1.size; simp at this; omega
    have HB : Hid (Below w.heap.size w w1) := ((Below.refl _ _).alloc (Nat.le_refl _) _).trans (hb1.mono (by simp))
    clear hr hb1
    go_wp2_with fail
    refine (hd _).mono ?_
    rintro e w2 ⟨rfl, hb2⟩
    have c' : ∀ o, w2.cell? ⟨w.heap.size, o, none⟩ = _ := fun o => (hb2.cell (p := ⟨w.heap.size, o, none⟩) hz).trans (c o)
    have HB2 : Hid (Below w.heap.size w w2) := HB.out.trans (hb2.mono (by omega))
    have hz2 : w.heap.size < w2.heap.size := by have := hb2.size; omega
    have ka := ka w2 HB2.out
    have kb := kb w2 HB2.out
    clear hd hb2 c hf
    cases x4 with
    | true =>
      have HT : r = false := by rw [HT.out]; rfl
      subst HT
      go_wp2
      go_ret
      exact ⟨rfl, HB2.out⟩
    | false =>
    cases x5 with
    | false =>
      have HT : r = false := by rw [HT.out]; rfl
      subst HT
      go_wp2_with fail
      refine ka.mono ?_
      rintro e w3 ⟨rfl, rfl⟩
      go_wp2
      go_ret
      exact ⟨rfl, HB2.out⟩
    | true =>
      have HT : r = x6 := by rw [HT.out]; rfl
      subst HT
      go_wp2_with fail
      refine ka.mono ?_
      rintro e w3 ⟨rfl, rfl⟩
      go_wp2_with fail
      refine kb.mono ?_
      rintro e w3 ⟨rfl, rfl⟩
      go_wp2
      go_ret
      exact ⟨rfl, HB2.out⟩
set_option maxRecDepth 100000 in
set_option maxHeartbeats 4000000 in
theorem result_known {w : World} {b N : Nat} {f : Fx} (F : FactsAt w b N f) (o : Opx) (ok : o.rg) : Calls Tryd.prog 94 #[.map (some b), opV o] w fun e w' => e = .returned (.tuple #[.int .u32 ((resF f o).getD 0), .bool (resF f o).isSome]) ∧ Below w.heap.size w w' := by
  have ht := fun w' (h : Below w.heap.size w w') => tell_any (F.stays h) o ok
  have ka := fun w' (h : Below w.heap.size w w') => know_any (F.stays h) o.a ok.a0 ok.a1
  have h2 := kn_eq o.s 2 (by omega) (by omega)
  have hB0 : Below w.heap.size w (w.alloc (.cells #[.string o.s, .int .i64 o.d, .int .i64 o.a, .int .i64 o.b, .int .u32 o.i, .int .i64 o.t] 60)) := (Below.refl _ _).alloc (Nat.le_refl _) _
  have hstep : ∀ (hc : ¬ (o.k = 2 ∧ (f o.a).isSome = true)), resF f o = if tellB f o = true then some (valV o.k ((f o.a).getD 0) ((f o.b).getD 0) 0 0) else none := fun hc => by unfold resF; rw [if_neg hc]
  by_cases hk : o.k = 2
  · have h2' : (o.s.toList == [99, 111, 112, 121]) = true := by rw [show (o.s.toList == [99, 111, 112, 121]) = _ from h2]; simpa [Opx.k] using hk
    cases hfa : f o.a with
    | some v =>
      have HR : Hid (resF f o = some v) := by show _ = _; unfold resF; rw [if_pos ⟨hk, by rw [hfa]; rfl⟩, hfa]
      have hlk := fun w' (h : Below w.heap.size w w') => (F.stays h).look o.a v hfa ok.a0 ok.a1
      have ka : ∀ w', Below w.heap.size w w' → Calls Tryd.prog 90 #[.map (some b), .int .i64 o.a] w' fun e w'' => e = .returned (.bool true) ∧ w'' = w' := fun w' h => by have := ka w' h; rw [hfa] at this; exact this
      clear F ht h2 hstep hk hfa
      unfold opV
      have hlk := hlk _ hB0
      have ka := ka _ hB0
      go_enter Tryd.func94, Tryd.ntmps94
      go_wp2_with fail
      refine ka.mono ?_
      rintro e w3 ⟨rfl, rfl⟩
      go_wp2
      go_ret2
      exact ⟨by rw [HR.out]; rfl, hB0⟩
    | none =>
      have HR : Hid (resF f o = none) := by show _ = _; rw [hstep (by rw [hfa]; simp)]; unfold tellB; rw [hk]; simp
      have HT : tellB f o = false := by unfold tellB; rw [hk]; simp
      rw [HT] at ht
      have ka : ∀ w', Below w.heap.size w w' → Calls Tryd.prog 90 #[.map (some b), .int .i64 o.a] w' fun e w'' => e = .returned (.bool false) ∧ w'' = w' := fun w' h => by have := ka w' h; rw [hfa] at this; exact this
      clear F h2 hstep hk hfa HT
      unfold opV at *
      have ka := ka _ hB0
      have ht := ht _ hB0
      go_enter Tryd.func94, Tryd.ntmps94
      go_wp2_with fail
      refine ka.mono ?_
      rintro e w3 ⟨rfl, rfl⟩
      go_wp2_with fail
      refine ht.mono ?_
      rintro e w3 ⟨rfl, hb3⟩
      have HB3 : Hid (Below w.heap.size w w3) := hB0.trans (hb3.mono (by simp))
      clear ka ht hb3
      go_wp2
      go_ret2
      exact ⟨by rw [HR.out]; rfl, HB3.out⟩
  · have h2' : (o.s.toList == [99, 111, 112, 121]) = false := by rw [show (o.s.toList == [99, 111, 112, 121]) = _ from h2]; simpa [Opx.k] using hk
    have hRF := hstep (by simp [hk])
    cases hT : tellB f o with
    | false =>
      have HR : Hid (resF f o = none) := by show _ = _; rw [hRF, hT]; rfl
      rw [hT] at ht
      clear F h2 hstep hk hT ka hRF
      unfold opV at *
      have ht := ht _ hB0
      go_enter Tryd.func94, Tryd.ntmps94
      go_wp2_with fail
      refine ht.mono ?_
      rintro e w3 ⟨rfl, hb3⟩
      have HB3 : Hid (Below w.heap.size w w3) := hB0.trans (hb3.mono (by simp))
      clear ht hb3
      go_wp2
      go_ret2
      exact ⟨by rw [HR.out]; rfl, HB3.out⟩
    | true =>
      have HR : Hid (resF f o = some (valV o.k ((f o.a).getD 0) ((f o.b).getD 0) 0 0)) := by show _ = _; rw [hRF, hT]; rfl
      rw [hT] at ht
      unfold tellB at hT
      simp only [Bool.and_eq_true, decide_eq_true_eq, Option.isSome_iff_exists] at hT
      obtain ⟨⟨h3, va, ha⟩, vb, hbb⟩ := hT
      rw [ha, hbb] at HR
      have la := fun w' (h : Below w.heap.size w w') => (F.stays h).look o.a va ha ok.a0 ok.a1
      have lb := fun w' (h : Below w.heap.size w w') => (F.stays h).look o.b vb hbb ok.b0 ok.b1
      obtain ⟨a0, a1⟩ := F.bd _ _ ha
      obtain ⟨b0, b1⟩ := F.bd _ _ hbb
      have hs := kn_word (s := o.s) (by unfold Opx.k at h3; omega)
      have hres := fun w => result_any o.k h3 va vb 0 0 a0 a1 b0 b1 w
      rw [show kindS o.k = o.s from hs.symm] at hres
      have HR : Hid (resF f o = some (valV o.k va vb 0 0)) := HR
      clear F h2 hstep hk ka hRF ha hbb hs
      unfold opV at *
      generalize valV o.k va vb 0 0 = rv at *
      have ht := ht _ hB0
      go_enter Tryd.func94, Tryd.ntmps94
      go_wp2_with fail
      refine ht.mono ?_
      rintro e w3 ⟨rfl, hb3⟩
      obtain ⟨c, hf⟩ := bcellO hb3
      have hz3 : w.heap.size < w3.heap.size := by have := hb3.size; simp at this; omega
      have HB3 : Hid (Below w.heap.size w w3) := hB0.trans (hb3.mono (by simp))
      have la := la _ HB3.out
      have lb := lb _ HB3.out
      clear ht hb3
      go_wp2_with fail
      refine (hres _).mono ?_
      rintro e w4 ⟨rfl, rfl⟩
      go_wp2
      go_ret2
      exact ⟨by rw [HR.out]; rfl, HB3.out⟩
set_option maxRecDepth 100000 in
set_option maxHeartbeats 4000000 in
theorem learn_any {w : World} {b N : Nat} {f : Fx} (F : FactsAt w b N f) (hN : N < maxLen) (o : Opx) (ok : o.ok) : Calls Tryd.prog 56 #[.map (some b), opV o] w fun e w' => e = .returned (.tuple #[]) ∧ FactsAt w' b (N + 1) (learnF f o) ∧ w.grownBy w' (some b) := by
  have hwr := fun w => writes_any o w
  have h1 := kn_eq o.s 1 (by omega) (by omega)
  have hB0 : Below w.heap.size w (w.alloc (.cells #[.string o.s, .int .i64 o.d, .int .i64 o.a, .int .i64 o.b, .int .u32 o.i, .int .i64 o.t] 60)) := (Below.refl _ _).alloc (Nat.le_refl _) _
  have hFB : ∀ w', Below w.heap.size w w' → FactsAt w' b N f := fun w' h => F.stays h
  have FM : ∀ {w' : World} {g : Fx}, FactsAt w' b N g → FactsAt w' b (N + 1) g := fun {w' g} G => ⟨let ⟨D, g1, g2⟩ := G.own; ⟨D, g1.mono (by omega), g2⟩, G.bd⟩
  have ob : -9223372036854775808 ≤ wrX o ∧ wrX o ≤ 9223372036854775807 := by unfold wrX; split; exact ⟨ok.d0, ok.d1⟩; omega
  have i0 := ok.i0
  have i1 := ok.i1
  have G0 : ∀ {w' : World}, Below w.heap.size w w' → w.grownBy w' (some b) := fun {w'} h => ⟨h.os, h.tape, h.output, h.size, fun k hk _ => h.block k hk⟩
  have HG : Hid (∀ {w' w'' : World}, Below w.heap.size w w' → w'.grownBy w'' (some b) → w.grownBy w'' (some b)) := fun {w' w''} h g => ⟨g.os.trans h.os, g.tape.trans h.tape, g.output.trans h.output, Nat.le_trans h.size g.size, fun k hk hn => (g.block k (Nat.lt_of_lt_of_le hk h.size) hn).trans (h.block k hk)⟩
  have FM : Hid (∀ {w' : World} {g : Fx}, FactsAt w' b N g → FactsAt w' b (N + 1) g) := FM
  have G0 : Hid (∀ {w' : World}, Below w.heap.size w w' → w.grownBy w' (some b)) := G0
  have hFB : Hid (∀ w', Below w.heap.size w w' → FactsAt w' b N f) := hFB
  have HL : Hid (learnF f o = if wrX o = 0 then f else putF f (wrX o) (if o.k = 1 then some o.i else none)) := rfl
  clear F ok
  unfold opV at *
  generalize learnF f o = g at *
  generalize wrX o = n at *
  by_cases hn : n = 0
  · have HL : Hid (g = f) := by show _ = _; rw [HL.out, if_pos hn]
    subst hn
    go_enter Tryd.func56, Tryd.ntmps56
    go_wp2_with fail
    refine (hwr _).mono ?_
    rintro e w3 ⟨rfl, hb3⟩
    have HB3 : Hid (Below w.heap.size w w3) := hB0.trans (hb3.mono (by simp))
    clear hwr hb3
    go_wp2
    go_end0
    exact ⟨rfl, by rw [HL.out]; exact FM.out (hFB.out _ HB3.out), G0.out HB3.out⟩
  · have hn' : (n == 0) = false := by simpa using hn
    have hk := key3 (n := n) ob.1 ob.2
    by_cases hk1 : o.k = 1
    · have h1' : (o.s.toList == [115, 101, 116]) = true := by rw [show (o.s.toList == [115, 101, 116]) = _ from h1]; simpa [Opx.k] using hk1
      have HL : Hid (g = putF f n (some o.i)) := by show _ = _; rw [HL.out, if_neg hn, if_pos hk1]
      clear h1 hk1 hn
      go_enter Tryd.func56, Tryd.ntmps56
      go_wp2_with fail
      refine (hwr _).mono ?_
      rintro e w3 ⟨rfl, hb3⟩
      obtain ⟨c, hf⟩ := bcellO hb3
      have hz3 : w.heap.size < w3.heap.size := by have := hb3.size; simp at this; omega
      have HB3 : Hid (Below w.heap.size w w3) := hB0.trans (hb3.mono (by simp))
      have HF3 : Hid (FactsAt w3 b N f) := hFB.out _ HB3.out
      obtain ⟨D, hD1, hD2⟩ := HF3.out.own
      have HD2 : Hid _ := hD2
      clear hwr hb3 hD2
      go_wp2_with (at_mapUpdate; refine wpList_mapUpdate_own _ rfl _ _ _ 109 rfl 3 23 law3 Tryd.underlying109 heldE b N D rfl hD1 hN _ _ _ rfl rfl hk (.held (.int .u32 o.i)) [] rfl ?_; intro w4 hown4 hg4)
      go_end0
      exact ⟨rfl, by rw [HL.out]; exact facts_put (w := w) HD2.out.1 HD2.out.2 hD1.isMap HF3.out.bd i0 i1 hown4, HG.out HB3.out hg4⟩
    · have h1' : (o.s.toList == [115, 101, 116]) = false := by rw [show (o.s.toList == [115, 101, 116]) = _ from h1]; simpa [Opx.k] using hk1
      have HL : Hid (g = putF f n none) := by show _ = _; rw [HL.out, if_neg hn, if_neg hk1]
      clear h1 hk1 hn
      go_enter Tryd.func56, Tryd.ntmps56
      go_wp2_with fail
      refine (hwr _).mono ?_
      rintro e w3 ⟨rfl, hb3⟩
      obtain ⟨c, hf⟩ := bcellO hb3
      have hz3 : w.heap.size < w3.heap.size := by have := hb3.size; simp at this; omega
      have HB3 : Hid (Below w.heap.size w w3) := hB0.trans (hb3.mono (by simp))
      have HF3 : Hid (FactsAt w3 b N f) := hFB.out _ HB3.out
      obtain ⟨D, hD1, hD2⟩ := HF3.out.own
      have HD2 : Hid _ := hD2
      clear hwr hb3 hD2
      go_wp2_with (at_delete; refine wpList_delete_own _ rfl _ _ 109 3 rfl 23 law3 Tryd.underlying109 heldE b N D rfl hD1 _ _ rfl hk ?_; intro w4 hown4 ht4)
      go_end0
      exact ⟨rfl, by rw [HL.out]; exact FM.out (facts_del HD2.out.1 HD2.out.2 HF3.out.bd hown4), HG.out HB3.out ht4.grown⟩
end Go.Proofs.YtcccaejjhodnkaaDoor
