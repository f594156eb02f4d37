/-
  The word of a part, all places known.
-/
import Derived.BigQuiet
import Derived.Test.YtccnliihdhnckaaGreatDoorQAdd
namespace Go.Proofs.YtccnliihdhnckaaGreatDoor
open Go.RowKit Go.Shelf Go.Joins Go.Maps
open Num Tab Fm Txt
set_option linter.unusedVariables false
/-- the Imm by which a branch goes to its name, or an error's number -/
def reachP (org : Int) (g : List UInt8 → Option Int) (n : Nat) (k : Nat) (nm : List UInt8) : Except Nat Int :=
  match g nm with
  | none => .error 5
  | some to =>
    if k = 29 ∨ k = 30 then
      if (org + 4 * to) % 4294967296 / 268435456 = (org + 4 * (n + 1)) % 4294967296 / 268435456 then .ok ((org + 4 * to) % 4294967296 / 4 % 67108864) else .error 9
    else .ok ((to - (n + 1)) % 65536)
def encP (k : Nat) (s t d m : Int) : Except Nat Int := if okB (sh k) s t d m then .ok (enc k s t d m) else .error 1
def finP (org : Int) (g : List UInt8 → Option Int) (n : Nat) (p : Pt) : Except Nat Int :=
  if p.k = 0 then .ok p.word else
  if p.name = [] then encP p.k p.f.s p.f.t p.f.d p.f.m else
  match reachP org g n p.k p.name with
  | .error j => .error j
  | .ok m => encP p.k p.f.s p.f.t p.f.d m
def finV (E : Nat → Addr) : Except Nat Int → Value
  | .ok v => .tuple #[.int .u32 v, .nilIface]
  | .error j => .tuple #[.int .u32 0, .iface 210 (.pointer (some (E j)))]
theorem finV_enc (E : Nat → Addr) (k : Nat) (s t d m : Int) : finV E (encP k s t d m) = encR (E 1) k s t d m := by
  unfold encP encR; split <;> rfl
theorem ptC_len (x : Pt) : (ptC x).length = 8 := rfl
theorem flat8 : ∀ (l : List Pt) (n : Nat) (x : Pt) (j : Nat), l[n]? = some x → j < 8 → (l.flatMap ptC)[n * 8 + j]? = (ptC x)[j]?
  | [], n, x, j, h, hj => by simp at h
  | y :: l, 0, x, j, h, hj => by
    simp at h; subst h
    rw [List.flatMap_cons, List.getElem?_append_left (by rw [ptC_len]; omega)]; simp
  | y :: l, n + 1, x, j, h, hj => by
    simp at h
    rw [List.flatMap_cons, List.getElem?_append_right (by rw [ptC_len]; omega), ptC_len, show (n + 1) * 8 + j - 8 = n * 8 + j by omega]
    exact flat8 l n x j h hj
theorem part_cells {w : World} {base b cap n : Nat} {l : List Pt} (h : w.ownsRow base 93 8 (.slice (some ⟨b, 0, none⟩) n cap) n (l.flatMap ptC)) {j : Nat} {x : Pt} (hx : l[j]? = some x) :
    w.cell? ⟨b, j * 8, none⟩ = some (.int .i64 x.line) ∧ w.cell? ⟨b, j * 8 + 1, none⟩ = some (.int .u32 x.word) ∧ w.cell? ⟨b, j * 8 + 2, none⟩ = some (.int .i64 x.k) ∧ w.cell? ⟨b, j * 8 + 3, none⟩ = some (.int .i64 x.f.s) ∧ w.cell? ⟨b, j * 8 + 4, none⟩ = some (.int .i64 x.f.t) ∧ w.cell? ⟨b, j * 8 + 5, none⟩ = some (.int .i64 x.f.d) ∧ w.cell? ⟨b, j * 8 + 6, none⟩ = some (.int .u32 x.f.m) ∧ w.cell? ⟨b, j * 8 + 7, none⟩ = some (.string ⟨x.name.toArray⟩) := by
  have f : ∀ i u, i < 8 → (ptC x)[i]? = some u → w.cell? ⟨b, j * 8 + i, none⟩ = some u := fun i u hi hu => by
    have := h.cells (g := b) rfl (j * 8 + i) u (by rw [flat8 l j x i hx hi]; exact hu)
    rwa [add_lit] at this
  exact ⟨f 0 _ (by omega) rfl, f 1 _ (by omega) rfl, f 2 _ (by omega) rfl, f 3 _ (by omega) rfl, f 4 _ (by omega) rfl, f 5 _ (by omega) rfl, f 6 _ (by omega) rfl, f 7 _ (by omega) rfl⟩
/-- an instruction that is read is within an int's bounds -/
theorem ok_rng {k : Nat} {f : F} (h : okF k f) (hk : k < 54) : (-9223372036854775808 ≤ f.s ∧ f.s ≤ 9223372036854775807) ∧ (-9223372036854775808 ≤ f.t ∧ f.t ≤ 9223372036854775807) ∧ (-9223372036854775808 ≤ f.d ∧ f.d ≤ 9223372036854775807) ∧ 0 ≤ f.m ∧ f.m < 4294967296 := by
  obtain ⟨a, b, c, d, e⟩ := ok_parts k f h
  have W : ∀ (n : Int) (b : Bool), well n b = true → -9223372036854775808 ≤ n ∧ n ≤ 9223372036854775807 := by
    intro n b h
    unfold well at h
    simp only [Bool.or_eq_true, Bool.and_eq_true, decide_eq_true_eq] at h
    omega
  have htop : ∀ k, k < 54 → top (sh k) ≤ 67108863 := by decide
  have := htop k hk
  exact ⟨W _ _ a, W _ _ b, W _ _ c, e, by omega⟩
/-- a part as a value -/
abbrev ptV (ln wd k s t d m : Int) (nm : List UInt8) : Value := .agg #[.int .i64 ln, .int .u32 wd, .int .i64 k, .int .i64 s, .int .i64 t, .int .i64 d, .int .u32 m, .string ⟨nm.toArray⟩]
section
variable {w : World} {sb lb : Nat} {org : Int}
set_option maxRecDepth 100000 in
set_option maxHeartbeats 1000000 in
theorem reach_any (E : Nat → Addr) (EE : Er9 E w) (c0 : w.cell? ⟨sb, 0, none⟩ = some (.int .u32 org)) (c1 : w.cell? ⟨sb, 1, none⟩ = some (.map (some lb))) (o0 : 0 ≤ org) (o1 : org < 4294967296) {N : Nat} {g : List UInt8 → Option Int} (L : LabelsAt w lb N g) (n : Nat) (hn : n ≤ 10000) (hg : ∀ s v, g s = some v → 0 ≤ v ∧ v ≤ 10000) (ln wd : Int) (k : Nat) (s t d m : Int) (nm : List UInt8) (hl : nm.length ≤ 1000) :
    Calls Tryz.prog 76 #[.pointer (some ⟨sb, 0, none⟩), .int .i64 n, ptV ln wd k s t d m nm] w fun e w' => e = .returned (finV E (reachP org g n k nm)) ∧ Below w.heap.size w w' := by
  have hk := key9 nm hl
  have e5 := EE.c5
  have e9 := EE.c9
  have zs := World.block_lt_of_cell? _ _ c0
  have z9 := World.block_lt_of_cell? _ _ e9
  have z5 := World.block_lt_of_cell? _ _ e5
  have hA : Below w.heap.size w (w.alloc (.cells #[.int .i64 ln, .int .u32 wd, .int .i64 k, .int .i64 s, .int .i64 t, .int .i64 d, .int .u32 m, .string ⟨nm.toArray⟩] 93)) := (Below.refl _ _).alloc (Nat.le_refl _) _
  have HA : Hid (Below w.heap.size w (w.alloc (.cells #[.int .i64 ln, .int .u32 wd, .int .i64 k, .int .i64 s, .int .i64 t, .int .i64 d, .int .u32 m, .string ⟨nm.toArray⟩] 93))) := hA
  have hlook : ∀ q, (Instr.lookup 84 (.map (some lb)) (.string ⟨nm.toArray⟩) true).run Tryz.prog ((w.alloc (.cells #[.int .i64 ln, .int .u32 wd, .int .i64 k, .int .i64 s, .int .i64 t, .int .i64 d, .int .u32 m, .string ⟨nm.toArray⟩] 93)).drewN q) = .ok (.tuple #[.int .i64 ((g nm).getD 0), .bool (g nm).isSome]) ((w.alloc (.cells #[.int .i64 ln, .int .u32 wd, .int .i64 k, .int .i64 s, .int .i64 t, .int .i64 d, .int .u32 m, .string ⟨nm.toArray⟩] 93)).drewN q) := fun q => (L.stays (below_drewN hA q)).look nm hk
  have hn' : (n : Int) ≤ 10000 := by omega
  have hk0 : (0 : Int) ≤ k := by omega
  have hpl : ∀ (W : World) (x : Int), 0 ≤ x → x ≤ 1000000 → W.cell? ⟨sb, 0, none⟩ = some (.int .u32 org) → Calls Tryz.prog 104 #[.pointer (some ⟨sb, 0, none⟩), .int .i64 x] W fun e w' => e = .returned (.int .u32 ((org + 4 * x) % 4294967296)) ∧ w' = W := fun W x x0 x1 h => place_any sb org x o0 o1 x0 x1 W h
  have d2 : (w.alloc (.cells #[.int .i64 ln, .int .u32 wd, .int .i64 k, .int .i64 s, .int .i64 t, .int .i64 d, .int .u32 m, .string ⟨nm.toArray⟩] 93)).cell? ⟨w.heap.size, 2, none⟩ = some (.int .i64 k) := by simp
  have d7 : (w.alloc (.cells #[.int .i64 ln, .int .u32 wd, .int .i64 k, .int .i64 s, .int .i64 t, .int .i64 d, .int .u32 m, .string ⟨nm.toArray⟩] 93)).cell? ⟨w.heap.size, 7, none⟩ = some (.string ⟨nm.toArray⟩) := by simp
  have f0 := cell_stays hA (Nat.le_refl _) c0
  have f1 := cell_stays hA (Nat.le_refl _) c1
  have f5 := cell_stays hA (Nat.le_refl _) e5
  have f9 := cell_stays hA (Nat.le_refl _) e9
  clear L hA EE c0 c1 e5 e9
  cases hgn : g nm with
  | none =>
    have hr : reachP org g n k nm = .error 5 := by unfold reachP; rw [hgn]
    rw [hr]
    simp only [hgn, Option.getD_none, Option.isSome_none] at hlook
    show Calls _ _ _ _ fun e w' => e = .returned (.tuple #[.int .u32 0, .iface 210 (.pointer (some (E 5)))]) ∧ Below w.heap.size w w'
    clear hr hgn
    go_enter Tryz.func76, Tryz.ntmps76
    go_wp2_with fail
    generalize w.alloc (.cells #[.int .i64 ln, .int .u32 wd, .int .i64 k, .int .i64 s, .int .i64 t, .int .i64 d, .int .u32 m, .string ⟨nm.toArray⟩] 93) = W0 at *
    go_quiet (fail)
    go_wp2_with fail
    go_region
    all_goals
      go_wp2
      go_ret2
      exact ⟨rfl, (below_drewN HA.out _).drew⟩
  | some to =>
    obtain ⟨t0, t1⟩ := hg _ _ hgn
    simp only [hgn, Option.getD_some, Option.isSome_some] at hlook
    clear hg
    by_cases hj : k = 29 ∨ k = 30
    · have hp1 : (org + 4 * to) % 4294967296 < 4294967296 := by omega
      have hp2 : (0 : Int) ≤ (org + 4 * to) % 4294967296 := by omega
      have hq1 : (org + 4 * ((n : Int) + 1)) % 4294967296 < 4294967296 := by omega
      have hq2 : (0 : Int) ≤ (org + 4 * ((n : Int) + 1)) % 4294967296 := by omega
      have hpl1 := fun W => hpl W to t0 (by omega)
      have hpl2 := fun W => hpl W ((n : Int) + 1) (by omega) (by omega)
      clear hpl
      have HR : Hid (reachP org g n k nm = if (org + 4 * to) % 4294967296 / 268435456 = (org + 4 * ((n : Int) + 1)) % 4294967296 / 268435456 then .ok ((org + 4 * to) % 4294967296 / 4 % 67108864) else .error 9) := by
        show _ = _
        unfold reachP; rw [hgn]; simp only; rw [if_pos hj]
      generalize hR : finV E (reachP org g n k nm) = R
      have HRR : Hid (finV E (reachP org g n k nm) = R) := hR
      clear hR hgn
      generalize (org + 4 * to) % 4294967296 = p1 at *
      generalize (org + 4 * ((n : Int) + 1)) % 4294967296 = p2 at *
      have hjj : (k : Int) = 29 ∨ (k : Int) = 30 := by omega
      generalize (k : Int) = ki at *
      rcases hjj with rfl | rfl
      all_goals
        go_enter Tryz.func76, Tryz.ntmps76
        go_wp2_with fail
        generalize w.alloc (.cells #[.int .i64 ln, .int .u32 wd, .int .i64 _, .int .i64 s, .int .i64 t, .int .i64 d, .int .u32 m, .string ⟨nm.toArray⟩] 93) = W0 at *
        go_quiet (fail)
        have f0' : (W0.drewN nq).cell? ⟨sb, 0, none⟩ = some (.int .u32 org) := f0
        have f9' : (W0.drewN nq).cell? ⟨11, 0, none⟩ = some (.iface 210 (.pointer (some (E 9)))) := f9
        have HA' : Hid (Below w.heap.size w (W0.drewN nq)) := below_drewN HA.out _
        go_upto_region 6 with fail
        generalize W0.drewN nq = W1 at *
        go_wp2_with fail
        refine (hpl1 _ f0').mono ?_
        rintro e w' ⟨rfl, rfl⟩
        go_wp2_with fail
        refine (hpl2 _ f0').mono ?_
        rintro e w' ⟨rfl, rfl⟩
        clear hpl1 hpl2
        by_cases hne : p1 / 268435456 = p2 / 268435456
        · have HF : Hid (R = .tuple #[.int .u32 (p1 / 4 % 67108864), .nilIface]) := by
            show R = _
            rw [← HRR.out, HR.out, if_pos hne]; rfl
          go_wp2
          go_ret2
          exact ⟨by rw [HF.out]; rfl, HA'.out⟩
        · have HF : Hid (R = .tuple #[.int .u32 0, .iface 210 (.pointer (some (E 9)))]) := by
            show R = _
            rw [← HRR.out, HR.out, if_neg hne]; rfl
          go_wp2_with fail
          go_region
          all_goals
            go_wp2
            go_ret2
            exact ⟨by rw [HF.out]; rfl, HA'.out.drew⟩
    · have h29 : ((k : Int) != 29) = true := by rw [bne_iff_ne]; omega
      have h30 : ((k : Int) != 30) = true := by rw [bne_iff_ne]; omega
      have hr : reachP org g n k nm = .ok ((to - (n + 1)) % 65536) := by unfold reachP; rw [hgn]; simp only; rw [if_neg hj]
      rw [hr]
      show Calls _ _ _ _ fun e w' => e = .returned (.tuple #[.int .u32 ((to - ((n : Int) + 1)) % 65536), .nilIface]) ∧ Below w.heap.size w w'
      clear hr hgn hj hpl
      go_enter Tryz.func76, Tryz.ntmps76
      go_wp2_with fail
      generalize w.alloc (.cells #[.int .i64 ln, .int .u32 wd, .int .i64 k, .int .i64 s, .int .i64 t, .int .i64 d, .int .u32 m, .string ⟨nm.toArray⟩] 93) = W0 at *
      go_quiet (fail)
      go_wp2
      go_ret2
      refine ⟨?_, below_drewN HA.out _⟩
      simp
      have hw : IntKind.u16.wrap (to - ((n : Int) + 1)) = (to - ((n : Int) + 1)) % 65536 := by simp [IntKind.wrap, IntKind.bits, IntKind.signed]
      rw [hw]
      omega
set_option maxRecDepth 100000 in
set_option maxHeartbeats 2000000 in
theorem finish_any {base : Nat} {ps : List Pt} {vp : Value} (E : Nat → Addr) (EE : Er9 E w) (T : Tb (E 3) (E 1) w) (S : SrcIs w base sb lb org ps vp) (o0 : 0 ≤ org) (o1 : org < 4294967296) {N : Nat} {g : List UInt8 → Option Int} (L : LabelsAt w lb N g) (hg : ∀ s v, g s = some v → 0 ≤ v ∧ v ≤ 10000) (n : Nat) (hn : n ≤ 10000) (x : Pt) (hx : ps[n]? = some x) (hps : ps.length ≤ 10000) (hk : x.k < 54) (hok : x.k = 0 ∨ okF x.k x.f) (hnm : x.name.length ≤ 1000) :
    Calls Tryz.prog 44 #[.pointer (some ⟨sb, 0, none⟩), .int .i64 n] w fun e w' => e = .returned (finV E (finP org g n x)) ∧ Below w.heap.size w w' := by
  have hlen : n < ps.length := by
    rcases Nat.lt_or_ge n ps.length with h | h
    · exact h
    · rw [List.getElem?_eq_none h] at hx; cases hx
  obtain ⟨b, cap, hv⟩ : ∃ b cap, vp = .slice (some ⟨b, 0, none⟩) ps.length cap := by
    rcases S.rp.2 with ⟨e, h⟩ | ⟨b, cap, cur, e, _⟩
    · omega
    · exact ⟨b, cap, e⟩
  subst hv
  obtain ⟨p0, p1, p2, p3, p4, p5, p6, p7⟩ := part_cells S.rp hx
  have c2 := S.c2
  have zb := World.block_lt_of_cell? _ _ p0
  have zs := World.block_lt_of_cell? _ _ c2
  have hA : Below w.heap.size w (w.alloc (.cells #[.int .i64 x.line, .int .u32 x.word, .int .i64 x.k, .int .i64 x.f.s, .int .i64 x.f.t, .int .i64 x.f.d, .int .u32 x.f.m, .string ⟨x.name.toArray⟩] 93)) := (Below.refl _ _).alloc (Nat.le_refl _) _
  have hlt' : (n : Int) < ps.length := by omega
  have hn' : (n : Int) ≤ 10000 := by omega
  have hps' : (ps.length : Int) ≤ 10000 := by omega
  obtain ⟨ln, wd, k, ⟨s, t, d, m⟩, nm⟩ := x
  simp only at *
  have d0 : (w.alloc (.cells #[.int .i64 ln, .int .u32 wd, .int .i64 k, .int .i64 s, .int .i64 t, .int .i64 d, .int .u32 m, .string ⟨nm.toArray⟩] 93)).cell? ⟨w.heap.size, 0, none⟩ = some (.int .i64 ln) := by simp
  have d1 : (w.alloc (.cells #[.int .i64 ln, .int .u32 wd, .int .i64 k, .int .i64 s, .int .i64 t, .int .i64 d, .int .u32 m, .string ⟨nm.toArray⟩] 93)).cell? ⟨w.heap.size, 1, none⟩ = some (.int .u32 wd) := by simp
  have d2 : (w.alloc (.cells #[.int .i64 ln, .int .u32 wd, .int .i64 k, .int .i64 s, .int .i64 t, .int .i64 d, .int .u32 m, .string ⟨nm.toArray⟩] 93)).cell? ⟨w.heap.size, 2, none⟩ = some (.int .i64 k) := by simp
  have d3 : (w.alloc (.cells #[.int .i64 ln, .int .u32 wd, .int .i64 k, .int .i64 s, .int .i64 t, .int .i64 d, .int .u32 m, .string ⟨nm.toArray⟩] 93)).cell? ⟨w.heap.size, 3, none⟩ = some (.int .i64 s) := by simp
  have d4 : (w.alloc (.cells #[.int .i64 ln, .int .u32 wd, .int .i64 k, .int .i64 s, .int .i64 t, .int .i64 d, .int .u32 m, .string ⟨nm.toArray⟩] 93)).cell? ⟨w.heap.size, 4, none⟩ = some (.int .i64 t) := by simp
  have d5 : (w.alloc (.cells #[.int .i64 ln, .int .u32 wd, .int .i64 k, .int .i64 s, .int .i64 t, .int .i64 d, .int .u32 m, .string ⟨nm.toArray⟩] 93)).cell? ⟨w.heap.size, 5, none⟩ = some (.int .i64 d) := by simp
  have d6 : (w.alloc (.cells #[.int .i64 ln, .int .u32 wd, .int .i64 k, .int .i64 s, .int .i64 t, .int .i64 d, .int .u32 m, .string ⟨nm.toArray⟩] 93)).cell? ⟨w.heap.size, 6, none⟩ = some (.int .u32 m) := by simp
  have d7 : (w.alloc (.cells #[.int .i64 ln, .int .u32 wd, .int .i64 k, .int .i64 s, .int .i64 t, .int .i64 d, .int .u32 m, .string ⟨nm.toArray⟩] 93)).cell? ⟨w.heap.size, 7, none⟩ = some (.string ⟨nm.toArray⟩) := by simp
  have df : ∀ j, (w.alloc (.cells #[.int .i64 ln, .int .u32 wd, .int .i64 k, .int .i64 s, .int .i64 t, .int .i64 d, .int .u32 m, .string ⟨nm.toArray⟩] 93)).frozen? ⟨w.heap.size, j, none⟩ = false := fun j => by simp
  have HE : Hid (Er9 E w) := EE
  have HT : Hid (Tb (E 3) (E 1) w) := T
  have HS : Hid (SrcIs w base sb lb org ps (.slice (some ⟨b, 0, none⟩) ps.length cap)) := S
  have HL : Hid (LabelsAt w lb N g) := L
  have HG : Hid (∀ s v, g s = some v → 0 ≤ v ∧ v ≤ 10000) := hg
  have HA : Hid (Below w.heap.size w (w.alloc (.cells #[.int .i64 ln, .int .u32 wd, .int .i64 k, .int .i64 s, .int .i64 t, .int .i64 d, .int .u32 m, .string ⟨nm.toArray⟩] 93))) := hA
  clear EE T S L hA hx hg
  by_cases hk0 : k = 0
  · subst hk0
    have hf : finP org g n ⟨ln, wd, 0, ⟨s, t, d, m⟩, nm⟩ = .ok wd := by unfold finP; rw [if_pos rfl]
    rw [hf]
    show Calls _ _ _ _ fun e w' => e = .returned (.tuple #[.int .u32 wd, .nilIface]) ∧ Below w.heap.size w w'
    go_enter Tryz.func44, Tryz.ntmps44
    go_wp2
    go_ret2
    exact ⟨rfl, HA.out⟩
  have okf : okF k ⟨s, t, d, m⟩ := hok.resolve_left hk0
  have hk1 : ¬ (k : Int) = 0 := by omega
  obtain ⟨⟨s0, s1⟩, ⟨t0, t1⟩, ⟨e0, e1⟩, m0, m1⟩ := ok_rng okf hk
  simp only at s0 s1 t0 t1 e0 e1 m0 m1
  by_cases hnn : nm = []
  · subst hnn
    have hf : finP org g n ⟨ln, wd, k, ⟨s, t, d, m⟩, []⟩ = encP k s t d m := by unfold finP; rw [if_neg hk0, if_pos rfl]
    rw [hf, finV_enc]
    have hen := fun W (T : Tb (E 3) (E 1) W) => encode_any (E 3) (E 1) k (by omega) hk s t d m m0 m1 s0 s1 t0 t1 e0 e1 W T
    clear hok okf hf
    obtain ⟨ra, rb, hR⟩ : ∃ a b, encR (E 1) k s t d m = .tuple #[.int .u32 a, b] := by unfold encR; split <;> exact ⟨_, _, rfl⟩
    rw [hR] at hen ⊢
    clear hR
    go_enter Tryz.func44, Tryz.ntmps44
    go_wp2_with fail
    refine (hen _ (HT.out.stays HA.out (Nat.le_refl _))).mono ?_
    rintro e w1 ⟨rfl, hb1⟩
    have HB : Hid (Below w.heap.size w w1) := HA.out.trans (hb1.mono HA.out.size)
    clear hb1 hen
    go_wp2
    go_ret2
    exact ⟨rfl, HB.out⟩
  · have hne : (nm == []) = false := by simpa using hnn
    have hra := fun (W : World) (h : Below w.heap.size w W) => reach_any (w := W) E (HE.out.stays h) (HS.out.stays h).c0 (HS.out.stays h).c1 o0 o1 (HL.out.stays h) n hn HG.out ln wd k s t d m nm hnm
    have hf : finP org g n ⟨ln, wd, k, ⟨s, t, d, m⟩, nm⟩ = (match reachP org g n k nm with | .error j => .error j | .ok m => encP k s t d m) := by unfold finP; rw [if_neg hk0, if_neg hnn]
    cases hr : reachP org g n k nm with
    | error j =>
      rw [hr] at hf hra
      rw [hf]
      show Calls _ _ _ _ fun e w' => e = .returned (.tuple #[.int .u32 0, .iface 210 (.pointer (some (E j)))]) ∧ Below w.heap.size w w'
      simp only [finV] at hra
      go_enter Tryz.func44, Tryz.ntmps44
      go_wp2_with fail
      refine (hra _ HA.out).mono ?_
      rintro e w1 ⟨rfl, hb1⟩
      have HB : Hid (Below w.heap.size w w1) := HA.out.trans (hb1.mono HA.out.size)
      clear hb1 hra
      go_wp2
      go_ret2
      exact ⟨rfl, HB.out⟩
    | ok m' =>
      rw [hr] at hf hra
      simp only at hf
      rw [hf, finV_enc]
      simp only [finV] at hra
      have hm : 0 ≤ m' ∧ m' < 4294967296 := by
        unfold reachP at hr
        split at hr
        · cases hr
        · split at hr
          · split at hr
            · injection hr with hr; omega
            · cases hr
          · injection hr with hr; omega
      have hen := fun W (T : Tb (E 3) (E 1) W) => encode_any (E 3) (E 1) k (by omega) hk s t d m' hm.1 hm.2 s0 s1 t0 t1 e0 e1 W T
      clear hok okf hf hr
      obtain ⟨ra, rb, hR⟩ : ∃ a b, encR (E 1) k s t d m' = .tuple #[.int .u32 a, b] := by unfold encR; split <;> exact ⟨_, _, rfl⟩
      rw [hR] at hen ⊢
      clear hR
      have hb0 : Below w.heap.size w (w.alloc (.cells #[.int .i64 ln, .int .u32 wd, .int .i64 k, .int .i64 s, .int .i64 t, .int .i64 d, .int .u32 m, .string ⟨nm.toArray⟩] 93)) := HA.out
      have zn : w.heap.size < (w.alloc (.cells #[.int .i64 ln, .int .u32 wd, .int .i64 k, .int .i64 s, .int .i64 t, .int .i64 d, .int .u32 m, .string ⟨nm.toArray⟩] 93)).heap.size := by simp
      go_enter Tryz.func44, Tryz.ntmps44
      go_wp2_with fail
      refine (hra _ HA.out).mono ?_
      generalize w.alloc (.cells #[.int .i64 ln, .int .u32 wd, .int .i64 k, .int .i64 s, .int .i64 t, .int .i64 d, .int .u32 m, .string ⟨nm.toArray⟩] 93) = W0 at *
      rintro e w1 ⟨rfl, hb1⟩
      have g2 := cell_stays hb1 (Nat.le_refl _) d2
      have g3 := cell_stays hb1 (Nat.le_refl _) d3
      have g4 := cell_stays hb1 (Nat.le_refl _) d4
      have g5 := cell_stays hb1 (Nat.le_refl _) d5
      have g6 := cell_stays hb1 (Nat.le_refl _) d6
      have gf : w1.frozen? ⟨w.heap.size, 6, none⟩ = false := (World.frozen?_of_block (a := ⟨w.heap.size, 6, none⟩) (hb1.block _ zn)).trans (df 6)
      have HB1 : Hid (Below w.heap.size w w1) := HA.out.trans (hb1.mono HA.out.size)
      have HB2 : Hid (Below w.heap.size w (w1.setCell ⟨w.heap.size, 6, none⟩ (.int .u32 m'))) := HB1.out.setCell (Nat.le_refl _) _
      clear hb1 hra d0 d1 d2 d3 d4 d5 d6 d7 df hb0 p0 p1 p2 p3 p4 p5 p6 p7
      go_wp2_with fail
      refine (hen _ (HT.out.stays HB2.out (Nat.le_refl _))).mono ?_
      rintro e w2 ⟨rfl, hb2⟩
      have HB : Hid (Below w.heap.size w w2) := HB2.out.trans (hb2.mono HB2.out.size)
      clear hb2 hen
      go_wp2
      go_ret2
      exact ⟨rfl, HB.out⟩
end
end Go.Proofs.YtccnliihdhnckaaGreatDoor
