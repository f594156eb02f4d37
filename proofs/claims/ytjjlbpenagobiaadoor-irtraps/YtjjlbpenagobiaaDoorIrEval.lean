/-
  Package ir: Eval.
-/
import Derived.Test.YtjjlbpenagobiaaDoorIrRun
import Derived.Laws.ResultCell
namespace Go.Proofs.YtjjlbpenagobiaaDoor
open Go.RowKit Go.Maps
open Num
set_option linter.unusedVariables false
/-- a code that is well: what that says -/
structure CodeOk (many : Int) (l : List Opx) : Prop where
  m1 : 1 ≤ many
  m2 : many ≤ 24
  len : l.length ≤ 200
  st : strs l ≤ 8
  ops : ∀ o ∈ l, opE o many = 0
  ne : l ≠ []
  last : ∃ o, l.getLast? = some o ∧ outB o = true
theorem opsF_fine {many : Int} : ∀ {l : List Opx} {ah : Int} {n : Nat}, (opsF many ah n l).1 = 0 → ∀ o ∈ l, opE o many = 0
  | [], _, _, _, o, ho => by cases ho
  | x :: l, ah, n, h, o, ho => by
    rw [opsF_cons] at h
    by_cases hx : opF x many ah l.isEmpty = 0
    · rw [if_neg (by simpa using hx)] at h
      have e0 : opE x many = 0 := by
        unfold opF at hx
        by_cases he : opE x many = 0
        · exact he
        · rw [if_pos he] at hx; exact absurd hx he
      rcases List.mem_cons.1 ho with rfl | ho
      · exact e0
      · exact opsF_fine h o ho
    · rw [if_pos hx] at h; exact absurd h hx
theorem opsF_at {many : Int} : ∀ {l : List Opx} {ah : Int} {n : Nat}, (opsF many ah n l).1 = 0 → opsF many ah n l = (0, -1)
  | [], _, _, _ => rfl
  | x :: l, ah, n, h => by
    rw [opsF_cons] at h ⊢
    by_cases hx : opF x many ah l.isEmpty = 0
    · rw [if_neg (by simpa using hx)] at h ⊢; exact opsF_at h
    · rw [if_pos hx] at h; exact absurd h hx
theorem code_fine {many : Int} {l : List Opx} (h : (codeF many l).1 = 0) : CodeOk many l ∧ codeF many l = (0, -1) := by
  unfold codeF at h ⊢
  by_cases h1 : many < 1 ∨ 24 < many
  · rw [if_pos h1] at h; cases h
  rw [if_neg h1] at h ⊢
  by_cases h2 : 200 < l.length ∨ 8 < strs l
  · rw [if_pos h2] at h; cases h
  rw [if_neg h2] at h ⊢
  by_cases h3 : l = [] ∨ (l.getLast?.map outB).getD false = false
  · rw [if_pos h3] at h; cases h
  rw [if_neg h3] at h ⊢
  have h3' : l ≠ [] ∧ (l.getLast?.map outB).getD false = true := by simpa using h3
  refine ⟨⟨by omega, by omega, by omega, by omega, opsF_fine h, h3'.1, ?_⟩, opsF_at h⟩
  cases hl : l.getLast? with
  | none => rw [hl] at h3'; simp at h3'
  | some o => rw [hl] at h3'; exact ⟨o, rfl, by simpa using h3'.2⟩
theorem runX_out {m : Nat → Int} {wt : Int → Bool} : ∀ {l : List Opx} {M : Mc}, (∃ o, l.getLast? = some o ∧ outB o = true) → runX m wt l M ≠ .fell
  | [], _, ⟨o, h, _⟩ => by simp at h
  | [x], M, ⟨o, h, ho⟩ => by
    simp at h; subst h
    unfold outB at ho
    rw [runX_cons]
    simp only [decide_eq_true_eq] at ho
    rcases ho with ho | ho
    · rw [show opR m wt M x = .leave x.i by unfold opR; simp [ho]]; intro h; cases h
    · rw [show opR m wt M x = .leave (M.x x.a.toNat) by unfold opR; simp [ho]]; intro h; cases h
  | x :: y :: l, M, h => by
    rw [runX_cons]
    cases opR m wt M x with
    | on M' => exact runX_out (l := y :: l) (by simpa using h)
    | trap => intro h; cases h
    | leave to => intro h; cases h
theorem results_cell1 {fn : Func} {p u : Tmp} {ty : TypeId} {A : Addr} {x : Value} (h : fn.results = #[.cell p ty, .tmp u]) (tmps : Array Value) (P : Program) (w : World) (hp : tmps.getD p undef = .pointer (some A)) (hl : (loadVar ty A).run P w = .ok x w) :
    (results fn tmps).run P w = .ok (.tuple #[x, tmps.getD u undef]) w := by
  rw [results_cell_tmp h, hp]
  simp [asAddr, Result.andThen, hl]
theorem cerr_some {pe : Nat → Addr} {w : World} {f : Int × Int} {x : Value} (h : CErr pe w f x) (hf : f.1 ≠ 0) : ∃ t v, x = .iface t v := by
  rcases h with ⟨_, rfl⟩ | ⟨_, _, fb, rfl, _⟩
  · exact ⟨_, _, erV_some hf⟩
  · exact ⟨_, _, rfl⟩
theorem cerr_none {pe : Nat → Addr} {w : World} {x : Value} (h : CErr pe w (0, -1) x) : x = .nilIface := by
  rcases h with ⟨_, rfl⟩ | ⟨h, _⟩
  · rfl
  · exact absurd h (by decide)
theorem CErr.stays {pe : Nat → Addr} {w w' : World} {f : Int × Int} {x : Value} {B : Nat} (h : CErr pe w f x) (hb : ∀ (a : Addr) (v : Value), w.cell? a = some v → a.block ≠ B → w'.cell? a = some v) (hB : ∀ fb : Nat, w.cell? ⟨fb, 0, none⟩ = some (.int .i64 f.2) → fb ≠ B) : CErr pe w' f x := by
  rcases h with h | ⟨h1, h2, fb, h3, h4, h5⟩
  · exact .inl h
  · exact .inr ⟨h1, h2, fb, h3, hb _ _ h4 (hB fb h4), hb _ _ h5 (hB fb h4)⟩
section
variable {w : World} {sb bp bw bh N stb : Nat} {m : Nat → Int} {wt ht : Int → Bool} {S : St}
set_option maxRecDepth 100000 in
set_option maxHeartbeats 1000000 in
theorem eval_nil (pe : Nat → Addr) (E : Eg pe w) (c : Value) (pc many : Int) (v : Value) (r : Value) :
    Calls Tryd.prog 10 #[.agg #[.int .u32 pc, .int .i64 many, v], .pointer none, r] w fun e w' => e = .returned (.tuple #[.agg #[.bool false, .int .i64 0], .iface 146 (.pointer (some (pe 3)))]) ∧ Below w.heap.size w w' := by
  obtain ⟨z2, z3, z4, z8, z9, z10⟩ := E.size
  have e3 := E.e3
  clear E
  go_enter Tryd.func10, Tryd.ntmps10
  go_upto_region 2 with fail
  have c0 : ((w.alloc (.cells #[.int .u32 pc, .int .i64 many, v] 35)).alloc (.cells #[.bool false, .int .i64 0] 40)).cell? ⟨0, 0, none⟩ = _ := (World.grownBy_alloc _ _ none).cell ((World.grownBy_alloc w _ none).cell e3 (by simp)) (by simp)
  have hB : Below w.heap.size w ((w.alloc (.cells #[.int .u32 pc, .int .i64 many, v] 35)).alloc (.cells #[.bool false, .int .i64 0] 40)) := ((Below.refl _ _).alloc (Nat.le_refl _) _).alloc (by simp) _
  have d0 : ((w.alloc (.cells #[.int .u32 pc, .int .i64 many, v] 35)).alloc (.cells #[.bool false, .int .i64 0] 40)).cell? ⟨w.heap.size + 1, 0, none⟩ = some (.bool false) := by simp
  have d1 : ((w.alloc (.cells #[.int .u32 pc, .int .i64 many, v] 35)).alloc (.cells #[.bool false, .int .i64 0] 40)).cell? ⟨w.heap.size + 1, 1, none⟩ = some (.int .i64 0) := by simp
  have f0 : ((w.alloc (.cells #[.int .u32 pc, .int .i64 many, v] 35)).alloc (.cells #[.bool false, .int .i64 0] 40)).frozen? ⟨w.heap.size + 1, 0, none⟩ = false := by simp
  have f1 : ((w.alloc (.cells #[.int .u32 pc, .int .i64 many, v] 35)).alloc (.cells #[.bool false, .int .i64 0] 40)).frozen? ⟨w.heap.size + 1, 1, none⟩ = false := by simp
  generalize (w.alloc (.cells #[.int .u32 pc, .int .i64 many, v] 35)).alloc (.cells #[.bool false, .int .i64 0] 40) = V at *
  refine wp_region_phase 4 [(1, 1), (0, 2), (2, 2), (3, 0)] (fun W => W.cell? ⟨0, 0, none⟩ = some (.iface 146 (.pointer (some (pe 3))))) (by kernel_rfl) (by kernel_rfl) (fun _ _ _ d _ h => by cases d <;> exact h) (by simpa using c0) ?_
  refine wpPlanZ_quiet (by rfl) (by rfl) (fun W hW => by (have z0 := hW; go_simp; try with_reducible rfl)) (fun K hK => ?_)
  go_simp
  refine hK _ ?_
  clear hK K
  refine wpPlanZ_serial (by rfl) (by rfl) (fun K hK => ?_)
  go_simp
  refine hK _ _ (fun _ => by simpa using c0) ?_
  clear hK K
  refine wpPlanZ_serial (by rfl) (by rfl) (fun K hK => ?_)
  go_simp
  refine hK _ _ (fun _ => ?_) ?_
  · show World.cell? _ _ = _
    simp only [World.cell?_drew]
    rw [World.cell?_setCell_other _ _ _ _ (by intro e; injection e with e1 e2; simp at e1 <;> omega), World.cell?_setCell_other _ _ _ _ (by intro e; injection e with e1 e2; simp at e1 <;> omega)]; exact c0
  clear hK K
  repeat (refine wpPlanZ_free (by rfl) (by rfl) (fun W => by (go_simp; try with_reducible rfl)) (fun K hK => ?_); go_simp; refine hK _ ?_; clear hK K)
  refine wpPlanZ_nil ?_
  go_wp2
  obtain ⟨y0, y1⟩ := put2 (v0 := .bool false) (v1 := .int .i64 0) d0 d1
  refine bodyPost_ret (results_cell1 (A := ⟨w.heap.size + 1, 0, none⟩) rfl _ _ _ rfl (end_load (w := ((V.setCell ⟨w.heap.size + 1, 0, none⟩ (.bool false)).setCell ⟨w.heap.size + 1, 1, none⟩ (.int .i64 0)).drew) y0 y1)) rfl ?_
  exact ⟨rfl, below_drew ((hB.setCell (p := ⟨w.heap.size + 1, 0, none⟩) (by show _ ≤ w.heap.size + 1; omega) _).setCell (p := ⟨w.heap.size + 1, 1, none⟩) (by show _ ≤ w.heap.size + 1; omega) _)⟩
set_option maxRecDepth 100000 in
set_option maxHeartbeats 4000000 in
theorem eval_bad (pe : Nat → Addr) (E : Eg pe w) {v : Value} {l : List Opx} (A : OpsIn w v l) (hl : (l.length : Int) ≤ 1000000) (pc many : Int) (m0 : -9223372036854775808 ≤ many) (m1 : many ≤ 9223372036854775807) (a1 a2 : Addr) (hbad : (codeF many l).1 ≠ 0) :
    Calls Tryd.prog 10 #[.agg #[.int .u32 pc, .int .i64 many, v], .pointer (some a1), .pointer (some a2)] w fun e w' => (∃ x, e = .returned (.tuple #[.agg #[.bool false, .int .i64 0], x]) ∧ CErr pe w' (codeF many l) x) ∧ Below w.heap.size w w' := by
  obtain ⟨ao, cap, rfl, hc, hh⟩ := A.sh
  have hB0 : Below w.heap.size w ((w.alloc (.cells #[.int .u32 pc, .int .i64 many, .slice ao l.length cap] 35)).alloc (.cells #[.bool false, .int .i64 0] 40)) := ((Below.refl _ _).alloc (Nat.le_refl _) _).alloc (by simp) _
  have hck := check_any pe (E.stays hB0) (A.stays hB0) hl pc many m0 m1
  clear hh A E
  go_enter Tryd.func10, Tryd.ntmps10
  go_wp2_with fail
  refine hck.mono ?_
  rintro e w1 ⟨⟨x, rfl, hx⟩, hb1⟩
  obtain ⟨t, u, rfl⟩ := cerr_some hx hbad
  have hz1 : w.heap.size + 2 ≤ w1.heap.size := by have := hb1.size; simpa using this
  have d0 : w1.cell? ⟨w.heap.size + 1, 0, none⟩ = some (.bool false) := (hb1.cell (p := ⟨w.heap.size + 1, 0, none⟩) (by simp)).trans (by simp)
  have d1 : w1.cell? ⟨w.heap.size + 1, 1, none⟩ = some (.int .i64 0) := (hb1.cell (p := ⟨w.heap.size + 1, 1, none⟩) (by simp)).trans (by simp)
  have f0 : w1.frozen? ⟨w.heap.size + 1, 0, none⟩ = false := (hb1.frozen (p := ⟨w.heap.size + 1, 0, none⟩) (by simp)).trans (by simp)
  have f1 : w1.frozen? ⟨w.heap.size + 1, 1, none⟩ = false := (hb1.frozen (p := ⟨w.heap.size + 1, 1, none⟩) (by simp)).trans (by simp)
  have HX : Hid (CErr pe w1 (codeF many l) (.iface t u)) := hx
  clear hx hck
  go_wp2
  obtain ⟨y0, y1⟩ := put2 (v0 := .bool false) (v1 := .int .i64 0) d0 d1
  refine bodyPost_ret (results_cell1 (A := ⟨w.heap.size + 1, 0, none⟩) rfl _ _ _ rfl (end_load y0 y1)) rfl ?_
  refine ⟨⟨_, rfl, HX.out.stays (B := w.heap.size + 1) (fun a v h hn => ?_) (fun fb hfb hn => ?_)⟩, ?_⟩
  · rw [World.cell?_setCell_other _ _ _ _ (by intro e; apply hn; rw [← e]), World.cell?_setCell_other _ _ _ _ (by intro e; apply hn; rw [← e])]; exact h
  · subst hn; rw [d0] at hfb; cases hfb
  · exact ((hB0.trans (hb1.mono (by simp; omega))).setCell (p := ⟨w.heap.size + 1, 0, none⟩) (by show _ ≤ w.heap.size + 1; omega) _).setCell (p := ⟨w.heap.size + 1, 1, none⟩) (by show _ ≤ w.heap.size + 1; omega) _
/-- a state that a code at pc may begin with -/
def alignB (S : St) (pc : Int) : Bool := !S.sl && decide (S.pc = pc) && decide (S.nx = lo (pc + 4))
/-- the run's cells, as they are made -/
theorem run_zero : Tryd.zeroCells62.toList = (List.range 66).map (fun j => if j < 64 then Value.int .u32 0 else if j = 64 then .pointer none else .slice none 0 0) := by kernel_rfl
theorem run_made (w : World) (sb : Nat) : RunRow (w.alloc (.cells ((Tryd.zeroCells62.setIfInBounds 64 (.pointer (some ⟨sb, 0, none⟩))).setIfInBounds 65 (.slice none 0 0)) 62)) w.heap.size sb (fun _ => 0) (.slice none 0 0) := by
  have hsz : Tryd.zeroCells62.size = 66 := by rw [← Array.length_toList, run_zero]; simp
  refine ⟨_, heap_alloc_new w _, by simp [hsz], fun j hj => ?_⟩
  by_cases h65 : 65 = j
  · subst h65; rw [Array.getElem?_setIfInBounds_self, if_pos (by simp [hsz])]; rfl
  · rw [Array.getElem?_setIfInBounds_ne h65]
    by_cases h64 : 64 = j
    · subst h64; rw [Array.getElem?_setIfInBounds_self, if_pos (by simp [hsz])]; rfl
    · rw [Array.getElem?_setIfInBounds_ne h64, ← Array.getElem?_toList, run_zero, List.getElem?_map, List.getElem?_range hj]
      have : j < 64 := by omega
      simp [runV, this]
set_option maxRecDepth 100000 in
set_option maxHeartbeats 8000000 in
theorem eval_run (pe : Nat → Addr) (E : Eg pe w) {v : Value} {l : List Opx} (A : OpsIn w v l) (pc many : Int) (p0 : 0 ≤ pc) (p1 : pc < 4294967296) (hf : (codeF many l).1 = 0) (R : RamIs w sb bp bw bh N m wt ht) (hN : N ≤ 1000000) (hS : StRow w stb S) (ok : S.ok) (c0 : 0 ≤ S.ct) (c1 : S.ct ≤ 1152921504606846976) (n1 : sb ≠ stb) (n2 : bp ≠ stb) (n3 : bw ≠ stb) (n4 : bh ≠ stb) (al : alignB S pc = true) :
    Calls Tryd.prog 10 #[.agg #[.int .u32 pc, .int .i64 many, v], .pointer (some ⟨stb, 0, none⟩), .pointer (some ⟨sb, 0, none⟩)] w fun e w' =>
      (∃ t, runX m wt l ⟨begX S, []⟩ = .trap t ∧ e = .returned (.tuple #[.agg #[.bool true, .int .i64 t], .nilIface]) ∧ Below w.heap.size w w') ∨
      (∃ to M, runX m wt l ⟨begX S, []⟩ = .leave to M ∧ e = .returned (.tuple #[.agg #[.bool false, .int .i64 0], .nilIface]) ∧ (∀ q ∈ M.p, q.ok) ∧ M.p.length ≤ 200 ∧ StRow w' stb (leftS S M.x to many) ∧ (leftS S M.x to many).ok ∧ RamIs w' sb bp bw bh (N + 400) (vw m M.p) wt ht ∧ w.heap.size ≤ w'.heap.size ∧ (∀ k, k < w.heap.size → k ≠ stb → k ≠ bp → k ≠ bh → w'.heap[k]? = w.heap[k]?) ∧ w'.os = w.os ∧ w'.tape = w.tape ∧ w'.output = w.output) := by
  obtain ⟨ao, cap, rfl, hc, hh⟩ := A.sh
  obtain ⟨CO, hcf⟩ := code_fine hf
  have hB0 : Below w.heap.size w ((w.alloc (.cells #[.int .u32 pc, .int .i64 many, .slice ao l.length cap] 35)).alloc (.cells #[.bool false, .int .i64 0] 40)) := ((Below.refl _ _).alloc (Nat.le_refl _) _).alloc (by simp) _
  have hck := check_any pe (E.stays hB0) (A.stays hB0) (by have := CO.len; omega) pc many (by have := CO.m1; omega) (by have := CO.m2; omega)
  rw [hcf] at hck
  have AH : Hid (OpsIn w (.slice ao l.length cap) l) := A
  have EH : Hid (Eg pe w) := E
  have RH : Hid (RamIs w sb bp bw bh N m wt ht) := R
  have SH : Hid (StRow w stb S) := hS
  have CH : Hid (CodeOk many l) := CO
  have OH : Hid S.ok := ok
  have hstb := hS.lt
  have hal : S.sl = false ∧ S.pc = pc ∧ S.nx = lo (pc + 4) := by unfold alignB at al; simp at al; exact ⟨al.1.1, al.1.2, al.2⟩
  have L1 : Hid (S.sl = false) := hal.1
  have L2 : Hid (S.pc = pc) := hal.2.1
  have L3 : Hid (S.nx = lo (pc + 4)) := hal.2.2
  clear hh A E R hS CO hcf hf ok al hal
  go_enter Tryd.func10, Tryd.ntmps10
  go_wp2_with fail
  refine hck.mono ?_
  rintro e w1 ⟨⟨x, rfl, hx⟩, hb1⟩
  obtain rfl := cerr_none hx
  have hz1 : w.heap.size + 2 ≤ w1.heap.size := by have := hb1.size; simpa using this
  have d0 : w1.cell? ⟨w.heap.size + 1, 0, none⟩ = some (.bool false) := (hb1.cell (p := ⟨w.heap.size + 1, 0, none⟩) (by simp)).trans (by simp)
  have d1 : w1.cell? ⟨w.heap.size + 1, 1, none⟩ = some (.int .i64 0) := (hb1.cell (p := ⟨w.heap.size + 1, 1, none⟩) (by simp)).trans (by simp)
  have z0 : ∀ (j : Nat) (u : Value), (w.alloc (.cells #[.int .u32 pc, .int .i64 many, .slice ao l.length cap] 35)).cell? ⟨w.heap.size, j, none⟩ = some u → w1.cell? ⟨w.heap.size, j, none⟩ = some u := fun j u h => (hb1.cell (p := ⟨w.heap.size, j, none⟩) (by simp; omega)).trans ((World.grownBy_alloc _ _ none).cell h (by simp))
  have k0 : w1.cell? ⟨w.heap.size, 0, none⟩ = some (.int .u32 pc) := z0 _ _ (by simp)
  have k1 : w1.cell? ⟨w.heap.size, 1, none⟩ = some (.int .i64 many) := z0 _ _ (by simp)
  have k2 : w1.cell? ⟨w.heap.size, 2, none⟩ = some (.slice ao l.length cap) := z0 _ _ (by simp)
  have f0 : w1.frozen? ⟨w.heap.size + 1, 0, none⟩ = false := (hb1.frozen (p := ⟨w.heap.size + 1, 0, none⟩) (by simp)).trans (by simp)
  have f1 : w1.frozen? ⟨w.heap.size + 1, 1, none⟩ = false := (hb1.frozen (p := ⟨w.heap.size + 1, 1, none⟩) (by simp)).trans (by simp)
  have B1 : Hid (Below w.heap.size w w1) := hB0.trans (hb1.mono (by simp; omega))
  have S1 : StRow w1 stb S := SH.out.stays B1.out
  obtain ⟨_, _, q34, q35, q36, _⟩ := S1.at.told
  rw [L1.out] at q36
  rw [L2.out] at q34
  rw [L3.out] at q35
  unfold lo at q35
  clear hx hck hb1 hB0 S1
  go_upto_region 6 with fail
  go_quiet (fail)
  have d0 : (w1.drewN nq).cell? ⟨w.heap.size + 1, 0, none⟩ = some (.bool false) := d0
  have d1 : (w1.drewN nq).cell? ⟨w.heap.size + 1, 1, none⟩ = some (.int .i64 0) := d1
  have k1 : (w1.drewN nq).cell? ⟨w.heap.size, 1, none⟩ = some (.int .i64 many) := k1
  have k2 : (w1.drewN nq).cell? ⟨w.heap.size, 2, none⟩ = some (.slice ao l.length cap) := k2
  have f0 : (w1.drewN nq).frozen? ⟨w.heap.size + 1, 0, none⟩ = false := f0
  have f1 : (w1.drewN nq).frozen? ⟨w.heap.size + 1, 1, none⟩ = false := f1
  have B2 : Hid (Below w.heap.size w (w1.drewN nq)) := below_drewN B1.out nq
  have hz1 : w.heap.size + 2 ≤ (w1.drewN nq).heap.size := hz1
  clear q34 q35 q36 k0 z0 B1
  generalize w1.drewN nq = U at *
  have SU : Hid (StRow U stb S) := SH.out.stays B2.out
  go_wp2_with fail
  have hRM := run_made U sb
  have hSA : StRow (U.alloc (.cells ((Tryd.zeroCells62.setIfInBounds 64 (.pointer (some ⟨sb, 0, none⟩))).setIfInBounds 65 (.slice none 0 0)) 62)) stb S := SU.out.stays ((Below.refl _ _).alloc (Nat.le_refl _) _)
  have hBA : Hid (Below U.heap.size U (U.alloc (.cells ((Tryd.zeroCells62.setIfInBounds 64 (.pointer (some ⟨sb, 0, none⟩))).setIfInBounds 65 (.slice none 0 0)) 62))) := (Below.refl _ _).alloc (Nat.le_refl _) _
  have hzA : (U.alloc (.cells ((Tryd.zeroCells62.setIfInBounds 64 (.pointer (some ⟨sb, 0, none⟩))).setIfInBounds 65 (.slice none 0 0)) 62)).heap.size = U.heap.size + 1 := by simp
  generalize U.alloc (.cells ((Tryd.zeroCells62.setIfInBounds 64 (.pointer (some ⟨sb, 0, none⟩))).setIfInBounds 65 (.slice none 0 0)) 62) = UA at *
  refine (begin_any hRM hSA (by omega)).mono ?_
  rintro e w2 ⟨rfl, hM2, hO2, hz2, ho2⟩
  have B3 : Hid (Below U.heap.size U w2) := by
    have h := hBA.out
    exact ⟨ho2.1.trans h.os, ho2.2.1.trans h.tape, ho2.2.2.trans h.output, by omega, fun k hk => (hO2 k (by omega)).trans (h.block k hk)⟩
  have hbx : ∀ j, u32 (begX S j) := by
    intro j
    have ok := OH.out
    unfold begX
    split
    · exact ok.r j
    · split
      · exact ok.hi
      · split
        · exact ok.lo
        · exact ⟨by omega, by omega⟩
  have M2 := RunRow.mat (base := U.heap.size) hM2 (Nat.le_refl _) hbx (by omega)
  have B03 : Hid (Below w.heap.size w w2) := B2.out.trans (B3.out.mono B2.out.size)
  have R2 := RH.out.stays B03.out (Nat.le_refl _)
  have hlt : sb < w.heap.size ∧ bp < w.heap.size ∧ bw < w.heap.size ∧ bh < w.heap.size := ⟨World.block_lt_of_cell? _ _ RH.out.c0, RH.out.ps.lt, RH.out.ws.lt, RH.out.hs.lt⟩
  have hUs := B2.out.size
  have hall := all_any pe (EH.out.stays B03.out) (by obtain ⟨g2, g3, g4, g8, g9, g10⟩ := EH.out.size; exact ⟨by omega, by omega, by omega, by omega, by omega, by omega⟩) R2 (by omega) (by omega) (by omega) (by omega) M2 (AH.out.stays B03.out) (by
    intro k hk
    obtain ⟨ao', cap', e, _, hh⟩ := AH.out.sh
    rcases Nat.eq_zero_or_pos l.length with h0 | h0
    · exact absurd (List.length_eq_zero_iff.1 h0) CH.out.ne
    · obtain ⟨b, off, rfl, hcl⟩ := hh h0
      injection e with e1
      subst e1
      injection hk with hk
      subst hk
      have hbl : b < w.heap.size := World.block_lt_of_cell? _ _ (hcl 0 l[0] (List.getElem?_eq_getElem h0) 0 _ rfl)
      show b < U.heap.size
      omega) CH.out.len (by simp) many CH.out.ops (by intro q hq; simp [pqs] at hq)
  have hS2 : Hid (StRow w2 stb S) := hSA.block (hO2 stb (by omega))
  have R2H : Hid (RamIs w2 sb bp bw bh N m wt ht) := R2
  have g1 : w2.cell? ⟨w.heap.size, 1, none⟩ = some (.int .i64 many) := (B3.out.cell (p := ⟨w.heap.size, 1, none⟩) (show w.heap.size < U.heap.size by omega)).trans k1
  have g2 : w2.cell? ⟨w.heap.size, 2, none⟩ = some (.slice ao l.length cap) := (B3.out.cell (p := ⟨w.heap.size, 2, none⟩) (show w.heap.size < U.heap.size by omega)).trans k2
  have e0 : w2.cell? ⟨w.heap.size + 1, 0, none⟩ = some (.bool false) := (B3.out.cell (p := ⟨w.heap.size + 1, 0, none⟩) (show w.heap.size + 1 < U.heap.size by omega)).trans d0
  have e1 : w2.cell? ⟨w.heap.size + 1, 1, none⟩ = some (.int .i64 0) := (B3.out.cell (p := ⟨w.heap.size + 1, 1, none⟩) (show w.heap.size + 1 < U.heap.size by omega)).trans d1
  have h0' : w2.frozen? ⟨w.heap.size + 1, 0, none⟩ = false := (B3.out.frozen (p := ⟨w.heap.size + 1, 0, none⟩) (show w.heap.size + 1 < U.heap.size by omega)).trans f0
  have h1' : w2.frozen? ⟨w.heap.size + 1, 1, none⟩ = false := (B3.out.frozen (p := ⟨w.heap.size + 1, 1, none⟩) (show w.heap.size + 1 < U.heap.size by omega)).trans f1
  clear d0 d1 k1 k2 f0 f1 R2 hSA hM2 hO2 M2 hRM hbx hBA
  obtain ⟨r, hr⟩ : ∃ r, runX m wt l ⟨begX S, pqs []⟩ = r := ⟨_, rfl⟩
  have HR : Hid (runX m wt l ⟨begX S, []⟩ = r) := hr
  rw [hr] at hall
  clear hr
  go_wp2_with fail
  refine hall.mono ?_
  intro e w3 hp3
  have CF := runX_out (m := m) (wt := wt) (M := ⟨begX S, []⟩) CH.out.last
  cases r with
  | fell => exact absurd HR.out CF
  | trap t =>
    obtain ⟨rfl, hb3⟩ := hp3
    have e0 : w3.cell? ⟨w.heap.size + 1, 0, none⟩ = some (.bool false) := (hb3.cell (p := ⟨w.heap.size + 1, 0, none⟩) (show w.heap.size + 1 < U.heap.size by omega)).trans e0
    have e1 : w3.cell? ⟨w.heap.size + 1, 1, none⟩ = some (.int .i64 0) := (hb3.cell (p := ⟨w.heap.size + 1, 1, none⟩) (show w.heap.size + 1 < U.heap.size by omega)).trans e1
    have h0' : w3.frozen? ⟨w.heap.size + 1, 0, none⟩ = false := (hb3.frozen (p := ⟨w.heap.size + 1, 0, none⟩) (show w.heap.size + 1 < U.heap.size by omega)).trans h0'
    have h1' : w3.frozen? ⟨w.heap.size + 1, 1, none⟩ = false := (hb3.frozen (p := ⟨w.heap.size + 1, 1, none⟩) (show w.heap.size + 1 < U.heap.size by omega)).trans h1'
    have hz3 : w.heap.size + 1 < w3.heap.size := by have := hb3.size; omega
    have B4 : Hid (Below w.heap.size w w3) := B03.out.trans (hb3.mono hUs)
    clear hb3 hall CF g1 g2
    go_wp2
    obtain ⟨y0, y1⟩ := put2 (v0 := .bool true) (v1 := .int .i64 t) e0 e1
    refine bodyPost_ret (results_cell1 (A := ⟨w.heap.size + 1, 0, none⟩) rfl _ _ _ rfl (end_load ((World.grownBy_alloc _ _ none).cell y0 (by simp)) ((World.grownBy_alloc _ _ none).cell y1 (by simp)))) rfl ?_
    exact .inl ⟨t, HR.out, rfl, ((B4.out.setCell (p := ⟨w.heap.size + 1, 0, none⟩) (by show _ ≤ w.heap.size + 1; omega) _).setCell (p := ⟨w.heap.size + 1, 1, none⟩) (by show _ ≤ w.heap.size + 1; omega) _).alloc (by simp; omega) _⟩
  | leave to M =>
    obtain ⟨rfl, hb3, hto, p', vi', hMp, hpl, G3, hwt⟩ := hp3
    have e0 : w3.cell? ⟨w.heap.size + 1, 0, none⟩ = some (.bool false) := (hb3.cell (p := ⟨w.heap.size + 1, 0, none⟩) (show w.heap.size + 1 < U.heap.size by omega)).trans e0
    have e1 : w3.cell? ⟨w.heap.size + 1, 1, none⟩ = some (.int .i64 0) := (hb3.cell (p := ⟨w.heap.size + 1, 1, none⟩) (show w.heap.size + 1 < U.heap.size by omega)).trans e1
    have h0' : w3.frozen? ⟨w.heap.size + 1, 0, none⟩ = false := (hb3.frozen (p := ⟨w.heap.size + 1, 0, none⟩) (show w.heap.size + 1 < U.heap.size by omega)).trans h0'
    have h1' : w3.frozen? ⟨w.heap.size + 1, 1, none⟩ = false := (hb3.frozen (p := ⟨w.heap.size + 1, 1, none⟩) (show w.heap.size + 1 < U.heap.size by omega)).trans h1'
    have g1 : w3.cell? ⟨w.heap.size, 1, none⟩ = some (.int .i64 many) := (hb3.cell (p := ⟨w.heap.size, 1, none⟩) (show w.heap.size < U.heap.size by omega)).trans g1
    have hz3 : w.heap.size + 1 < w3.heap.size := by have := hb3.size; omega
    have hz3' : w.heap.size < w3.heap.size := by omega
    have S3 : Hid (StRow w3 stb S) := hS2.out.block (hb3.block stb (by omega))
    have R3 : Hid (RamIs w3 sb bp bw bh N m wt ht) := R2H.out.onBase (base := U.heap.size) (by omega) (by omega) (by omega) (by omega) hb3
    have B4 : Hid (Below w.heap.size w w3) := B03.out.trans (hb3.mono hUs)
    have G3H : Hid (MAt w3 U.heap.size U.heap.size sb M.x p' vi') := G3
    have WT : Hid (∀ q ∈ pqs p', wt (q.a / 256) = false) := hwt
    have HM : Hid (M.p = pqs p') := hMp
    obtain ⟨t0, t1⟩ := hto
    have hpl : p'.length ≤ 200 := by have := CH.out.len; simp at hpl; omega
    have hal := (Below.refl w3.heap.size w3).alloc (Nat.le_refl _) (.cells #[.bool false, .int .i64 0] 40)
    have hlv := leave_any (base := U.heap.size) (R3.out.stays hal (Nat.le_refl _)) (G3H.out.opened (.cells #[.bool false, .int .i64 0] 40)) (S3.out.stays hal) (by omega) hN (by omega) (by omega) (by omega) n1 n2 n3 n4 WT.out to many t0 t1 c0 c1 CH.out.m1 CH.out.m2
    clear hal hb3 hall CF g2 G3 hwt hMp
    go_wp2_with fail
    refine hlv.mono ?_
    rintro e w4 ⟨rfl, S4, R4, hz4, hk4, ho4⟩
    have c4 : ∀ (j : Nat) (u : Value), w3.cell? ⟨w.heap.size + 1, j, none⟩ = some u → w4.cell? ⟨w.heap.size + 1, j, none⟩ = some u := fun j u h => (World.cell?_of_block (a := ⟨w.heap.size + 1, j, none⟩) (hk4 (w.heap.size + 1) (by simp; omega) (by omega) (by omega) (by omega))).trans ((World.grownBy_alloc w3 _ none).cell h (by simp))
    have e0 := c4 _ _ e0
    have e1 := c4 _ _ e1
    have fz4 : ∀ j, w3.frozen? ⟨w.heap.size + 1, j, none⟩ = false → w4.frozen? ⟨w.heap.size + 1, j, none⟩ = false := fun j h => (World.frozen?_of_block (a := ⟨w.heap.size + 1, j, none⟩) (hk4 (w.heap.size + 1) (by simp; omega) (by omega) (by omega) (by omega))).trans ((((Below.refl w3.heap.size w3).alloc (Nat.le_refl _) _).frozen (p := ⟨w.heap.size + 1, j, none⟩) hz3).trans h)
    have h0' := fz4 _ h0'
    have h1' := fz4 _ h1'
    have bE : w4.heap[w3.heap.size]? = (w3.alloc (.cells #[.bool false, .int .i64 0] 40)).heap[w3.heap.size]? := hk4 _ (by simp) (by omega) (by omega) (by omega)
    have x0 : w4.cell? ⟨w3.heap.size, 0, none⟩ = some (.bool false) := (World.cell?_of_block (a := ⟨w3.heap.size, 0, none⟩) bE).trans (by simp)
    have x1 : w4.cell? ⟨w3.heap.size, 1, none⟩ = some (.int .i64 0) := (World.cell?_of_block (a := ⟨w3.heap.size, 1, none⟩) bE).trans (by simp)
    have S4H : Hid (StRow w4 stb (leftS S M.x to many)) := S4
    have R4H : Hid (RamIs w4 sb bp bw bh (N + 2 * p'.length) (vw m (pqs p')) wt ht) := R4
    have K4 : Hid (∀ k, k < w.heap.size → k ≠ stb → k ≠ bp → k ≠ bh → w4.heap[k]? = w.heap[k]?) := fun k hk a1 a2 a3 => ((hk4 k (by simp; omega) a1 a2 a3).trans (Below.heap_alloc w3 _ k (by omega))).trans (B4.out.block k hk)
    have O4 : Hid (w4.os = w.os ∧ w4.tape = w.tape ∧ w4.output = w.output) := ⟨ho4.1.trans B4.out.os, ho4.2.1.trans B4.out.tape, ho4.2.2.trans B4.out.output⟩
    have hz4' : w.heap.size ≤ w4.heap.size := by simp at hz4; omega
    clear c4 fz4 bE hlv hk4 ho4 S4 R4
    go_wp2
    obtain ⟨y0, y1⟩ := put2 (v0 := .bool false) (v1 := .int .i64 0) e0 e1
    refine bodyPost_ret (results_cell1 (A := ⟨w.heap.size + 1, 0, none⟩) rfl _ _ _ rfl (end_load y0 y1)) rfl ?_
    have hoth : ∀ k, k ≠ w.heap.size + 1 → ((w4.setCell ⟨w.heap.size + 1, 0, none⟩ (.bool false)).setCell ⟨w.heap.size + 1, 1, none⟩ (.int .i64 0)).heap[k]? = w4.heap[k]? := fun k hk => (Below.heap_setCell _ ⟨w.heap.size + 1, 1, none⟩ _ k hk).trans (Below.heap_setCell _ ⟨w.heap.size + 1, 0, none⟩ _ k hk)
    refine .inr ⟨to, M, HR.out, rfl, by rw [HM.out]; exact pq_ok p', by rw [HM.out]; simp [pqs]; omega, S4H.out.block (hoth stb (by omega)), ?_, ?_, by simp; omega, fun k hk a1 a2 a3 => (hoth k (by omega)).trans (K4.out k hk a1 a2 a3), O4.out⟩
    · have ok := OH.out
      have xb := G3H.out.xb
      have hm1 := CH.out.m1
      have hm2 := CH.out.m2
      exact ⟨xb, xb 32, xb 33, ⟨t0, t1⟩, lo_bd _, ok.st, ok.ca, ok.ep, ok.bd, ok.cm, by show _ ≤ S.ct + many; omega, by show S.ct + many < _; omega⟩
    · rw [HM.out]
      exact (R4H.out.turn1 (w.heap.size + 1) (by omega) (by omega) (by omega) (by omega) hoth).mono (by omega)
end
end Go.Proofs.YtjjlbpenagobiaaDoor
