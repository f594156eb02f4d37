/-
  Errors of host.Run; coded.
-/
import Derived.Test.YtjkencgcdlfjhaaGreatDoorJSame
import Derived.Test.YtjkencgcdlfjhaaGreatDoorKGHost3
namespace Go.Proofs.YtjkencgcdlfjhaaGreatDoor
open Go.RowKit Go.Maps
open Num
set_option linter.unusedVariables false
/-- an error that is one -/
theorem cerr_some {pe : Nat → Addr} {w : World} {f : Int × Int} {x : Value} (C : CErr pe w f x) (hf : f ≠ (0, -1)) : ∃ t a, x = .iface t (.pointer (some a)) := by
  rcases C with ⟨h1, h2⟩ | ⟨h1, h2, fb, h3, _⟩
  · have : f.1 ≠ 0 := by
      intro h
      apply hf
      obtain ⟨a, b⟩ := f
      simp only at h h1
      rw [h, h1]
    rw [erV_some this] at h2
    exact ⟨_, _, h2⟩
  · exact ⟨_, _, h3⟩
theorem CErr.staysH {pe : Nat → Addr} {w w' : World} {f : Int × Int} {v : Value} (C : CErr pe w f v) (h : Below w.heap.size w w') : CErr pe w' f v := by
  rcases C with h1 | ⟨h1, h2, fb, h3, h4, h5⟩
  · exact .inl h1
  · exact .inr ⟨h1, h2, fb, h3, (h.cell (World.block_lt_of_cell? _ _ h4)).trans h4, (h.cell (World.block_lt_of_cell? _ _ h5)).trans h5⟩
set_option maxRecDepth 100000 in
set_option maxHeartbeats 2000000 in
theorem coded_any (S : Nat → Addr) {w : World} (EE : Errs S w) (n : Nat) (h1 : 1 ≤ n) (h2 : n ≤ 10) :
    Calls Tryz.prog 17 #[.iface 311 (.pointer (some (peS S n))), .int .i64 n] w fun e w' => e = .returned (.bool true) ∧ Below w.heap.size w w' := by
  have hcb := code_bare S (S (n - 1)) (n - 1) _ EE (.inl ⟨by omega, rfl⟩) (EE.row (n - 1) (by omega))
  rw [num_is n h1 h2] at hcb
  unfold peS
  clear EE
  generalize S (n - 1) = ad at *
  have hnn : ((n : Int) == (n : Int)) = true := by simp
  go_enter Tryz.func17, Tryz.ntmps17
  go_wp2_with fail
  refine hcb.mono ?_
  rintro e w1 ⟨rfl, hb⟩
  go_wp2
  go_ret
  exact ⟨rfl, hb⟩
section
variable {w : World}
theorem enF (w : World) (pc many : Int) (v : Value) : ∀ j, ((w.alloc (.cells #[.int .u32 pc, .int .i64 many, v] 75)).alloc (.cells #[.bool false, .int .i64 0] 45)).frozen? ⟨w.heap.size + 1, j, none⟩ = false := fun j => by
  rw [show w.heap.size + 1 = (w.alloc (.cells #[.int .u32 pc, .int .i64 many, v] 75)).heap.size by simp]; exact World.frozen?_alloc_at _ _ _ _ rfl
set_option maxRecDepth 100000 in
set_option maxHeartbeats 2000000 in
theorem hrun_nil (pe : Nat → Addr) (E : Eg pe w) (pc many : Int) (v : Value) :
    Calls Tryz.prog 38 #[.agg #[.int .u32 pc, .int .i64 many, v], .pointer none, .pointer none] w fun e w' => e = .returned (.tuple #[.agg #[.bool false, .int .i64 0], .iface 311 (.pointer (some (pe 3)))]) ∧ Below w.heap.size w w' := by
  have B0 : Below w.heap.size w ((w.alloc (.cells #[.int .u32 pc, .int .i64 many, v] 75)).alloc (.cells #[.bool false, .int .i64 0] 45)) := ((Below.refl _ _).alloc (Nat.le_refl _) _).alloc (by simp) _
  have e0 : ((w.alloc (.cells #[.int .u32 pc, .int .i64 many, v] 75)).alloc (.cells #[.bool false, .int .i64 0] 45)).cell? ⟨w.heap.size + 1, 0, none⟩ = some (.bool false) := by simp
  have e1 : ((w.alloc (.cells #[.int .u32 pc, .int .i64 many, v] 75)).alloc (.cells #[.bool false, .int .i64 0] 45)).cell? ⟨w.heap.size + 1, 1, none⟩ = some (.int .i64 0) := by simp
  have ef := enF w pc many v
  have hsz0 : ((w.alloc (.cells #[.int .u32 pc, .int .i64 many, v] 75)).alloc (.cells #[.bool false, .int .i64 0] 45)).heap.size = w.heap.size + 2 := by simp
  have g3 := (E.stays B0).e3
  have hge : 2 < w.heap.size := E.size.2.1
  have HB0 : Hid (Below w.heap.size w ((w.alloc (.cells #[.int .u32 pc, .int .i64 many, v] 75)).alloc (.cells #[.bool false, .int .i64 0] 45))) := B0
  clear E B0
  go_enter Tryz.func38, Tryz.ntmps38
  go_upto_region 2 with fail
  generalize ((w.alloc (.cells #[.int .u32 pc, .int .i64 many, v] 75)).alloc (.cells #[.bool false, .int .i64 0] 45)) = V at *
  have zz : w.heap.size + 1 < V.heap.size := by omega
  refine wp_region_phase 4 [(0, 0), (1, 1), (2, 2), (3, 0)] (fun W => W.cell? ⟨2, 0, none⟩ = some (.iface 311 (.pointer (some (pe 3))))) (by kernel_rfl) (by kernel_rfl) (fun _ _ _ d _ h => by cases d <;> exact h) g3 ?_
  refine wpPlanZ_free (by rfl) (by rfl) (fun W => by (go_simp; try with_reducible rfl)) (fun K hK => ?_); go_simp; refine hK _ ?_; clear hK K
  refine wpPlanZ_quiet (by rfl) (by rfl) (fun W hW => by (go_simp; try with_reducible rfl)) (fun K hK => ?_); go_simp; refine hK _ ?_; clear hK K
  refine wpPlanZ_serial (by rfl) (by rfl) (fun K hK => ?_)
  go_simp
  refine hK _ _ (fun _ => ?_) ?_
  · have := (World.cell?_of_block (a := ⟨2, 0, none⟩) ((Below.heap_setCell (V.setCell ⟨w.heap.size + 1, 0, none⟩ (.bool false)) ⟨w.heap.size + 1, 1, none⟩ (.int .i64 0) 2 (by show 2 ≠ w.heap.size + 1; omega)).trans (Below.heap_setCell V ⟨w.heap.size + 1, 0, none⟩ (.bool false) 2 (by show 2 ≠ w.heap.size + 1; omega)))).trans g3
    exact this
  clear hK K
  refine wpPlanZ_free (by rfl) (by rfl) (fun W => by (go_simp; try with_reducible rfl)) (fun K hK => ?_); go_simp; refine hK _ ?_; clear hK K
  refine wpPlanZ_nil ?_
  go_wp2
  obtain ⟨j0, j1⟩ := end_putG e0 e1 (.bool false) (.int .i64 0)
  refine bodyPost_ret (results_cell1G (A := ⟨w.heap.size + 1, 0, none⟩) rfl _ _ _ rfl (end_loadG ((cell_drewG _ _).trans j0) ((cell_drewG _ _).trans j1))) rfl ?_
  exact ⟨rfl, ((HB0.out.setCell (p := ⟨w.heap.size + 1, 0, none⟩) (by show w.heap.size ≤ w.heap.size + 1; omega) _).setCell (p := ⟨w.heap.size + 1, 1, none⟩) (by show w.heap.size ≤ w.heap.size + 1; omega) _).drew⟩
set_option maxRecDepth 100000 in
set_option maxHeartbeats 4000000 in
theorem hrun_bad (pe : Nat → Addr) (E : Ep pe w) {v : Value} {rs : List (List Opx)} (RI : RowsI w v rs) (F : Few rs) (pc many : Int) (m0 : -9223372036854775808 ≤ many) (m1 : many ≤ 9223372036854775807) (hpf : planF many rs ≠ (0, -1)) (stb sb : Nat) :
    Calls Tryz.prog 38 #[.agg #[.int .u32 pc, .int .i64 many, v], .pointer (some ⟨stb, 0, none⟩), .pointer (some ⟨sb, 0, none⟩)] w fun e w' => (∃ t a, e = .returned (.tuple #[.agg #[.bool false, .int .i64 0], .iface t (.pointer (some a))]) ∧ CErr pe w' (planF many rs) (.iface t (.pointer (some a)))) ∧ Below w.heap.size w w' := by
  have B0 : Below w.heap.size w ((w.alloc (.cells #[.int .u32 pc, .int .i64 many, v] 75)).alloc (.cells #[.bool false, .int .i64 0] 45)) := ((Below.refl _ _).alloc (Nat.le_refl _) _).alloc (by simp) _
  have k0 : ((w.alloc (.cells #[.int .u32 pc, .int .i64 many, v] 75)).alloc (.cells #[.bool false, .int .i64 0] 45)).cell? ⟨w.heap.size, 0, none⟩ = some (.int .u32 pc) := by simp
  have k1 : ((w.alloc (.cells #[.int .u32 pc, .int .i64 many, v] 75)).alloc (.cells #[.bool false, .int .i64 0] 45)).cell? ⟨w.heap.size, 1, none⟩ = some (.int .i64 many) := by simp
  have k2 : ((w.alloc (.cells #[.int .u32 pc, .int .i64 many, v] 75)).alloc (.cells #[.bool false, .int .i64 0] 45)).cell? ⟨w.heap.size, 2, none⟩ = some v := by simp
  have e0 : ((w.alloc (.cells #[.int .u32 pc, .int .i64 many, v] 75)).alloc (.cells #[.bool false, .int .i64 0] 45)).cell? ⟨w.heap.size + 1, 0, none⟩ = some (.bool false) := by simp
  have e1 : ((w.alloc (.cells #[.int .u32 pc, .int .i64 many, v] 75)).alloc (.cells #[.bool false, .int .i64 0] 45)).cell? ⟨w.heap.size + 1, 1, none⟩ = some (.int .i64 0) := by simp
  have ef := enF w pc many v
  have hsz0 : ((w.alloc (.cells #[.int .u32 pc, .int .i64 many, v] 75)).alloc (.cells #[.bool false, .int .i64 0] 45)).heap.size = w.heap.size + 2 := by simp
  have hck := checkP_any pe (E.stays B0) (RI.stays B0) F pc many m0 m1
  have HPF : Hid (planF many rs ≠ (0, -1)) := hpf
  have HB0 : Hid (Below w.heap.size w ((w.alloc (.cells #[.int .u32 pc, .int .i64 many, v] 75)).alloc (.cells #[.bool false, .int .i64 0] 45))) := B0
  obtain ⟨ra, rc, hv, _⟩ := id RI
  subst hv
  generalize planF many rs = f at *
  clear E RI F B0 hpf
  go_enter Tryz.func38, Tryz.ntmps38
  go_upto_region 3 with fail
  generalize ((w.alloc (.cells #[.int .u32 pc, .int .i64 many, .slice ra rs.length rc] 75)).alloc (.cells #[.bool false, .int .i64 0] 45)) = V at *
  go_wp2_with fail
  refine hck.mono ?_
  rintro e w1 ⟨⟨x, rfl, hC⟩, hb1⟩
  obtain ⟨t, a, rfl⟩ := cerr_some hC HPF.out
  have q0 := (hb1.cell (p := ⟨w.heap.size + 1, 0, none⟩) (show w.heap.size + 1 < V.heap.size by omega)).trans e0
  have q1 := (hb1.cell (p := ⟨w.heap.size + 1, 1, none⟩) (show w.heap.size + 1 < V.heap.size by omega)).trans e1
  have qf : ∀ j, w1.frozen? ⟨w.heap.size + 1, j, none⟩ = false := fun j => (hb1.frozen (p := ⟨w.heap.size + 1, j, none⟩) (show w.heap.size + 1 < V.heap.size by omega)).trans (ef j)
  have hBw : Hid (Below w.heap.size w w1) := HB0.out.trans (hb1.mono (by omega))
  have zz : w.heap.size + 1 < w1.heap.size := by have := hb1.size; omega
  have HCE : Hid (CErr pe ((w1.setCell ⟨w.heap.size + 1, 0, none⟩ (.bool false)).setCell ⟨w.heap.size + 1, 1, none⟩ (.int .i64 0)) f (.iface t (.pointer (some a)))) := by
    rcases hC with h | ⟨h1, h2, fb, h3, h4, h5⟩
    · exact .inl h
    · have hne : fb ≠ w.heap.size + 1 := by
        intro e
        subst e
        rw [q0] at h4
        cases h4
      have hbk : ((w1.setCell ⟨w.heap.size + 1, 0, none⟩ (.bool false)).setCell ⟨w.heap.size + 1, 1, none⟩ (.int .i64 0)).heap[fb]? = w1.heap[fb]? := (Below.heap_setCell _ ⟨w.heap.size + 1, 1, none⟩ _ fb hne).trans (Below.heap_setCell _ ⟨w.heap.size + 1, 0, none⟩ _ fb hne)
      exact .inr ⟨h1, h2, fb, h3, (World.cell?_of_block (a := ⟨fb, 0, none⟩) hbk).trans h4, (World.cell?_of_block (a := ⟨fb, 1, none⟩) hbk).trans h5⟩
  clear hck hb1 hC e0 e1 ef k0 k1 k2
  go_wp2
  obtain ⟨j0, j1⟩ := end_putG q0 q1 (.bool false) (.int .i64 0)
  refine bodyPost_ret (results_cell1G (A := ⟨w.heap.size + 1, 0, none⟩) rfl _ _ _ rfl (end_loadG j0 j1)) rfl ?_
  exact ⟨⟨t, a, rfl, HCE.out⟩, (hBw.out.setCell (p := ⟨w.heap.size + 1, 0, none⟩) (by show w.heap.size ≤ w.heap.size + 1; omega) _).setCell (p := ⟨w.heap.size + 1, 1, none⟩) (by show w.heap.size ≤ w.heap.size + 1; omega) _⟩
set_option maxRecDepth 100000 in
set_option maxHeartbeats 4000000 in
theorem hrun_align (pe : Nat → Addr) (E : Ep pe w) {stb sb : Nat} {S : St} (hS : StRow w stb S) {v : Value} {rs : List (List Opx)} (RI : RowsI w v rs) (F : Few rs) (pc many : Int) (p0 : 0 ≤ pc) (p1 : pc < 4294967296) (m0 : -9223372036854775808 ≤ many) (m1 : many ≤ 9223372036854775807) (hpf : planF many rs = (0, -1)) (hno : S.sl = true ∨ S.sl = false ∧ S.pc = pc ∧ S.nx ≠ (pc + 4) % 4294967296) :
    Calls Tryz.prog 38 #[.agg #[.int .u32 pc, .int .i64 many, v], .pointer (some ⟨stb, 0, none⟩), .pointer (some ⟨sb, 0, none⟩)] w fun e w' => e = .returned (.tuple #[.agg #[.bool false, .int .i64 0], .iface 311 (.pointer (some (pe 9)))]) ∧ Below w.heap.size w w' := by
  have B0 : Below w.heap.size w ((w.alloc (.cells #[.int .u32 pc, .int .i64 many, v] 75)).alloc (.cells #[.bool false, .int .i64 0] 45)) := ((Below.refl _ _).alloc (Nat.le_refl _) _).alloc (by simp) _
  have k0 : ((w.alloc (.cells #[.int .u32 pc, .int .i64 many, v] 75)).alloc (.cells #[.bool false, .int .i64 0] 45)).cell? ⟨w.heap.size, 0, none⟩ = some (.int .u32 pc) := by simp
  have k1 : ((w.alloc (.cells #[.int .u32 pc, .int .i64 many, v] 75)).alloc (.cells #[.bool false, .int .i64 0] 45)).cell? ⟨w.heap.size, 1, none⟩ = some (.int .i64 many) := by simp
  have k2 : ((w.alloc (.cells #[.int .u32 pc, .int .i64 many, v] 75)).alloc (.cells #[.bool false, .int .i64 0] 45)).cell? ⟨w.heap.size, 2, none⟩ = some v := by simp
  have e0 : ((w.alloc (.cells #[.int .u32 pc, .int .i64 many, v] 75)).alloc (.cells #[.bool false, .int .i64 0] 45)).cell? ⟨w.heap.size + 1, 0, none⟩ = some (.bool false) := by simp
  have e1 : ((w.alloc (.cells #[.int .u32 pc, .int .i64 many, v] 75)).alloc (.cells #[.bool false, .int .i64 0] 45)).cell? ⟨w.heap.size + 1, 1, none⟩ = some (.int .i64 0) := by simp
  have ef := enF w pc many v
  have hsz0 : ((w.alloc (.cells #[.int .u32 pc, .int .i64 many, v] 75)).alloc (.cells #[.bool false, .int .i64 0] 45)).heap.size = w.heap.size + 2 := by simp
  have hck := checkP_any pe (E.stays B0) (RI.stays B0) F pc many m0 m1
  rw [hpf] at hck
  have HBE : Hid (∀ W, Below w.heap.size w W → Calls Tryz.prog 50 #[.int .u32 pc, .pointer (some ⟨stb, 0, none⟩), .pointer (some ⟨sb, 0, none⟩)] W fun e w' => e = .returned (.tuple #[.pointer none, .iface 311 (.pointer (some (pe 9)))]) ∧ Below W.heap.size W w') := fun W hW => begin_no pe (E.e.stays hW) (hS.stays hW) pc p0 p1 hno
  have HB0 : Hid (Below w.heap.size w ((w.alloc (.cells #[.int .u32 pc, .int .i64 many, v] 75)).alloc (.cells #[.bool false, .int .i64 0] 45))) := B0
  obtain ⟨ra, rc, hv, _⟩ := id RI
  subst hv
  clear E RI F B0 hpf hS hno
  go_enter Tryz.func38, Tryz.ntmps38
  go_upto_region 3 with fail
  generalize ((w.alloc (.cells #[.int .u32 pc, .int .i64 many, .slice ra rs.length rc] 75)).alloc (.cells #[.bool false, .int .i64 0] 45)) = V at *
  go_wp2_with fail
  refine hck.mono ?_
  rintro e w1 ⟨⟨x, rfl, hC⟩, hb1⟩
  obtain rfl : x = .nilIface := by
    rcases hC with ⟨_, h⟩ | ⟨h1, _⟩
    · exact h
    · exact absurd h1 (by decide)
  have q0 := (hb1.cell (p := ⟨w.heap.size + 1, 0, none⟩) (show w.heap.size + 1 < V.heap.size by omega)).trans e0
  have q1 := (hb1.cell (p := ⟨w.heap.size + 1, 1, none⟩) (show w.heap.size + 1 < V.heap.size by omega)).trans e1
  have qf : ∀ j, w1.frozen? ⟨w.heap.size + 1, j, none⟩ = false := fun j => (hb1.frozen (p := ⟨w.heap.size + 1, j, none⟩) (show w.heap.size + 1 < V.heap.size by omega)).trans (ef j)
  have l0 := (hb1.cell (p := ⟨w.heap.size, 0, none⟩) (show w.heap.size < V.heap.size by omega)).trans k0
  have hBw : Hid (Below w.heap.size w w1) := HB0.out.trans (hb1.mono (by omega))
  have zz : w.heap.size + 1 < w1.heap.size := by have := hb1.size; omega
  have zz0 : w.heap.size < w1.heap.size := by omega
  have hbe := HBE.out w1 hBw.out
  clear hck hb1 hC e0 e1 ef k0 k1 k2
  go_wp2_with fail
  refine hbe.mono ?_
  rintro e w2 ⟨rfl, hb2⟩
  have r0 := (hb2.cell (p := ⟨w.heap.size + 1, 0, none⟩) zz).trans q0
  have r1 := (hb2.cell (p := ⟨w.heap.size + 1, 1, none⟩) zz).trans q1
  have rf : ∀ j, w2.frozen? ⟨w.heap.size + 1, j, none⟩ = false := fun j => (hb2.frozen (p := ⟨w.heap.size + 1, j, none⟩) zz).trans (qf j)
  have hBw2 : Hid (Below w.heap.size w w2) := hBw.out.trans (hb2.mono (by omega))
  have zz2 : w.heap.size + 1 < w2.heap.size := by have := hb2.size; omega
  clear hbe hb2 q0 q1 qf l0
  go_wp2
  obtain ⟨j0, j1⟩ := end_putG r0 r1 (.bool false) (.int .i64 0)
  refine bodyPost_ret (results_cell1G (A := ⟨w.heap.size + 1, 0, none⟩) rfl _ _ _ rfl (end_loadG j0 j1)) rfl ?_
  exact ⟨rfl, (hBw2.out.setCell (p := ⟨w.heap.size + 1, 0, none⟩) (by show w.heap.size ≤ w.heap.size + 1; omega) _).setCell (p := ⟨w.heap.size + 1, 1, none⟩) (by show w.heap.size ≤ w.heap.size + 1; omega) _⟩
end
end Go.Proofs.YtjkencgcdlfjhaaGreatDoor
/-
  A plan's run as the document has it.
-/
namespace Go.Proofs.YtjkencgcdlfjhaaGreatDoor
open Go.RowKit Go.Maps
open Num
set_option linter.unusedVariables false
def ozA : Oz → Int
  | .trap t => t
  | _ => 0
def ozF : Oz → Bool
  | .fell => true
  | _ => false
theorem runT_any {w : World} {rb gb kb hb : Nat} {m : Nat → Int} {wt ht : Int → Bool} (D : DMem w rb gb kb hb m wt ht) (sb : Nat) (S : St) (hS : StRow w sb S) (ok : S.ok) (c0 : 0 ≤ S.ct) (c1 : S.ct ≤ 1099511627776) (hsr : sb ≠ rb) (hsg : gb ≠ sb) {v : Value} {rs : List (List Opx)} (R : RowsI w v rs) (F : Few rs) (many : Int) (m0 : 1 ≤ many) (m1 : many ≤ 24) (hw : ∀ row ∈ rs, ∀ o ∈ row, opE o many = 0) :
    Calls Tryz.prog 40 #[v, .int .i64 many, .pointer (some ⟨sb, 0, none⟩), .pointer (some ⟨rb, 0, none⟩)] w fun e w' => e = .returned (.agg #[.bool (ozT (runZ wt rs (nwX (rgS S) 34) m)), .int .i64 (ozA (runZ wt rs (nwX (rgS S) 34) m)), .bool (ozF (runZ wt rs (nwX (rgS S) 34) m))]) ∧ Rn w w' sb rb gb (ozS S many (runZ wt rs (nwX (rgS S) 34) m)) (ozM m (runZ wt rs (nwX (rgS S) 34) m)) := by
  refine (runOf_any D sb (stV S) hS (rgS S) (rgS_v S) (rgS_bd ok) S.ct S.pc S.nx rfl rfl rfl c0 c1 hsr R F many m0 m1 hw).mono ?_
  intro e w' h
  have hsb := hS.lt
  have hg := D.d.lt (.inr (.inl rfl))
  cases hz : runZ wt rs (nwX (rgS S) 34) m with
  | trap t =>
    rw [hz] at h
    obtain ⟨rfl, hb⟩ := h
    exact ⟨rfl, ⟨hS.stays hb, ⟨gb, (D.d.stays hb).c0, .inl rfl, fun i hi => (D.d.stays hb).cell i hi⟩, fun k hk _ _ => hb.block k hk, hb.size, hb.os, hb.tape, hb.output⟩⟩
  | fell =>
    rw [hz] at h
    obtain ⟨rfl, hb⟩ := h
    exact ⟨rfl, ⟨hS.stays hb, ⟨gb, (D.d.stays hb).c0, .inl rfl, fun i hi => (D.d.stays hb).cell i hi⟩, fun k hk _ _ => hb.block k hk, hb.size, hb.os, hb.tape, hb.output⟩⟩
  | leave M =>
    rw [hz] at h
    obtain ⟨rfl, h1, ⟨gb', h2, h3, h4⟩, h5, h6, h7, h8, h9⟩ := h
    exact ⟨rfl, ⟨RowIs.congrP h1 (stF_st S M many), ⟨gb', h2, .inr h3, h4⟩, h5, h6, h7, h8, h9⟩⟩
theorem rowZ_x0 {wt : Int → Bool} {x m : Nat → Int} {many : Int} : ∀ (row : List Opx) (M : Mz), (∀ o ∈ row, opE o many = 0) → (row.foldl (fun M o => appZ M o (resZ wt x m o)) M).x 0 = M.x 0
  | [], M, _ => rfl
  | o :: row, M, h => by
    have e := rowZ_x0 (wt := wt) (x := x) (m := m) row (appZ M o (resZ wt x m o)) (fun q hq => h q (by simp [hq]))
    show (row.foldl (fun M o => appZ M o (resZ wt x m o)) (appZ M o (resZ wt x m o))).x 0 = M.x 0
    rw [e]
    show (if 0 < wrX o then setX M.x (wrX o) (resZ wt x m o).v else M.x) 0 = M.x 0
    split
    · rename_i hw
      unfold setX
      rw [if_neg (by omega)]
    · rfl
theorem runZ_x0 {wt : Int → Bool} {many : Int} : ∀ (rs : List (List Opx)) (x m : Nat → Int) (M : Mz), (∀ r ∈ rs, ∀ o ∈ r, opE o many = 0) → runZ wt rs x m = .leave M → M.x 0 = x 0
  | [], x, m, M, _, h => by cases h
  | r :: rs, x, m, M, hw, h => by
    rw [runZ_cons] at h
    cases ht : trapZ wt x m r with
    | some t => rw [ht] at h; cases h
    | none =>
      rw [ht] at h
      simp only at h
      have hx := rowZ_x0 (wt := wt) (x := x) (m := m) r ⟨x, m, -1⟩ (hw r (by simp))
      by_cases hlv : (rowZ wt x m r).lv < 0
      · rw [if_pos hlv] at h
        have := runZ_x0 rs _ _ M (fun q hq => hw q (by simp [hq])) h
        rw [this]; exact hx
      · rw [if_neg hlv] at h
        injection h with h
        rw [← h]; exact hx
theorem begX_nw {T : St} (h0 : T.r 0 = 0) : begX T = nwX (rgS T) 34 := by
  funext j
  unfold begX nwX rgS
  by_cases e0 : j = 0
  · subst e0; rw [if_pos (by omega), if_neg (by omega)]; exact h0
  · by_cases h : j < 34
    · rw [if_pos (show 1 ≤ j ∧ j < 34 by omega)]
      by_cases h2 : j < 32
      · rw [if_pos h2, if_pos h2]
      · rw [if_neg h2, if_neg h2]
        by_cases h3 : j = 32
        · rw [if_pos h3, if_pos h3]
        · rw [if_neg h3, if_neg h3, if_pos (by omega)]
    · rw [if_neg (show ¬ (1 ≤ j ∧ j < 34) by omega), if_neg (by omega), if_neg (by omega), if_neg (by omega)]
theorem left_same {S : St} {M : Mz} {many : Int} (h : M.x 0 = S.r 0) : ∀ j, j < 43 → stV (leftS S M.x M.lv many) j = stV (lfS S M many) j := by
  intro j hj
  by_cases h32 : j < 32
  · unfold stV leftS lfS
    rw [if_pos h32, if_pos h32]
    show Value.int .u32 (M.x j) = Value.int .u32 (if 1 ≤ j then M.x j else S.r j)
    by_cases e : 1 ≤ j
    · rw [if_pos e]
    · rw [if_neg e, show j = 0 by omega, h]
  · have hc : j = 32 ∨ j = 33 ∨ j = 34 ∨ j = 35 ∨ j = 36 ∨ j = 37 ∨ j = 38 ∨ j = 39 ∨ j = 40 ∨ j = 41 ∨ j = 42 := by omega
    rcases hc with rfl | rfl | rfl | rfl | rfl | rfl | rfl | rfl | rfl | rfl | rfl <;> rfl
/-- what a run of the program's leaves behind -/
structure HOut (w w' : World) (stb sb bp bw bh : Nat) (wt ht : Int → Bool) (F : St) (M : Nat → Int) : Prop where
  st : StRow w' stb F
  rm : ∃ N', RamIs w' sb bp bw bh N' M wt ht
  sz : w.heap.size ≤ w'.heap.size
  bk : ∀ k, k < w.heap.size → k ≠ stb → k ≠ bp → k ≠ bh → w'.heap[k]? = w.heap[k]?
  os : w'.os = w.os
  tape : w'.tape = w.tape
  output : w'.output = w.output
theorem HOut.of_below {w w' : World} {stb sb bp bw bh N : Nat} {wt ht : Int → Bool} {F : St} {M : Nat → Int} (hS : StRow w stb F) (R : RamIs w sb bp bw bh N M wt ht) (h : Below w.heap.size w w') : HOut w w' stb sb bp bw bh wt ht F M :=
  ⟨hS.stays h, ⟨N, R.stays h (Nat.le_refl _)⟩, h.size, fun k hk _ _ _ => h.block k hk, h.os, h.tape, h.output⟩
theorem HOut.below {w w' wz : World} {stb sb bp bw bh : Nat} {wt ht : Int → Bool} {F : St} {M : Nat → Int} (R : HOut w w' stb sb bp bw bh wt ht F M) (h : Below wz.heap.size wz w) (h1 : wz.heap.size ≤ stb) (h2 : wz.heap.size ≤ bp) (h3 : wz.heap.size ≤ bh) : Below wz.heap.size wz w' :=
  ⟨R.os.trans h.os, R.tape.trans h.tape, R.output.trans h.output, Nat.le_trans h.size R.sz, fun k hk => (R.bk k (Nat.lt_of_lt_of_le hk h.size) (by omega) (by omega) (by omega)).trans (h.block k hk)⟩
theorem hrunT_any {w : World} {stb sb bp bw bh N : Nat} {m : Nat → Int} {wt ht : Int → Bool} (pe : Nat → Addr) (E : Ep pe w) (R : RamIs w sb bp bw bh N m wt ht) (hN : N ≤ 900000) {S : St} (ok : S.ok) (hS : StRow w stb S) (n1 : sb ≠ stb) (n2 : bp ≠ stb) (n3 : bw ≠ stb) (n4 : bh ≠ stb) {v : Value} {rs : List (List Opx)} (RI : RowsI w v rs) (rok : ∀ r ∈ rs, ∀ o ∈ r, o.ok) (F : Few rs) (pc many : Int) (p0 : 0 ≤ pc) (p1 : pc < 4294967296) (m0 : -9223372036854775808 ≤ many) (m1 : many ≤ 9223372036854775807) (hpf : planF many rs = (0, -1)) (hsl : S.sl = false) (hpc : S.pc = pc) (hnx : S.nx = lo (pc + 4)) (hr0 : S.r 0 = 0) (c0 : 0 ≤ S.ct) (c1 : S.ct ≤ 1152921504606846976) :
    Calls Tryz.prog 38 #[.agg #[.int .u32 pc, .int .i64 many, v], .pointer (some ⟨stb, 0, none⟩), .pointer (some ⟨sb, 0, none⟩)] w fun e w' => e = .returned (.tuple #[.agg #[.bool (ozT (runZ wt rs (nwX (rgS S) 34) m)), .int .i64 (ozA (runZ wt rs (nwX (rgS S) 34) m))], .nilIface]) ∧ ∃ G, stA G = stA (ozS S many (runZ wt rs (nwX (rgS S) 34) m)) ∧ HOut w w' stb sb bp bw bh wt ht G (ozM m (runZ wt rs (nwX (rgS S) 34) m)) := by
  have hlt := ram_ltG R
  have PK := planF_ok hpf
  have hwell : ∀ r ∈ rs, ∀ o ∈ r, o.ok ∧ opE o many = 0 := fun r hr o ho => ⟨rok r hr o ho, (PK.row r hr).2 o ho⟩
  have hnf := runZ_nofell (many := many) wt rs (nwX (rgS S) 34) m PK.ne hwell PK.last (nwX_bd (rgS_bd ok)) R.mb
  have hx0 := fun M => runZ_x0 (wt := wt) (many := many) rs (nwX (rgS S) 34) m M (fun r hr o ho => (hwell r hr o ho).2)
  refine (hrun_ok pe E R hN ok hS n1 n2 n3 n4 hlt.1 hlt.2.1 hlt.2.2.1 hlt.2.2.2 RI F pc many p0 p1 m0 m1 hpf hsl hpc hnx c0 c1).mono ?_
  intro e w' h
  rw [begX_nw hr0] at h
  cases hz : runZ wt rs (nwX (rgS S) 34) m with
  | trap t =>
    rw [hz] at h
    obtain ⟨rfl, hb⟩ := h
    exact ⟨rfl, S, rfl, HOut.of_below hS R hb⟩
  | fell => exact absurd hz hnf
  | leave M =>
    rw [hz] at h
    obtain ⟨rfl, h1, ⟨N', _, h2⟩, h3, h4, h5, h6, h7⟩ := h
    have hM : M.x 0 = S.r 0 := by rw [hx0 M hz, hr0]; unfold nwX; rw [if_neg (by omega)]
    exact ⟨rfl, leftS S M.x M.lv many, stA_congr (left_same hM), ⟨h1, ⟨N', h2⟩, h3, h4, h5, h6, h7⟩⟩
end Go.Proofs.YtjkencgcdlfjhaaGreatDoor
