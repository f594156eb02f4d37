/-
  Package opt: Opt.
-/
import Derived.Test.YtcccaejjhodnkaaDoorOptDrop
import Derived.Laws.ResultCell
namespace Go.Proofs.YtcccaejjhodnkaaDoor
open Go.RowKit Go.Maps
open Num
set_option linter.unusedVariables false
theorem results_cell1 {fn : Func} {p u : Tmp} {ty : TypeId} {A : Addr} {x : Value} (h : fn.results = #[.cell p ty, .tmp u]) (tmps : Array Value) (P : Program) (w : World) (hp : tmps.getD p undef = .pointer (some A)) (hl : (loadVar ty A).run P w = .ok x w) :
    (results fn tmps).run P w = .ok (.tuple #[x, tmps.getD u undef]) w := by
  rw [results_cell_tmp h, hp]
  simp [asAddr, Result.andThen, hl]
theorem code_load {w : World} {B : Nat} {a b c : Value} (z0 : w.cell? ⟨B, 0, none⟩ = some a) (z1 : w.cell? ⟨B, 1, none⟩ = some b) (z2 : w.cell? ⟨B, 2, none⟩ = some c) : (loadVar 35 ⟨B, 0, none⟩).run Tryd.prog w = .ok (.agg #[a, b, c]) w := by
  simp [go_sem, z0, z1, z2]
/-- Opt's own two variables: the code (block cb), what it hands back (block rb) -/
structure OBox (W : World) (cb rb : Nat) (pc many : Int) (v : Value) : Prop where
  k0 : W.cell? ⟨cb, 0, none⟩ = some (.int .u32 pc)
  k1 : W.cell? ⟨cb, 1, none⟩ = some (.int .i64 many)
  k2 : W.cell? ⟨cb, 2, none⟩ = some v
  z0 : W.cell? ⟨rb, 0, none⟩ = some (.int .u32 0)
  z1 : W.cell? ⟨rb, 1, none⟩ = some (.int .i64 0)
  z2 : W.cell? ⟨rb, 2, none⟩ = some (.slice none 0 0)
  fk : ∀ j, W.frozen? ⟨cb, j, none⟩ = false
  fz : ∀ j, W.frozen? ⟨rb, j, none⟩ = false
theorem OBox.block {W W' : World} {cb rb : Nat} {pc many : Int} {v : Value} (O : OBox W cb rb pc many v) (h1 : W'.heap[cb]? = W.heap[cb]?) (h2 : W'.heap[rb]? = W.heap[rb]?) : OBox W' cb rb pc many v := by
  have c1 : ∀ j, W'.cell? ⟨cb, j, none⟩ = W.cell? ⟨cb, j, none⟩ := fun j => World.cell?_of_block (a := ⟨cb, j, none⟩) h1
  have c2 : ∀ j, W'.cell? ⟨rb, j, none⟩ = W.cell? ⟨rb, j, none⟩ := fun j => World.cell?_of_block (a := ⟨rb, j, none⟩) h2
  have f1 : ∀ j, W'.frozen? ⟨cb, j, none⟩ = W.frozen? ⟨cb, j, none⟩ := fun j => World.frozen?_of_block (a := ⟨cb, j, none⟩) h1
  have f2 : ∀ j, W'.frozen? ⟨rb, j, none⟩ = W.frozen? ⟨rb, j, none⟩ := fun j => World.frozen?_of_block (a := ⟨rb, j, none⟩) h2
  exact ⟨(c1 0).trans O.k0, (c1 1).trans O.k1, (c1 2).trans O.k2, (c2 0).trans O.z0, (c2 1).trans O.z1, (c2 2).trans O.z2, fun j => (f1 j).trans (O.fk j), fun j => (f2 j).trans (O.fz j)⟩
theorem OBox.put {W : World} {cb rb : Nat} {pc many : Int} {v : Value} (O : OBox W cb rb pc many v) (hne : cb ≠ rb) (v' : Value) : OBox (W.setCell ⟨cb, 2, none⟩ v') cb rb pc many v' := by
  have hb : (W.setCell ⟨cb, 2, none⟩ v').heap[rb]? = W.heap[rb]? := Below.heap_setCell _ _ _ _ (by show rb ≠ cb; omega)
  have c2 : ∀ j, (W.setCell ⟨cb, 2, none⟩ v').cell? ⟨rb, j, none⟩ = W.cell? ⟨rb, j, none⟩ := fun j => World.cell?_of_block (a := ⟨rb, j, none⟩) hb
  refine ⟨by rw [set_other (by omega)]; exact O.k0, by rw [set_other (by omega)]; exact O.k1, set_same (by rw [O.k2]; rfl), (c2 0).trans O.z0, (c2 1).trans O.z1, (c2 2).trans O.z2, fun j => by simp only [World.frozen?_setCell]; exact O.fk j, fun j => by simp only [World.frozen?_setCell]; exact O.fz j⟩
theorem OBox.new (w : World) (pc many : Int) (v : Value) : OBox ((w.alloc (.cells #[.int .u32 pc, .int .i64 many, v] 35)).alloc (.cells #[.int .u32 0, .int .i64 0, .slice none 0 0] 35)) w.heap.size (w.heap.size + 1) pc many v := by
  refine ⟨by simp, by simp, by simp, by simp, by simp, by simp, fun j => by simp, fun j => by simp⟩
theorem OBox.lt {W : World} {cb rb : Nat} {pc many : Int} {v : Value} (O : OBox W cb rb pc many v) : cb < W.heap.size ∧ rb < W.heap.size := ⟨World.block_lt_of_cell? _ _ O.k0, World.block_lt_of_cell? _ _ O.z0⟩
theorem put3 {w : World} {B : Nat} {u0 u1 u2 v0 v1 v2 : Value} (z0 : w.cell? ⟨B, 0, none⟩ = some u0) (z1 : w.cell? ⟨B, 1, none⟩ = some u1) (z2 : w.cell? ⟨B, 2, none⟩ = some u2) : (((w.setCell ⟨B, 0, none⟩ v0).setCell ⟨B, 1, none⟩ v1).setCell ⟨B, 2, none⟩ v2).cell? ⟨B, 0, none⟩ = some v0 ∧ (((w.setCell ⟨B, 0, none⟩ v0).setCell ⟨B, 1, none⟩ v1).setCell ⟨B, 2, none⟩ v2).cell? ⟨B, 1, none⟩ = some v1 ∧ (((w.setCell ⟨B, 0, none⟩ v0).setCell ⟨B, 1, none⟩ v1).setCell ⟨B, 2, none⟩ v2).cell? ⟨B, 2, none⟩ = some v2 := by
  refine ⟨?_, ?_, ?_⟩
  · rw [set_other (by omega), set_other (by omega)]; exact set_same (by rw [z0]; rfl)
  · rw [set_other (by omega)]; exact set_same (by rw [set_other (by omega), z1]; rfl)
  · exact set_same (by rw [set_other (by omega), set_other (by omega), z2]; rfl)
theorem CErr.set3 {pe : Nat → Addr} {w : World} {f : Int × Int} {v : Value} {rb : Nat} {a : Int} (C : CErr pe w f v) (z : w.cell? ⟨rb, 0, none⟩ = some (.int .u32 a)) (v0 v1 v2 : Value) : CErr pe (((w.setCell ⟨rb, 0, none⟩ v0).setCell ⟨rb, 1, none⟩ v1).setCell ⟨rb, 2, none⟩ v2) f v := by
  rcases C with h | ⟨h1, h2, fb, h3, h4, h5⟩
  · exact .inl h
  · refine .inr ⟨h1, h2, fb, h3, ?_, ?_⟩
    all_goals
      have hne : fb ≠ rb := by intro e; rw [e, z] at h4; cases h4
      rw [World.cell?_of_block (a := ⟨fb, _, none⟩) (Below.heap_setCell _ _ _ _ hne), World.cell?_of_block (a := ⟨fb, _, none⟩) (Below.heap_setCell _ _ _ _ hne), World.cell?_of_block (a := ⟨fb, _, none⟩) (Below.heap_setCell _ _ _ _ hne)]
      assumption
set_option maxRecDepth 100000 in
set_option maxHeartbeats 4000000 in
theorem opt_bad (pe : Nat → Addr) {w : World} (E : Eg pe w) {v : Value} {l : List Opx} (A : OpsIn w v l) (hl : (l.length : Int) ≤ 1000000) (pc many lev : Int) (m0 : -9223372036854775808 ≤ many) (m1 : many ≤ 9223372036854775807) (hf : codeF many l ≠ (0, -1)) :
    Calls Tryd.prog 29 #[.agg #[.int .u32 pc, .int .i64 many, v], .int .i64 lev] w fun e w' => (∃ t p, e = .returned (.tuple #[.agg #[.int .u32 0, .int .i64 0, .slice none 0 0], .iface t (.pointer p)]) ∧ CErr pe w' (codeF many l) (.iface t (.pointer p))) ∧ Below w.heap.size w w' := by
  have hB0 : Below w.heap.size w ((w.alloc (.cells #[.int .u32 pc, .int .i64 many, v] 35)).alloc (.cells #[.int .u32 0, .int .i64 0, .slice none 0 0] 35)) := ((Below.refl _ _).alloc (Nat.le_refl _) _).alloc (by simp) _
  have hck := check_bad pe (E.stays hB0) (A.stays hB0) hl pc many m0 m1 hf
  have O0 := OBox.new w pc many v
  have HE0 : Hid (Eg pe w) := E
  obtain ⟨ao, cap, rfl, _⟩ := A.sh
  clear E A hf
  go_enter Tryd.func29, Tryd.ntmps29
  go_wp2_with fail
  generalize (w.alloc (.cells #[.int .u32 pc, .int .i64 many, .slice ao l.length cap] 35)).alloc (.cells #[.int .u32 0, .int .i64 0, .slice none 0 0] 35) = V at *
  refine hck.mono ?_
  rintro e w1 ⟨⟨t, p, rfl, hC⟩, hb1⟩
  have O1 := O0.block (hb1.block _ O0.lt.1) (hb1.block _ O0.lt.2)
  have HB : Hid (Below w.heap.size w w1) := hB0.trans (hb1.mono (by have := hB0.size; omega))
  have hz : w.heap.size + 1 < w1.heap.size := O1.lt.2
  have HC : Hid (CErr pe w1 (codeF many l) (.iface t (.pointer p))) := hC
  obtain ⟨k0, k1, k2, z0, z1, z2, fk, fz⟩ := O1
  clear hck hb1 hC O0 fk
  go_wp2
  obtain ⟨y0, y1, y2⟩ := put3 (v0 := .int .u32 0) (v1 := .int .i64 0) (v2 := .slice none 0 0) z0 z1 z2
  refine bodyPost_ret (results_cell1 (A := ⟨w.heap.size + 1, 0, none⟩) rfl _ _ _ rfl (code_load y0 y1 y2)) rfl ?_
  exact ⟨⟨t, p, rfl, HC.out.set3 z0 _ _ _⟩, ((HB.out.setCell (p := ⟨w.heap.size + 1, 0, none⟩) (by show _ ≤ w.heap.size + 1; omega) _).setCell (p := ⟨w.heap.size + 1, 1, none⟩) (by show _ ≤ w.heap.size + 1; omega) _).setCell (p := ⟨w.heap.size + 1, 2, none⟩) (by show _ ≤ w.heap.size + 1; omega) _⟩
/-- what Opt hands back of a code that is well -/
def OptPost (w : World) (pc many : Int) (l : List Opx) (e : Ending) (w' : World) : Prop :=
  ∃ g cap, e = .returned (.tuple #[.agg #[.int .u32 pc, .int .i64 many, .slice (some ⟨g, 0, none⟩) l.length cap], .nilIface]) ∧ l.length ≤ cap ∧ OpsRw w' g l ∧ w.heap.size ≤ g ∧ Below w.heap.size w w' ∧ ∀ o ∈ l, o.ok
set_option maxRecDepth 100000 in
set_option maxHeartbeats 4000000 in
theorem opt_0 (pe : Nat → Addr) {w : World} (E : Eg pe w) {v : Value} {l : List Opx} (A : OpsIn w v l) (hl : l.length ≤ 1000000) (pc many : Int) (m0 : -9223372036854775808 ≤ many) (m1 : many ≤ 9223372036854775807) (hf : codeF many l = (0, -1)) :
    Calls Tryd.prog 29 #[.agg #[.int .u32 pc, .int .i64 many, v], .int .i64 0] w fun e w' => OptPost w pc many (optL 0 l) e w' := by
  have hB0 : Below w.heap.size w ((w.alloc (.cells #[.int .u32 pc, .int .i64 many, v] 35)).alloc (.cells #[.int .u32 0, .int .i64 0, .slice none 0 0] 35)) := ((Below.refl _ _).alloc (Nat.le_refl _) _).alloc (by simp) _
  have hck := check_ok pe (E.stays hB0) (A.stays hB0) (by omega) pc many m0 m1 hf
  have O0 := OBox.new w pc many v
  have AH : Hid (OpsIn w v l) := A
  have WH : Hid (Well many l) := codeF_well.1 hf
  have hpos : 0 < l.length := List.length_pos_iff.2 WH.out.ne
  have HL : Hid (optL 0 l = l) := rfl
  obtain ⟨ao, cap, rfl, _⟩ := A.sh
  clear E A hf
  go_enter Tryd.func29, Tryd.ntmps29
  go_wp2_with fail
  generalize (w.alloc (.cells #[.int .u32 pc, .int .i64 many, .slice ao l.length cap] 35)).alloc (.cells #[.int .u32 0, .int .i64 0, .slice none 0 0] 35) = V at *
  refine hck.mono ?_
  rintro e w1 ⟨rfl, hb1⟩
  have O1 := O0.block (hb1.block _ O0.lt.1) (hb1.block _ O0.lt.2)
  have HB1 : Hid (Below w.heap.size w w1) := hB0.trans (hb1.mono (by have := hB0.size; omega))
  have hz1 : w.heap.size + 1 < w1.heap.size := O1.lt.2
  have hcl := clone_any (AH.out.stays HB1.out) hl hpos
  have OH1 : Hid (OBox w1 w.heap.size (w.heap.size + 1) pc many (.slice ao l.length cap)) := O1
  obtain ⟨k0, k1, k2, z0, z1, z2, fk, fz⟩ := O1
  clear hck hb1 O0
  go_wp2_with fail
  refine hcl.mono ?_
  rintro e w2 ⟨g, cp, rfl, hcp, hR2, hge, hb2⟩
  have O2 : OBox w2 w.heap.size (w.heap.size + 1) pc many (.slice ao l.length cap) := OH1.out.block (hb2.block _ (by omega)) (hb2.block _ (by omega))
  have hz2 : w1.heap.size ≤ w2.heap.size := hb2.size
  have HB2 : Hid (Below w.heap.size w w2) := HB1.out.trans (hb2.mono (by omega))
  have O3 : Hid (OBox (w2.setCell ⟨w.heap.size, 2, none⟩ (.slice (some ⟨g, 0, none⟩) l.length cp)) w.heap.size (w.heap.size + 1) pc many (.slice (some ⟨g, 0, none⟩) l.length cp)) := O2.put (by omega) _
  have R3 : Hid (OpsRw (w2.setCell ⟨w.heap.size, 2, none⟩ (.slice (some ⟨g, 0, none⟩) l.length cp)) g l) := hR2.block (Below.heap_setCell _ _ _ _ (by show g ≠ w.heap.size; omega))
  have B3 : Hid (Below w.heap.size w (w2.setCell ⟨w.heap.size, 2, none⟩ (.slice (some ⟨g, 0, none⟩) l.length cp))) := HB2.out.setCell (p := ⟨w.heap.size, 2, none⟩) (Nat.le_refl _) _
  have hz3 : w2.heap.size ≤ (w2.setCell ⟨w.heap.size, 2, none⟩ (.slice (some ⟨g, 0, none⟩) l.length cp)).heap.size := by simp [World.setCell]
  obtain ⟨k0, k1, k2, z0, z1, z2, fk, fz⟩ := O2
  have hzz2 : w.heap.size < w2.heap.size := by omega
  clear hcl hR2 hb2 OH1
  go_upto_region 7 with fail
  generalize w2.setCell ⟨w.heap.size, 2, none⟩ (.slice (some ⟨g, 0, none⟩) l.length cp) = w3 at *
  clear k0 k1 k2 z0 z1 z2 fk fz
  obtain ⟨k0, k1, k2, z0, z1, z2, fk, fz⟩ := O3.out
  have hzz3 : w.heap.size + 1 < w3.heap.size := by omega
  go_wp2
  obtain ⟨y0, y1, y2⟩ := put3 (v0 := .int .u32 pc) (v1 := .int .i64 many) (v2 := .slice (some ⟨g, 0, none⟩) l.length cp) z0 z1 z2
  refine bodyPost_ret (results_cell1 (A := ⟨w.heap.size + 1, 0, none⟩) rfl _ _ _ rfl (code_load y0 y1 y2)) rfl ?_
  refine ⟨g, cp, by rw [HL.out]; rfl, by rw [HL.out]; exact hcp, ?_, by omega, ?_, by rw [HL.out]; exact AH.out.ok⟩
  · rw [HL.out]
    exact R3.out.block (((Below.heap_setCell _ ⟨w.heap.size + 1, 2, none⟩ _ g (by show g ≠ w.heap.size + 1; omega)).trans (Below.heap_setCell _ ⟨w.heap.size + 1, 1, none⟩ _ g (by show g ≠ w.heap.size + 1; omega))).trans (Below.heap_setCell _ ⟨w.heap.size + 1, 0, none⟩ _ g (by show g ≠ w.heap.size + 1; omega)))
  · exact ((B3.out.setCell (p := ⟨w.heap.size + 1, 0, none⟩) (by show _ ≤ w.heap.size + 1; omega) _).setCell (p := ⟨w.heap.size + 1, 1, none⟩) (by show _ ≤ w.heap.size + 1; omega) _).setCell (p := ⟨w.heap.size + 1, 2, none⟩) (by show _ ≤ w.heap.size + 1; omega) _
set_option maxRecDepth 100000 in
set_option maxHeartbeats 4000000 in
theorem opt_1 (pe : Nat → Addr) {w : World} (E : Eg pe w) {v : Value} {l : List Opx} (A : OpsIn w v l) (hl : l.length ≤ 1000000) (pc many : Int) (m0 : -9223372036854775808 ≤ many) (m1 : many ≤ 9223372036854775807) (hf : codeF many l = (0, -1)) :
    Calls Tryd.prog 29 #[.agg #[.int .u32 pc, .int .i64 many, v], .int .i64 1] w fun e w' => OptPost w pc many (optL 1 l) e w' := by
  have hB0 : Below w.heap.size w ((w.alloc (.cells #[.int .u32 pc, .int .i64 many, v] 35)).alloc (.cells #[.int .u32 0, .int .i64 0, .slice none 0 0] 35)) := ((Below.refl _ _).alloc (Nat.le_refl _) _).alloc (by simp) _
  have hck := check_ok pe (E.stays hB0) (A.stays hB0) (by omega) pc many m0 m1 hf
  have O0 := OBox.new w pc many v
  have AH : Hid (OpsIn w v l) := A
  have WH : Hid (Well many l) := codeF_well.1 hf
  have hpos : 0 < l.length := List.length_pos_iff.2 WH.out.ne
  have HL : Hid (optL 1 l = workF fx0 l) := rfl
  obtain ⟨ao, cap, rfl, _⟩ := A.sh
  clear E A hf
  go_enter Tryd.func29, Tryd.ntmps29
  go_wp2_with fail
  generalize (w.alloc (.cells #[.int .u32 pc, .int .i64 many, .slice ao l.length cap] 35)).alloc (.cells #[.int .u32 0, .int .i64 0, .slice none 0 0] 35) = V at *
  refine hck.mono ?_
  rintro e w1 ⟨rfl, hb1⟩
  have O1 := O0.block (hb1.block _ O0.lt.1) (hb1.block _ O0.lt.2)
  have HB1 : Hid (Below w.heap.size w w1) := hB0.trans (hb1.mono (by have := hB0.size; omega))
  have hz1 : w.heap.size + 1 < w1.heap.size := O1.lt.2
  have hcl := clone_any (AH.out.stays HB1.out) hl hpos
  have OH1 : Hid (OBox w1 w.heap.size (w.heap.size + 1) pc many (.slice ao l.length cap)) := O1
  obtain ⟨k0, k1, k2, z0, z1, z2, fk, fz⟩ := O1
  clear hck hb1 O0
  go_wp2_with fail
  refine hcl.mono ?_
  rintro e w2 ⟨g, cp, rfl, hcp, hR2, hge, hb2⟩
  have O2 : OBox w2 w.heap.size (w.heap.size + 1) pc many (.slice ao l.length cap) := OH1.out.block (hb2.block _ (by omega)) (hb2.block _ (by omega))
  have hz2 : w1.heap.size ≤ w2.heap.size := hb2.size
  have HB2 : Hid (Below w.heap.size w w2) := HB1.out.trans (hb2.mono (by omega))
  have O3 : Hid (OBox (w2.setCell ⟨w.heap.size, 2, none⟩ (.slice (some ⟨g, 0, none⟩) l.length cp)) w.heap.size (w.heap.size + 1) pc many (.slice (some ⟨g, 0, none⟩) l.length cp)) := O2.put (by omega) _
  have R3 : Hid (OpsRw (w2.setCell ⟨w.heap.size, 2, none⟩ (.slice (some ⟨g, 0, none⟩) l.length cp)) g l) := hR2.block (Below.heap_setCell _ _ _ _ (by show g ≠ w.heap.size; omega))
  have B3 : Hid (Below w.heap.size w (w2.setCell ⟨w.heap.size, 2, none⟩ (.slice (some ⟨g, 0, none⟩) l.length cp))) := HB2.out.setCell (p := ⟨w.heap.size, 2, none⟩) (Nat.le_refl _) _
  have hz3 : w2.heap.size ≤ (w2.setCell ⟨w.heap.size, 2, none⟩ (.slice (some ⟨g, 0, none⟩) l.length cp)).heap.size := by simp [World.setCell]
  obtain ⟨k0, k1, k2, z0, z1, z2, fk, fz⟩ := O2
  have hzz2 : w.heap.size < w2.heap.size := by omega
  clear hcl hR2 hb2 OH1
  go_upto_region 7 with fail
  generalize w2.setCell ⟨w.heap.size, 2, none⟩ (.slice (some ⟨g, 0, none⟩) l.length cp) = w3 at *
  clear k0 k1 k2 z0 z1 z2 fk fz
  obtain ⟨k0, k1, k2, z0, z1, z2, fk, fz⟩ := O3.out
  have hzz3 : w.heap.size + 1 < w3.heap.size := by omega
  have hwk := workOut_any (cap := cp) R3.out (by omega) hcp AH.out.ok hpos
  clear R3
  go_wp2_with fail
  refine hwk.mono ?_
  rintro e w4 ⟨rfl, hR4, hok4, hg4⟩
  have O4 : OBox w4 w.heap.size (w.heap.size + 1) pc many (.slice (some ⟨g, 0, none⟩) l.length cp) := O3.out.block (hg4.block _ (by omega) (by intro e; have := Option.some.inj e; omega)) (hg4.block _ (by omega) (by intro e; have := Option.some.inj e; omega))
  have B4 : Hid (Below w.heap.size w w4) := below_of_grown B3.out hg4 (Nat.le_refl _) (by omega)
  have hz4 : w3.heap.size ≤ w4.heap.size := hg4.size
  have R4 : Hid (OpsRw w4 g (workF fx0 l)) := hR4
  have OK4 : Hid (∀ o ∈ workF fx0 l, o.ok) := hok4
  have hzz4 : w.heap.size + 1 < w4.heap.size := by omega
  have HWL : Hid ((workF fx0 l).length = l.length) := workF_len l fx0
  clear hwk hR4 hok4 hg4 O3 k0 k1 k2 z0 z1 z2 fk fz
  have O4H : Hid (OBox w4 w.heap.size (w.heap.size + 1) pc many (.slice (some ⟨g, 0, none⟩) l.length cp)) := O4
  obtain ⟨k0, k1, k2, z0, z1, z2, fk, fz⟩ := O4
  go_wp2
  obtain ⟨y0, y1, y2⟩ := put3 (v0 := .int .u32 pc) (v1 := .int .i64 many) (v2 := .slice (some ⟨g, 0, none⟩) l.length cp) z0 z1 z2
  refine bodyPost_ret (results_cell1 (A := ⟨w.heap.size + 1, 0, none⟩) rfl _ _ _ rfl (code_load y0 y1 y2)) rfl ?_
  refine ⟨g, cp, by rw [HL.out, HWL.out]; rfl, by rw [HL.out, HWL.out]; exact hcp, ?_, by omega, ?_, by rw [HL.out]; exact OK4.out⟩
  · rw [HL.out]
    exact R4.out.block (((Below.heap_setCell _ ⟨w.heap.size + 1, 2, none⟩ _ g (by show g ≠ w.heap.size + 1; omega)).trans (Below.heap_setCell _ ⟨w.heap.size + 1, 1, none⟩ _ g (by show g ≠ w.heap.size + 1; omega))).trans (Below.heap_setCell _ ⟨w.heap.size + 1, 0, none⟩ _ g (by show g ≠ w.heap.size + 1; omega)))
  · exact ((B4.out.setCell (p := ⟨w.heap.size + 1, 0, none⟩) (by show _ ≤ w.heap.size + 1; omega) _).setCell (p := ⟨w.heap.size + 1, 1, none⟩) (by show _ ≤ w.heap.size + 1; omega) _).setCell (p := ⟨w.heap.size + 1, 2, none⟩) (by show _ ≤ w.heap.size + 1; omega) _
set_option maxRecDepth 100000 in
set_option maxHeartbeats 4000000 in
theorem opt_2 (pe : Nat → Addr) {w : World} (E : Eg pe w) {v : Value} {l : List Opx} (A : OpsIn w v l) (hl : l.length ≤ 1000000) (pc many : Int) (m0 : -9223372036854775808 ≤ many) (m1 : many ≤ 9223372036854775807) (hf : codeF many l = (0, -1)) :
    Calls Tryd.prog 29 #[.agg #[.int .u32 pc, .int .i64 many, v], .int .i64 2] w fun e w' => OptPost w pc many (optL 2 l) e w' := by
  have hB0 : Below w.heap.size w ((w.alloc (.cells #[.int .u32 pc, .int .i64 many, v] 35)).alloc (.cells #[.int .u32 0, .int .i64 0, .slice none 0 0] 35)) := ((Below.refl _ _).alloc (Nat.le_refl _) _).alloc (by simp) _
  have hck := check_ok pe (E.stays hB0) (A.stays hB0) (by omega) pc many m0 m1 hf
  have O0 := OBox.new w pc many v
  have AH : Hid (OpsIn w v l) := A
  have WH : Hid (Well many l) := codeF_well.1 hf
  have hpos : 0 < l.length := List.length_pos_iff.2 WH.out.ne
  have HL : Hid (optL 2 l = dropD (workF fx0 l)) := rfl
  obtain ⟨ao, cap, rfl, _⟩ := A.sh
  clear E A hf
  go_enter Tryd.func29, Tryd.ntmps29
  go_wp2_with fail
  generalize (w.alloc (.cells #[.int .u32 pc, .int .i64 many, .slice ao l.length cap] 35)).alloc (.cells #[.int .u32 0, .int .i64 0, .slice none 0 0] 35) = V at *
  refine hck.mono ?_
  rintro e w1 ⟨rfl, hb1⟩
  have O1 := O0.block (hb1.block _ O0.lt.1) (hb1.block _ O0.lt.2)
  have HB1 : Hid (Below w.heap.size w w1) := hB0.trans (hb1.mono (by have := hB0.size; omega))
  have hz1 : w.heap.size + 1 < w1.heap.size := O1.lt.2
  have hcl := clone_any (AH.out.stays HB1.out) hl hpos
  have OH1 : Hid (OBox w1 w.heap.size (w.heap.size + 1) pc many (.slice ao l.length cap)) := O1
  obtain ⟨k0, k1, k2, z0, z1, z2, fk, fz⟩ := O1
  clear hck hb1 O0
  go_wp2_with fail
  refine hcl.mono ?_
  rintro e w2 ⟨g, cp, rfl, hcp, hR2, hge, hb2⟩
  have O2 : OBox w2 w.heap.size (w.heap.size + 1) pc many (.slice ao l.length cap) := OH1.out.block (hb2.block _ (by omega)) (hb2.block _ (by omega))
  have hz2 : w1.heap.size ≤ w2.heap.size := hb2.size
  have HB2 : Hid (Below w.heap.size w w2) := HB1.out.trans (hb2.mono (by omega))
  have O3 : Hid (OBox (w2.setCell ⟨w.heap.size, 2, none⟩ (.slice (some ⟨g, 0, none⟩) l.length cp)) w.heap.size (w.heap.size + 1) pc many (.slice (some ⟨g, 0, none⟩) l.length cp)) := O2.put (by omega) _
  have R3 : Hid (OpsRw (w2.setCell ⟨w.heap.size, 2, none⟩ (.slice (some ⟨g, 0, none⟩) l.length cp)) g l) := hR2.block (Below.heap_setCell _ _ _ _ (by show g ≠ w.heap.size; omega))
  have B3 : Hid (Below w.heap.size w (w2.setCell ⟨w.heap.size, 2, none⟩ (.slice (some ⟨g, 0, none⟩) l.length cp))) := HB2.out.setCell (p := ⟨w.heap.size, 2, none⟩) (Nat.le_refl _) _
  have hz3 : w2.heap.size ≤ (w2.setCell ⟨w.heap.size, 2, none⟩ (.slice (some ⟨g, 0, none⟩) l.length cp)).heap.size := by simp [World.setCell]
  obtain ⟨k0, k1, k2, z0, z1, z2, fk, fz⟩ := O2
  have hzz2 : w.heap.size < w2.heap.size := by omega
  clear hcl hR2 hb2 OH1
  go_upto_region 7 with fail
  generalize w2.setCell ⟨w.heap.size, 2, none⟩ (.slice (some ⟨g, 0, none⟩) l.length cp) = w3 at *
  clear k0 k1 k2 z0 z1 z2 fk fz
  obtain ⟨k0, k1, k2, z0, z1, z2, fk, fz⟩ := O3.out
  have hzz3 : w.heap.size + 1 < w3.heap.size := by omega
  have hwk := workOut_any (cap := cp) R3.out (by omega) hcp AH.out.ok hpos
  clear R3
  go_wp2_with fail
  refine hwk.mono ?_
  rintro e w4 ⟨rfl, hR4, hok4, hg4⟩
  have O4 : OBox w4 w.heap.size (w.heap.size + 1) pc many (.slice (some ⟨g, 0, none⟩) l.length cp) := O3.out.block (hg4.block _ (by omega) (by intro e; have := Option.some.inj e; omega)) (hg4.block _ (by omega) (by intro e; have := Option.some.inj e; omega))
  have B4 : Hid (Below w.heap.size w w4) := below_of_grown B3.out hg4 (Nat.le_refl _) (by omega)
  have hz4 : w3.heap.size ≤ w4.heap.size := hg4.size
  have R4 : Hid (OpsRw w4 g (workF fx0 l)) := hR4
  have OK4 : Hid (∀ o ∈ workF fx0 l, o.ok) := hok4
  have hzz4 : w.heap.size + 1 < w4.heap.size := by omega
  have HWL : Hid ((workF fx0 l).length = l.length) := workF_len l fx0
  clear hwk hR4 hok4 hg4 O3 k0 k1 k2 z0 z1 z2 fk fz
  have O4H : Hid (OBox w4 w.heap.size (w.heap.size + 1) pc many (.slice (some ⟨g, 0, none⟩) l.length cp)) := O4
  obtain ⟨k0, k1, k2, z0, z1, z2, fk, fz⟩ := O4
  have hwd := withoutDead_any (w := w4) (b := g) (off := 0) (cap := cp) (l := workF fx0 l) (fun i o hi j u hj => by rw [Nat.zero_add]; exact R4.out.c i o hi j u hj) (by have := R4.out.lt (by rw [HWL.out]; exact hpos); exact this) (by rw [HWL.out]; exact hl) (fun o ho => okW_of (wellL_mem (WH.out.work fx0).ops o ho) (OK4.out o ho)) (WH.out.work fx0).last
  rw [HWL.out] at hwd
  go_wp2_with fail
  refine hwd.mono ?_
  rintro e w5 ⟨g5, c5, rfl, hc5, hR5, hge5, hb5⟩
  have O5 : OBox w5 w.heap.size (w.heap.size + 1) pc many (.slice (some ⟨g, 0, none⟩) l.length cp) := O4H.out.block (hb5.block _ (by omega)) (hb5.block _ (by omega))
  have hz5 : w4.heap.size ≤ w5.heap.size := hb5.size
  have B5 : Hid (Below w.heap.size w w5) := B4.out.trans (hb5.mono (by omega))
  have O6 : Hid (OBox (w5.setCell ⟨w.heap.size, 2, none⟩ (.slice (some ⟨g5, 0, none⟩) (dropD (workF fx0 l)).length c5)) w.heap.size (w.heap.size + 1) pc many (.slice (some ⟨g5, 0, none⟩) (dropD (workF fx0 l)).length c5)) := O5.put (by omega) _
  have R6 : Hid (OpsRw (w5.setCell ⟨w.heap.size, 2, none⟩ (.slice (some ⟨g5, 0, none⟩) (dropD (workF fx0 l)).length c5)) g5 (dropD (workF fx0 l))) := hR5.block (Below.heap_setCell _ _ _ _ (by show g5 ≠ w.heap.size; omega))
  have B6 : Hid (Below w.heap.size w (w5.setCell ⟨w.heap.size, 2, none⟩ (.slice (some ⟨g5, 0, none⟩) (dropD (workF fx0 l)).length c5))) := B5.out.setCell (p := ⟨w.heap.size, 2, none⟩) (Nat.le_refl _) _
  have hz6 : w5.heap.size ≤ (w5.setCell ⟨w.heap.size, 2, none⟩ (.slice (some ⟨g5, 0, none⟩) (dropD (workF fx0 l)).length c5)).heap.size := by simp [World.setCell]
  have OK6 : Hid (∀ o ∈ dropD (workF fx0 l), o.ok) := fun o ho => OK4.out o ((dropD_sub _).subset ho)
  clear k0 k1 k2 z0 z1 z2 fk fz O4H
  obtain ⟨k0, k1, k2, z0, z1, z2, fk, fz⟩ := O5
  have hzz5 : w.heap.size < w5.heap.size := by omega
  clear hwd hR5 hb5
  go_upto_region 11 with fail
  generalize w5.setCell ⟨w.heap.size, 2, none⟩ (.slice (some ⟨g5, 0, none⟩) (dropD (workF fx0 l)).length c5) = w6 at *
  clear k0 k1 k2 z0 z1 z2 fk fz
  obtain ⟨k0, k1, k2, z0, z1, z2, fk, fz⟩ := O6.out
  have hzz6 : w.heap.size + 1 < w6.heap.size := by omega
  go_wp2
  obtain ⟨y0, y1, y2⟩ := put3 (v0 := .int .u32 pc) (v1 := .int .i64 many) (v2 := .slice (some ⟨g5, 0, none⟩) (dropD (workF fx0 l)).length c5) z0 z1 z2
  refine bodyPost_ret (results_cell1 (A := ⟨w.heap.size + 1, 0, none⟩) rfl _ _ _ rfl (code_load y0 y1 y2)) rfl ?_
  refine ⟨g5, c5, by rw [HL.out]; rfl, by rw [HL.out]; exact hc5, ?_, by omega, ?_, by rw [HL.out]; exact OK6.out⟩
  · rw [HL.out]
    exact R6.out.block (((Below.heap_setCell _ ⟨w.heap.size + 1, 2, none⟩ _ g5 (by show g5 ≠ w.heap.size + 1; omega)).trans (Below.heap_setCell _ ⟨w.heap.size + 1, 1, none⟩ _ g5 (by show g5 ≠ w.heap.size + 1; omega))).trans (Below.heap_setCell _ ⟨w.heap.size + 1, 0, none⟩ _ g5 (by show g5 ≠ w.heap.size + 1; omega)))
  · exact ((B6.out.setCell (p := ⟨w.heap.size + 1, 0, none⟩) (by show _ ≤ w.heap.size + 1; omega) _).setCell (p := ⟨w.heap.size + 1, 1, none⟩) (by show _ ≤ w.heap.size + 1; omega) _).setCell (p := ⟨w.heap.size + 1, 2, none⟩) (by show _ ≤ w.heap.size + 1; omega) _
end Go.Proofs.YtcccaejjhodnkaaDoor
