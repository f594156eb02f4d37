/-
  Package plan: Make.
-/
import Derived.Test.YtidagpanknhaaaaDoorMk4
import Derived.Test.YtidagpanknhaaaaDoorIrChk3
namespace Go.Proofs.YtidagpanknhaaaaDoor
open Go.RowKit Go.Maps
open Num
set_option linter.unusedVariables false
theorem results_cell1P {fn : Func} {p u : Tmp} {ty : TypeId} {A : Addr} {x : Value} (h : fn.results = #[.cell p ty, .tmp u]) (tmps : Array Value) (P : Program) (w : World) (hp : tmps.getD p undef = .pointer (some A)) (hl : (loadVar ty A).run P w = .ok x w) :
    (results fn tmps).run P w = .ok (.tuple #[x, tmps.getD u undef]) w := by
  simp only [results, h]
  simp only [asAddr, hp, Sem.run_bind, List.mapM_toArray, List.mapM_cons, List.mapM_nil, Sem.run_map, Sem.run_pure, Result.andThen, hl]
  simp
theorem plan_load {w : World} {B : Nat} {a b c : Value} (z0 : w.cell? ⟨B, 0, none⟩ = some a) (z1 : w.cell? ⟨B, 1, none⟩ = some b) (z2 : w.cell? ⟨B, 2, none⟩ = some c) : (loadVar 29 ⟨B, 0, none⟩).run Tryd.prog w = .ok (.agg #[a, b, c]) w := by
  simp [go_sem, z0, z1, z2]
/-- the code's box and the plan's -/
structure PBox (W : World) (cb rb : Nat) (pc many : Int) (v : Value) : Prop where
  k0 : W.cell? ⟨cb, 0, none⟩ = some (.int .u32 pc)
  k1 : W.cell? ⟨cb, 1, none⟩ = some (.int .i64 many)
  k2 : W.cell? ⟨cb, 2, none⟩ = some v
  z0 : W.cell? ⟨rb, 0, none⟩ = some (.int .u32 0)
  z1 : W.cell? ⟨rb, 1, none⟩ = some (.int .i64 0)
  z2 : W.cell? ⟨rb, 2, none⟩ = some (.slice none 0 0)
  f : ∀ j, W.frozen? ⟨rb, j, none⟩ = false
theorem PBox.block {W W' : World} {cb rb : Nat} {pc many : Int} {v : Value} (O : PBox W cb rb pc many v) (h1 : W'.heap[cb]? = W.heap[cb]?) (h2 : W'.heap[rb]? = W.heap[rb]?) : PBox W' cb rb pc many v :=
  ⟨(World.cell?_of_block (a := ⟨cb, 0, none⟩) h1).trans O.k0, (World.cell?_of_block (a := ⟨cb, 1, none⟩) h1).trans O.k1, (World.cell?_of_block (a := ⟨cb, 2, none⟩) h1).trans O.k2, (World.cell?_of_block (a := ⟨rb, 0, none⟩) h2).trans O.z0, (World.cell?_of_block (a := ⟨rb, 1, none⟩) h2).trans O.z1, (World.cell?_of_block (a := ⟨rb, 2, none⟩) h2).trans O.z2, fun j => (World.frozen?_of_block (a := ⟨rb, j, none⟩) h2).trans (O.f j)⟩
theorem PBox.lt {W : World} {cb rb : Nat} {pc many : Int} {v : Value} (O : PBox W cb rb pc many v) : cb < W.heap.size ∧ rb < W.heap.size := ⟨World.block_lt_of_cell? _ _ O.k0, World.block_lt_of_cell? _ _ O.z0⟩
theorem PBox.stays {W W' : World} {cb rb : Nat} {pc many : Int} {v : Value} (O : PBox W cb rb pc many v) (h : Below W.heap.size W W') : PBox W' cb rb pc many v := O.block (h.block _ O.lt.1) (h.block _ O.lt.2)
theorem PBox.new (w : World) (pc many : Int) (v : Value) : PBox ((w.alloc (.cells #[.int .u32 pc, .int .i64 many, v] 44)).alloc (.cells #[.int .u32 0, .int .i64 0, .slice none 0 0] 29)) w.heap.size (w.heap.size + 1) pc many v := by
  refine ⟨by simp, by simp, by simp, by simp, by simp, by simp, fun j => World.frozen?_alloc_at _ _ _ _ (by simp)⟩
theorem put3P {w : World} {B : Nat} {u0 u1 u2 v0 v1 v2 : Value} (z0 : w.cell? ⟨B, 0, none⟩ = some u0) (z1 : w.cell? ⟨B, 1, none⟩ = some u1) (z2 : w.cell? ⟨B, 2, none⟩ = some u2) : (((w.setCell ⟨B, 0, none⟩ v0).setCell ⟨B, 1, none⟩ v1).setCell ⟨B, 2, none⟩ v2).cell? ⟨B, 0, none⟩ = some v0 ∧ (((w.setCell ⟨B, 0, none⟩ v0).setCell ⟨B, 1, none⟩ v1).setCell ⟨B, 2, none⟩ v2).cell? ⟨B, 1, none⟩ = some v1 ∧ (((w.setCell ⟨B, 0, none⟩ v0).setCell ⟨B, 1, none⟩ v1).setCell ⟨B, 2, none⟩ v2).cell? ⟨B, 2, none⟩ = some v2 := by
  have n1 : (⟨B, 1, none⟩ : Addr) ≠ ⟨B, 0, none⟩ := ofs3 (by omega)
  have n2 : (⟨B, 2, none⟩ : Addr) ≠ ⟨B, 0, none⟩ := ofs3 (by omega)
  have n3 : (⟨B, 2, none⟩ : Addr) ≠ ⟨B, 1, none⟩ := ofs3 (by omega)
  have a1 := World.cell?_setCell_same w ⟨B, 0, none⟩ v0 z0
  have a2 : (w.setCell ⟨B, 0, none⟩ v0).cell? ⟨B, 1, none⟩ = some u1 := by rw [World.cell?_setCell_other _ _ _ _ (Ne.symm n1)]; exact z1
  have a3 : (w.setCell ⟨B, 0, none⟩ v0).cell? ⟨B, 2, none⟩ = some u2 := by rw [World.cell?_setCell_other _ _ _ _ (Ne.symm n2)]; exact z2
  have b1 := World.cell?_setCell_same (w.setCell ⟨B, 0, none⟩ v0) ⟨B, 1, none⟩ v1 a2
  have b3 : ((w.setCell ⟨B, 0, none⟩ v0).setCell ⟨B, 1, none⟩ v1).cell? ⟨B, 2, none⟩ = some u2 := by rw [World.cell?_setCell_other _ _ _ _ (Ne.symm n3)]; exact a3
  have b0 : ((w.setCell ⟨B, 0, none⟩ v0).setCell ⟨B, 1, none⟩ v1).cell? ⟨B, 0, none⟩ = some v0 := by rw [World.cell?_setCell_other _ _ _ _ n1]; exact a1
  exact ⟨by rw [World.cell?_setCell_other _ _ _ _ n2]; exact b0, by rw [World.cell?_setCell_other _ _ _ _ n3]; exact b1, World.cell?_setCell_same _ _ _ b3⟩
theorem CErr.nz {pe : Nat → Addr} {w : World} {f : Int × Int} {v : Value} (C : CErr pe w f v) (hf : f ≠ (0, -1)) : ∃ t a, v = .iface t (.pointer a) := by
  rcases C with ⟨h1, h2⟩ | ⟨_, _, fb, h2, _⟩
  · have h0 : f.1 ≠ 0 := fun e => hf (by rw [← h1, ← e])
    exact ⟨_, _, by rw [h2, erV_some h0]⟩
  · exact ⟨_, _, h2⟩
theorem CErr.block {pe : Nat → Addr} {w w' : World} {f : Int × Int} {v : Value} (C : CErr pe w f v) (h : ∀ fb, v = .iface 49 (.pointer (some ⟨fb, 0, none⟩)) → w'.heap[fb]? = w.heap[fb]?) : CErr pe w' f v := by
  rcases C with h1 | ⟨h1, h2, fb, h3, h4, h5⟩
  · exact .inl h1
  · exact .inr ⟨h1, h2, fb, h3, (World.cell?_of_block (a := ⟨fb, 0, none⟩) (h fb h3)).trans h4, (World.cell?_of_block (a := ⟨fb, 1, none⟩) (h fb h3)).trans h5⟩
set_option maxRecDepth 100000 in
set_option maxHeartbeats 2000000 in
theorem make_bad (pe : Nat → Addr) {w : World} (E : Eg pe w) {v : Value} {l : List Opx} (A : OpsIn w v l) (hl : (l.length : Int) ≤ 1000000) (pc many : Int) (m0 : -9223372036854775808 ≤ many) (m1 : many ≤ 9223372036854775807) (hf : codeF many l ≠ (0, -1)) :
    Calls Tryd.prog 12 #[.agg #[.int .u32 pc, .int .i64 many, v]] w fun e w' => (∃ x, e = .returned (.tuple #[.agg #[.int .u32 0, .int .i64 0, .slice none 0 0], x]) ∧ CErr pe w' (codeF many l) x) ∧ Below w.heap.size w w' := by
  have B0 : Below w.heap.size w ((w.alloc (.cells #[.int .u32 pc, .int .i64 many, v] 44)).alloc (.cells #[.int .u32 0, .int .i64 0, .slice none 0 0] 29)) := ((Below.refl _ _).alloc (Nat.le_refl _) _).alloc (by simp) _
  have P0 := PBox.new w pc many v
  have hck := check_any pe (E.stays B0) (A.stays B0) hl pc many m0 m1
  obtain ⟨ao, cap, rfl, _, _⟩ := A.sh
  have HF : Hid (codeF many l ≠ (0, -1)) := hf
  generalize codeF many l = cf at *
  clear E A hf
  go_enter Tryd.func12, Tryd.ntmps12
  go_upto_region 1 with fail
  generalize (w.alloc (.cells #[.int .u32 pc, .int .i64 many, .slice ao l.length cap] 44)).alloc (.cells #[.int .u32 0, .int .i64 0, .slice none 0 0] 29) = V at *
  have HB : Hid (Below w.heap.size w V) := B0
  have HP : Hid (PBox V w.heap.size (w.heap.size + 1) pc many (.slice ao l.length cap)) := P0
  have zl := P0.lt
  obtain ⟨zl1, zl2⟩ := zl
  obtain ⟨k0, k1, k2, z0, z1, z2, zf⟩ := P0
  clear B0
  go_wp2_with fail
  refine hck.mono ?_
  rintro e w2 ⟨⟨x, rfl, hx⟩, hb2⟩
  have HB2 : Hid (Below w.heap.size w w2) := HB.out.trans (hb2.mono HB.out.size)
  have hp2 := HP.out.stays hb2
  obtain ⟨y1, y2⟩ := hp2.lt
  have HC : Hid (CErr pe w2 cf x) := hx
  obtain ⟨t, a, rfl⟩ := hx.nz HF.out
  have hfb : Hid (∀ fb, Value.iface t (.pointer a) = .iface 49 (.pointer (some ⟨fb, 0, none⟩)) → fb ≠ w.heap.size + 1) := by
    rintro fb e rfl
    rcases HC.out with ⟨h1, h2⟩ | ⟨_, _, fb', h2, h3, _⟩
    · have h0 : cf.1 ≠ 0 := fun e => HF.out (by rw [← h1, ← e])
      rw [erV_some h0] at h2
      rw [e] at h2
      injection h2 with h2
      exact absurd h2 (by decide)
    · rw [h2] at e
      injection e with _ e
      injection e with e
      injection e with e
      injection e with e
      rw [e] at h3
      have := hp2.z0
      rw [this] at h3
      injection h3 with h3
      cases h3
  have g0 := hp2.z0
  have g1 := hp2.z1
  have g2 := hp2.z2
  have f0 := hp2.f 0
  have f1 := hp2.f 1
  have f2 := hp2.f 2
  have HPU := put3P (v0 := .int .u32 0) (v1 := .int .i64 0) (v2 := .slice none 0 0) g0 g1 g2
  have HPH : Hid _ := HPU
  clear hck hb2 hx hp2 HB HP k0 k1 k2 z0 z1 z2 zf HPU
  go_wp2
  refine bodyPost_ret (results_cell1P (A := ⟨w.heap.size + 1, 0, none⟩) rfl _ _ _ rfl (plan_load HPH.out.1 HPH.out.2.1 HPH.out.2.2)) rfl ?_
  refine ⟨⟨_, rfl, HC.out.block fun fb he => ?_⟩, ((HB2.out.setCell (by show w.heap.size ≤ w.heap.size + 1; omega) _).setCell (by show w.heap.size ≤ w.heap.size + 1; omega) _).setCell (by show w.heap.size ≤ w.heap.size + 1; omega) _⟩
  have hne := hfb.out fb he
  rw [Below.heap_setCell _ _ _ _ hne, Below.heap_setCell _ _ _ _ hne, Below.heap_setCell _ _ _ _ hne]
end Go.Proofs.YtidagpanknhaaaaDoor
