/-
  The document's ReadsOf.
-/
import Derived.Test.YtcccaejjhodnkaaDoorDoc1
namespace Go.Proofs.YtcccaejjhodnkaaDoor
open Go.RowKit Go.Maps
open Num
set_option linter.unusedVariables false
theorem rd_ways5 (o : Opx) : (hasB (fldL (kn o.s)) 65 = false ∧ hasB (fldL (kn o.s)) 66 = false ∧ dvB (kn o.s) = false ∧ rdX o = []) ∨ (hasB (fldL (kn o.s)) 65 = true ∧ hasB (fldL (kn o.s)) 66 = false ∧ dvB (kn o.s) = false ∧ rdX o = [o.a]) ∨ (hasB (fldL (kn o.s)) 65 = true ∧ hasB (fldL (kn o.s)) 66 = true ∧ decide (kn o.s = 23) = true ∧ dvB (kn o.s) = false ∧ rdX o = [o.a]) ∨ (hasB (fldL (kn o.s)) 65 = true ∧ hasB (fldL (kn o.s)) 66 = true ∧ decide (kn o.s = 23) = false ∧ dvB (kn o.s) = false ∧ rdX o = [o.a, o.b]) ∨ (hasB (fldL (kn o.s)) 65 = true ∧ hasB (fldL (kn o.s)) 66 = true ∧ decide (kn o.s = 23) = false ∧ dvB (kn o.s) = true ∧ rdX o = [o.a, o.b, o.d]) := by
  have hl := kn_lt o.s
  rw [fld_A _ hl, fld_B _ hl]
  unfold rdX dvB rA rB Opx.k
  generalize kn o.s = k at *
  by_cases h1 : 2 ≤ k ∧ k ≤ 25 ∨ k = 27
  · by_cases h2 : 3 ≤ k ∧ k ≤ 22 ∨ k = 24
    · have h23 : ¬ k = 23 := by omega
      by_cases h3 : 17 ≤ k ∧ k ≤ 20
      · simp [h1, h2, h3, h23]
      · simp [h1, h2, h3, h23]
    · have h3 : ¬ (17 ≤ k ∧ k ≤ 20) := by omega
      by_cases h4 : k = 23 <;> simp [h1, h2, h3, h4]
  · have h2 : ¬ (3 ≤ k ∧ k ≤ 22 ∨ k = 24) := by omega
    have h3 : ¬ (17 ≤ k ∧ k ≤ 20) := by omega
    have h4 : ¬ k = 23 := by omega
    simp [h1, h2, h3, h4]
set_option maxRecDepth 100000 in
set_option maxHeartbeats 4000000 in
theorem readsOf_any (o : Opx) (w : World) : Calls Tryd.prog 26 #[opV o] w fun e w' => ∃ v, e = .returned v ∧ w'.ownsRow w.heap.size 3 1 v (rdX o).length ((rdX o).map (Value.int .i64)) ∧ Below w.heap.size w w' := by
  have hf := fun w => fieldsOf_any o.s w
  have ha := fun w => isOf_fld (kn o.s) 65 w
  have hb := fun w => isOf_fld (kn o.s) 66 w
  have hd := fun w => isDiv_any o.s w
  have h23 := kn_eq o.s 23 (by omega) (by omega)
  have HW := rd_ways5 o
  obtain ⟨i0, hi, iz0, iz1, iz2⟩ := info_parts infoInt
  rw [show decide (kn o.s = 23) = (o.s.toList == [108, 111, 97, 100]) from h23.symm] at HW
  clear h23
  generalize hasB (fldL (kn o.s)) 65 = x2 at *
  generalize hasB (fldL (kn o.s)) 66 = x3 at *
  generalize dvB (kn o.s) = x4 at *
  generalize (⟨(fldL (kn o.s)).toArray⟩ : ByteArray) = fs at *
  obtain ⟨L, hL⟩ : ∃ L, rdX o = L := ⟨_, rfl⟩
  rw [hL] at HW ⊢
  clear hL
  have HB : Hid (Below w.heap.size w (w.alloc (.cells #[.string o.s, .int .i64 o.d, .int .i64 o.a, .int .i64 o.b, .int .u32 o.i, .int .i64 o.t] 60))) := (Below.refl _ _).alloc (Nat.le_refl _) _
  have hc := fun j => @bcD w o j
  have hz : w.heap.size < (w.alloc (.cells #[.string o.s, .int .i64 o.d, .int .i64 o.a, .int .i64 o.b, .int .u32 o.i, .int .i64 o.t] 60)).heap.size := by simp
  have k0 := hc 0
  have k1 := hc 1
  have k2 := hc 2
  have k3 := hc 3
  simp only [List.getElem?_toArray, List.getElem?_cons_zero, List.getElem?_cons_succ] at k0 k1 k2 k3
  clear hc
  unfold opV at *
  rcases HW with ⟨rfl, rfl, rfl, rfl⟩ | ⟨rfl, rfl, rfl, rfl⟩ | ⟨rfl, rfl, hx, rfl, rfl⟩ | ⟨rfl, rfl, hx, rfl, rfl⟩ | ⟨rfl, rfl, hx, rfl, rfl⟩
  · go_enter Tryd.func26, Tryd.ntmps26
    go_wp2_with fail
    generalize w.alloc (.cells #[.string o.s, .int .i64 o.d, .int .i64 o.a, .int .i64 o.b, .int .u32 o.i, .int .i64 o.t] 60) = w0 at *
    refine (hf _).mono ?_
    rintro e w1 ⟨rfl, hw⟩
    rw [hw]
    clear hw w1
    go_wp2_with fail
    refine (ha _).mono ?_
    rintro e w1 ⟨rfl, hw⟩
    rw [hw]
    clear hw w1
    go_wp2_with fail
    refine (hb _).mono ?_
    rintro e w1 ⟨rfl, hw⟩
    rw [hw]
    clear hw w1
    go_wp2_with fail
    refine (hd _).mono ?_
    rintro e w1 ⟨rfl, hw⟩
    rw [hw]
    clear hw w1
    go_wp2
    go_ret
    exact ⟨_, rfl, World.ownsRow_nil _ _ _ _, HB.out⟩
  · go_enter Tryd.func26, Tryd.ntmps26
    go_wp2_with fail
    generalize w.alloc (.cells #[.string o.s, .int .i64 o.d, .int .i64 o.a, .int .i64 o.b, .int .u32 o.i, .int .i64 o.t] 60) = w0 at *
    refine (hf _).mono ?_
    rintro e w1 ⟨rfl, hw⟩
    rw [hw]
    clear hw w1
    go_wp2_with fail
    refine (ha _).mono ?_
    rintro e w1 ⟨rfl, hw⟩
    rw [hw]
    clear hw w1
    have hn1 : ∀ (j : Nat) (u : Value), [Value.int .i64 o.a][j]? = some u → (w0.alloc (.cells #[.int .i64 o.a] 3)).cell? ((⟨w0.heap.size, 0, none⟩ : Addr).add j) = some u := by
      intro j u hj
      rw [add_lit, cell_of_row _ _ _ _ _ _ (heap_alloc_new w0 _)]
      simpa using hj
    go_upto_region 5 with (at_builtin; refine wpList_append_moved rfl _ _ 49 rfl w0.heap.size 3 i0 (.int .i64 0) 1 8 Tryd.underlying49 hi iz0 iz1 iz2 rfl (by decide) (.slice none 0 0) 0 [] rfl (World.ownsRow_nil _ _ _ _) ⟨w0.heap.size, 0, none⟩ 1 1 [.int .i64 o.a] rfl rfl hn1 (by simp [Value.oneCell']) (by unfold maxLen; omega) (by omega) (by simp <;> omega) ?_; intro v1 u1 ho1 hg1 hm1; obtain ⟨g1, c1, rfl, hge1⟩ := own_posg ho1)
    have hs1 : w0.heap.size ≤ u1.heap.size := by have := hg1.size; simp at this; omega
    have hz1 : w.heap.size < u1.heap.size := by omega
    have cb1 : u1.heap[w.heap.size]? = w0.heap[w.heap.size]? := (hg1.block w.heap.size (by simp <;> omega) (by intro e; cases e)).trans (Below.heap_alloc _ _ _ (by omega))
    have q1 : ∀ j, u1.cell? ⟨w.heap.size, j, none⟩ = w0.cell? ⟨w.heap.size, j, none⟩ := fun j => World.cell?_of_block (a := ⟨w.heap.size, j, none⟩) cb1
    have HB1 : Hid (Below w.heap.size w u1) := (HB.out.alloc (by omega) _).grown hg1 (by simp <;> omega) (fun k e => by cases e)
    have ho1 : u1.ownsRow w0.heap.size 3 1 (.slice (some ⟨g1, 0, none⟩) 1 c1) 1 [.int .i64 o.a] := ho1
    have HO1 : Hid _ := ho1
    clear cb1 hm1
    go_wp2_with fail
    refine (hb _).mono ?_
    rintro e w1 ⟨rfl, hw⟩
    rw [hw]
    clear hw w1
    go_wp2_with fail
    refine (hd _).mono ?_
    rintro e w1 ⟨rfl, hw⟩
    rw [hw]
    clear hw w1
    go_wp2
    go_ret
    exact ⟨_, rfl, own_mono HO1.out (by omega), HB1.out⟩
  · go_enter Tryd.func26, Tryd.ntmps26
    go_wp2_with fail
    generalize w.alloc (.cells #[.string o.s, .int .i64 o.d, .int .i64 o.a, .int .i64 o.b, .int .u32 o.i, .int .i64 o.t] 60) = w0 at *
    refine (hf _).mono ?_
    rintro e w1 ⟨rfl, hw⟩
    rw [hw]
    clear hw w1
    go_wp2_with fail
    refine (ha _).mono ?_
    rintro e w1 ⟨rfl, hw⟩
    rw [hw]
    clear hw w1
    have hn1 : ∀ (j : Nat) (u : Value), [Value.int .i64 o.a][j]? = some u → (w0.alloc (.cells #[.int .i64 o.a] 3)).cell? ((⟨w0.heap.size, 0, none⟩ : Addr).add j) = some u := by
      intro j u hj
      rw [add_lit, cell_of_row _ _ _ _ _ _ (heap_alloc_new w0 _)]
      simpa using hj
    go_upto_region 5 with (at_builtin; refine wpList_append_moved rfl _ _ 49 rfl w0.heap.size 3 i0 (.int .i64 0) 1 8 Tryd.underlying49 hi iz0 iz1 iz2 rfl (by decide) (.slice none 0 0) 0 [] rfl (World.ownsRow_nil _ _ _ _) ⟨w0.heap.size, 0, none⟩ 1 1 [.int .i64 o.a] rfl rfl hn1 (by simp [Value.oneCell']) (by unfold maxLen; omega) (by omega) (by simp <;> omega) ?_; intro v1 u1 ho1 hg1 hm1; obtain ⟨g1, c1, rfl, hge1⟩ := own_posg ho1)
    have hs1 : w0.heap.size ≤ u1.heap.size := by have := hg1.size; simp at this; omega
    have hz1 : w.heap.size < u1.heap.size := by omega
    have cb1 : u1.heap[w.heap.size]? = w0.heap[w.heap.size]? := (hg1.block w.heap.size (by simp <;> omega) (by intro e; cases e)).trans (Below.heap_alloc _ _ _ (by omega))
    have q1 : ∀ j, u1.cell? ⟨w.heap.size, j, none⟩ = w0.cell? ⟨w.heap.size, j, none⟩ := fun j => World.cell?_of_block (a := ⟨w.heap.size, j, none⟩) cb1
    have HB1 : Hid (Below w.heap.size w u1) := (HB.out.alloc (by omega) _).grown hg1 (by simp <;> omega) (fun k e => by cases e)
    have ho1 : u1.ownsRow w0.heap.size 3 1 (.slice (some ⟨g1, 0, none⟩) 1 c1) 1 [.int .i64 o.a] := ho1
    have HO1 : Hid _ := ho1
    clear cb1 hm1
    go_wp2_with fail
    refine (hb _).mono ?_
    rintro e w1 ⟨rfl, hw⟩
    rw [hw]
    clear hw w1
    go_wp2_with fail
    refine (hd _).mono ?_
    rintro e w1 ⟨rfl, hw⟩
    rw [hw]
    clear hw w1
    go_wp2
    go_ret
    exact ⟨_, rfl, own_mono HO1.out (by omega), HB1.out⟩
  · go_enter Tryd.func26, Tryd.ntmps26
    go_wp2_with fail
    generalize w.alloc (.cells #[.string o.s, .int .i64 o.d, .int .i64 o.a, .int .i64 o.b, .int .u32 o.i, .int .i64 o.t] 60) = w0 at *
    refine (hf _).mono ?_
    rintro e w1 ⟨rfl, hw⟩
    rw [hw]
    clear hw w1
    go_wp2_with fail
    refine (ha _).mono ?_
    rintro e w1 ⟨rfl, hw⟩
    rw [hw]
    clear hw w1
    have hn1 : ∀ (j : Nat) (u : Value), [Value.int .i64 o.a][j]? = some u → (w0.alloc (.cells #[.int .i64 o.a] 3)).cell? ((⟨w0.heap.size, 0, none⟩ : Addr).add j) = some u := by
      intro j u hj
      rw [add_lit, cell_of_row _ _ _ _ _ _ (heap_alloc_new w0 _)]
      simpa using hj
    go_upto_region 5 with (at_builtin; refine wpList_append_moved rfl _ _ 49 rfl w0.heap.size 3 i0 (.int .i64 0) 1 8 Tryd.underlying49 hi iz0 iz1 iz2 rfl (by decide) (.slice none 0 0) 0 [] rfl (World.ownsRow_nil _ _ _ _) ⟨w0.heap.size, 0, none⟩ 1 1 [.int .i64 o.a] rfl rfl hn1 (by simp [Value.oneCell']) (by unfold maxLen; omega) (by omega) (by simp <;> omega) ?_; intro v1 u1 ho1 hg1 hm1; obtain ⟨g1, c1, rfl, hge1⟩ := own_posg ho1)
    have hs1 : w0.heap.size ≤ u1.heap.size := by have := hg1.size; simp at this; omega
    have hz1 : w.heap.size < u1.heap.size := by omega
    have cb1 : u1.heap[w.heap.size]? = w0.heap[w.heap.size]? := (hg1.block w.heap.size (by simp <;> omega) (by intro e; cases e)).trans (Below.heap_alloc _ _ _ (by omega))
    have q1 : ∀ j, u1.cell? ⟨w.heap.size, j, none⟩ = w0.cell? ⟨w.heap.size, j, none⟩ := fun j => World.cell?_of_block (a := ⟨w.heap.size, j, none⟩) cb1
    have HB1 : Hid (Below w.heap.size w u1) := (HB.out.alloc (by omega) _).grown hg1 (by simp <;> omega) (fun k e => by cases e)
    have ho1 : u1.ownsRow w0.heap.size 3 1 (.slice (some ⟨g1, 0, none⟩) 1 c1) 1 [.int .i64 o.a] := ho1
    have HO1 : Hid _ := ho1
    clear cb1 hm1
    go_wp2_with fail
    refine (hb _).mono ?_
    rintro e w1 ⟨rfl, hw⟩
    rw [hw]
    clear hw w1
    have hn2 : ∀ (j : Nat) (u : Value), [Value.int .i64 o.b][j]? = some u → (u1.alloc (.cells #[.int .i64 o.b] 3)).cell? ((⟨u1.heap.size, 0, none⟩ : Addr).add j) = some u := by
      intro j u hj
      rw [add_lit, cell_of_row _ _ _ _ _ _ (heap_alloc_new u1 _)]
      simpa using hj
    go_upto_region 8 with (at_builtin; refine wpList_append_moved rfl _ _ 49 rfl w0.heap.size 3 i0 (.int .i64 0) 1 8 Tryd.underlying49 hi iz0 iz1 iz2 rfl (by decide) (.slice (some ⟨g1, 0, none⟩) 1 c1) 1 [.int .i64 o.a] rfl (ho1.alloc _) ⟨u1.heap.size, 0, none⟩ 1 1 [.int .i64 o.b] rfl rfl hn2 (by simp [Value.oneCell']) (by unfold maxLen; omega) (by omega) (by simp <;> omega) ?_; intro v2 u2 ho2 hg2 hm2; obtain ⟨g2, c2, rfl, hge2⟩ := own_posg ho2)
    have hs2 : w0.heap.size ≤ u2.heap.size := by have := hg2.size; simp at this; omega
    have hz2 : w.heap.size < u2.heap.size := by omega
    have cb2 : u2.heap[w.heap.size]? = u1.heap[w.heap.size]? := (hg2.block w.heap.size (by simp <;> omega) (by intro e; have e : w.heap.size = g1 := Option.some.inj e; omega)).trans (Below.heap_alloc _ _ _ (by omega))
    have q2 : ∀ j, u2.cell? ⟨w.heap.size, j, none⟩ = u1.cell? ⟨w.heap.size, j, none⟩ := fun j => World.cell?_of_block (a := ⟨w.heap.size, j, none⟩) cb2
    have HB2 : Hid (Below w.heap.size w u2) := (HB1.out.alloc (by omega) _).grown hg2 (by simp <;> omega) (fun k e => by have e : g1 = k := Option.some.inj e; omega)
    have ho2 : u2.ownsRow w0.heap.size 3 1 (.slice (some ⟨g2, 0, none⟩) 2 c2) 2 [.int .i64 o.a, .int .i64 o.b] := ho2
    have HO2 : Hid _ := ho2
    clear cb2 hm2
    go_wp2_with fail
    refine (hd _).mono ?_
    rintro e w1 ⟨rfl, hw⟩
    rw [hw]
    clear hw w1
    go_wp2
    go_ret
    exact ⟨_, rfl, own_mono HO2.out (by omega), HB2.out⟩
  · go_enter Tryd.func26, Tryd.ntmps26
    go_wp2_with fail
    generalize w.alloc (.cells #[.string o.s, .int .i64 o.d, .int .i64 o.a, .int .i64 o.b, .int .u32 o.i, .int .i64 o.t] 60) = w0 at *
    refine (hf _).mono ?_
    rintro e w1 ⟨rfl, hw⟩
    rw [hw]
    clear hw w1
    go_wp2_with fail
    refine (ha _).mono ?_
    rintro e w1 ⟨rfl, hw⟩
    rw [hw]
    clear hw w1
    have hn1 : ∀ (j : Nat) (u : Value), [Value.int .i64 o.a][j]? = some u → (w0.alloc (.cells #[.int .i64 o.a] 3)).cell? ((⟨w0.heap.size, 0, none⟩ : Addr).add j) = some u := by
      intro j u hj
      rw [add_lit, cell_of_row _ _ _ _ _ _ (heap_alloc_new w0 _)]
      simpa using hj
    go_upto_region 5 with (at_builtin; refine wpList_append_moved rfl _ _ 49 rfl w0.heap.size 3 i0 (.int .i64 0) 1 8 Tryd.underlying49 hi iz0 iz1 iz2 rfl (by decide) (.slice none 0 0) 0 [] rfl (World.ownsRow_nil _ _ _ _) ⟨w0.heap.size, 0, none⟩ 1 1 [.int .i64 o.a] rfl rfl hn1 (by simp [Value.oneCell']) (by unfold maxLen; omega) (by omega) (by simp <;> omega) ?_; intro v1 u1 ho1 hg1 hm1; obtain ⟨g1, c1, rfl, hge1⟩ := own_posg ho1)
    have hs1 : w0.heap.size ≤ u1.heap.size := by have := hg1.size; simp at this; omega
    have hz1 : w.heap.size < u1.heap.size := by omega
    have cb1 : u1.heap[w.heap.size]? = w0.heap[w.heap.size]? := (hg1.block w.heap.size (by simp <;> omega) (by intro e; cases e)).trans (Below.heap_alloc _ _ _ (by omega))
    have q1 : ∀ j, u1.cell? ⟨w.heap.size, j, none⟩ = w0.cell? ⟨w.heap.size, j, none⟩ := fun j => World.cell?_of_block (a := ⟨w.heap.size, j, none⟩) cb1
    have HB1 : Hid (Below w.heap.size w u1) := (HB.out.alloc (by omega) _).grown hg1 (by simp <;> omega) (fun k e => by cases e)
    have ho1 : u1.ownsRow w0.heap.size 3 1 (.slice (some ⟨g1, 0, none⟩) 1 c1) 1 [.int .i64 o.a] := ho1
    have HO1 : Hid _ := ho1
    clear cb1 hm1
    go_wp2_with fail
    refine (hb _).mono ?_
    rintro e w1 ⟨rfl, hw⟩
    rw [hw]
    clear hw w1
    have hn2 : ∀ (j : Nat) (u : Value), [Value.int .i64 o.b][j]? = some u → (u1.alloc (.cells #[.int .i64 o.b] 3)).cell? ((⟨u1.heap.size, 0, none⟩ : Addr).add j) = some u := by
      intro j u hj
      rw [add_lit, cell_of_row _ _ _ _ _ _ (heap_alloc_new u1 _)]
      simpa using hj
    go_upto_region 8 with (at_builtin; refine wpList_append_moved rfl _ _ 49 rfl w0.heap.size 3 i0 (.int .i64 0) 1 8 Tryd.underlying49 hi iz0 iz1 iz2 rfl (by decide) (.slice (some ⟨g1, 0, none⟩) 1 c1) 1 [.int .i64 o.a] rfl (ho1.alloc _) ⟨u1.heap.size, 0, none⟩ 1 1 [.int .i64 o.b] rfl rfl hn2 (by simp [Value.oneCell']) (by unfold maxLen; omega) (by omega) (by simp <;> omega) ?_; intro v2 u2 ho2 hg2 hm2; obtain ⟨g2, c2, rfl, hge2⟩ := own_posg ho2)
    have hs2 : w0.heap.size ≤ u2.heap.size := by have := hg2.size; simp at this; omega
    have hz2 : w.heap.size < u2.heap.size := by omega
    have cb2 : u2.heap[w.heap.size]? = u1.heap[w.heap.size]? := (hg2.block w.heap.size (by simp <;> omega) (by intro e; have e : w.heap.size = g1 := Option.some.inj e; omega)).trans (Below.heap_alloc _ _ _ (by omega))
    have q2 : ∀ j, u2.cell? ⟨w.heap.size, j, none⟩ = u1.cell? ⟨w.heap.size, j, none⟩ := fun j => World.cell?_of_block (a := ⟨w.heap.size, j, none⟩) cb2
    have HB2 : Hid (Below w.heap.size w u2) := (HB1.out.alloc (by omega) _).grown hg2 (by simp <;> omega) (fun k e => by have e : g1 = k := Option.some.inj e; omega)
    have ho2 : u2.ownsRow w0.heap.size 3 1 (.slice (some ⟨g2, 0, none⟩) 2 c2) 2 [.int .i64 o.a, .int .i64 o.b] := ho2
    have HO2 : Hid _ := ho2
    clear cb2 hm2
    go_wp2_with fail
    refine (hd _).mono ?_
    rintro e w1 ⟨rfl, hw⟩
    rw [hw]
    clear hw w1
    have hn3 : ∀ (j : Nat) (u : Value), [Value.int .i64 o.d][j]? = some u → (u2.alloc (.cells #[.int .i64 o.d] 3)).cell? ((⟨u2.heap.size, 0, none⟩ : Addr).add j) = some u := by
      intro j u hj
      rw [add_lit, cell_of_row _ _ _ _ _ _ (heap_alloc_new u2 _)]
      simpa using hj
    go_wp2_with (at_builtin; refine wpList_append_moved rfl _ _ 49 rfl w0.heap.size 3 i0 (.int .i64 0) 1 8 Tryd.underlying49 hi iz0 iz1 iz2 rfl (by decide) (.slice (some ⟨g2, 0, none⟩) 2 c2) 2 [.int .i64 o.a, .int .i64 o.b] rfl (ho2.alloc _) ⟨u2.heap.size, 0, none⟩ 1 1 [.int .i64 o.d] rfl rfl hn3 (by simp [Value.oneCell']) (by unfold maxLen; omega) (by omega) (by simp <;> omega) ?_; intro v3 u3 ho3 hg3 hm3; obtain ⟨g3, c3, rfl, hge3⟩ := own_posg ho3)
    have hs3 : w0.heap.size ≤ u3.heap.size := by have := hg3.size; simp at this; omega
    have hz3 : w.heap.size < u3.heap.size := by omega
    have cb3 : u3.heap[w.heap.size]? = u2.heap[w.heap.size]? := (hg3.block w.heap.size (by simp <;> omega) (by intro e; have e : w.heap.size = g2 := Option.some.inj e; omega)).trans (Below.heap_alloc _ _ _ (by omega))
    have q3 : ∀ j, u3.cell? ⟨w.heap.size, j, none⟩ = u2.cell? ⟨w.heap.size, j, none⟩ := fun j => World.cell?_of_block (a := ⟨w.heap.size, j, none⟩) cb3
    have HB3 : Hid (Below w.heap.size w u3) := (HB2.out.alloc (by omega) _).grown hg3 (by simp <;> omega) (fun k e => by have e : g2 = k := Option.some.inj e; omega)
    have ho3 : u3.ownsRow w0.heap.size 3 1 (.slice (some ⟨g3, 0, none⟩) 3 c3) 3 [.int .i64 o.a, .int .i64 o.b, .int .i64 o.d] := ho3
    have HO3 : Hid _ := ho3
    clear cb3 hm3
    go_ret
    exact ⟨_, rfl, own_mono HO3.out (by omega), HB3.out⟩
end Go.Proofs.YtcccaejjhodnkaaDoor
