/-
  Package opt: Reads.
-/
import Derived.Test.YtcccaejjhodnkaaDoorOptFns
import Derived.Test.YtcccaejjhodnkaaDoorRow
namespace Go.Proofs.YtcccaejjhodnkaaDoor
open Go.RowKit Go.Maps
open Num
set_option linter.unusedVariables false
theorem infoInt : (Tryd.prog.info? 3).map (fun i => (i.zero, i.size, i.bytes)) = some (some (.int .i64 0), 1, 8) := by kernel_rfl
theorem own_posg {w : World} {base : Nat} {e : TypeId} {size n : Nat} {v : Value} {xs : List Value} (h : w.ownsRow base e size v (n + 1) xs) : ∃ g cap, v = .slice (some ⟨g, 0, none⟩) (n + 1) cap ∧ base ≤ g := by
  rcases h.2 with ⟨_, h⟩ | ⟨g, cap, cur, rfl, hb, _⟩
  · omega
  · exact ⟨g, cap, rfl, hb⟩
theorem own_mono {w : World} {base base' : Nat} {e : TypeId} {size n : Nat} {v : Value} {xs : List Value} (h : w.ownsRow base e size v n xs) (hb : base' ≤ base) : w.ownsRow base' e size v n xs := by
  refine ⟨h.1, ?_⟩
  rcases h.2 with hn | ⟨g, cap, cur, rfl, hbg, hgg, rest⟩
  · exact .inl hn
  · exact .inr ⟨g, cap, cur, rfl, Nat.le_trans hb hbg, hgg, rest⟩
theorem ho_lt {w : World} {base : Nat} {e : TypeId} {size n m g cap : Nat} {xs : List Value} (h : w.ownsRow base e size (.slice (some ⟨g, 0, none⟩) n cap) m xs) : g < w.heap.size := by
  rcases h.2 with ⟨h, _⟩ | ⟨g', cap', cur, e, _, hgg, _⟩
  · cases h
  · cases e; exact (Array.getElem?_eq_some_iff.1 hgg).1
theorem rd_ways (o : Opx) : (b2 (rA (kn o.s)) 1 = false ∧ b2 (rB (kn o.s)) 1 = false ∧ dvB o.k = false ∧ rdX o = []) ∨ (b2 (rA (kn o.s)) 1 = true ∧ b2 (rB (kn o.s)) 1 = false ∧ dvB o.k = false ∧ rdX o = [o.a]) ∨ (b2 (rA (kn o.s)) 1 = true ∧ b2 (rB (kn o.s)) 1 = true ∧ dvB o.k = false ∧ rdX o = [o.a, o.b]) ∨ (b2 (rA (kn o.s)) 1 = true ∧ b2 (rB (kn o.s)) 1 = true ∧ dvB o.k = true ∧ rdX o = [o.a, o.b, o.d]) := by
  have hl := kn_lt o.s
  unfold rdX b2 dvB rA rB Opx.k
  generalize kn o.s = k at *
  by_cases h1 : 2 ≤ k ∧ k ≤ 25 ∨ k = 27
  · by_cases h2 : 3 ≤ k ∧ k ≤ 22 ∨ k = 24
    · by_cases h3 : 17 ≤ k ∧ k ≤ 20
      · simp [h1, h2, h3]
      · simp [h1, h2, h3]
    · have h3 : ¬ (17 ≤ k ∧ k ≤ 20) := by omega
      by_cases h4 : k = 23 <;> simp [h1, h2, h3, h4]
  · have h2 : ¬ (3 ≤ k ∧ k ≤ 22 ∨ k = 24) := by omega
    have h3 : ¬ (17 ≤ k ∧ k ≤ 20) := by omega
    by_cases h4 : k = 23 <;> simp [h1, h2, h3, h4]
set_option maxRecDepth 100000 in
set_option maxHeartbeats 4000000 in
theorem reads_any (o : Opx) (w : World) : Calls Tryd.prog 25 #[opV o] w fun e w' => ∃ v, e = .returned v ∧ w'.ownsRow w.heap.size 3 1 v (rdX o).length ((rdX o).map (Value.int .i64)) ∧ Below w.heap.size w w' := by
  have hr := fun w => registers_any o.s w
  unfold regV at hr
  have hd := fun w => divides_any o w
  have HW := rd_ways o
  obtain ⟨i0, hi, iz0, iz1, iz2⟩ := info_parts infoInt
  generalize b2 (rD (kn o.s)) 2 = x1 at *
  generalize b2 (rA (kn o.s)) 1 = x2 at *
  generalize b2 (rB (kn o.s)) 1 = x3 at *
  generalize dvB o.k = x4 at *
  obtain ⟨L, hL⟩ : ∃ L, rdX o = L := ⟨_, rfl⟩
  rw [hL] at HW ⊢
  clear hL
  unfold opV at *
  rcases HW with ⟨rfl, rfl, rfl, rfl⟩ | ⟨rfl, rfl, rfl, rfl⟩ | ⟨rfl, rfl, rfl, rfl⟩ | ⟨rfl, rfl, rfl, rfl⟩
  · go_enter Tryd.func25, Tryd.ntmps25
    go_wp2_with fail
    refine (hr _).mono ?_
    rintro e w1 ⟨rfl, hb1⟩
    obtain ⟨c, hf⟩ := bcellO hb1
    have hz : w.heap.size < w1.heap.size := by have := hb1.size; simp at this; omega
    have HB : Hid (Below w.heap.size w w1) := ((Below.refl _ _).alloc (Nat.le_refl _) _).trans (hb1.mono (by simp))
    clear hr hb1
    go_wp2_with fail
    refine (hd _).mono ?_
    rintro e w2 ⟨rfl, hb2⟩
    have HB2 : Hid (Below w.heap.size w w2) := HB.out.trans (hb2.mono (by omega))
    go_wp2
    go_ret
    exact ⟨_, rfl, World.ownsRow_nil _ _ _ _, HB2.out⟩
  · go_enter Tryd.func25, Tryd.ntmps25
    go_wp2_with fail
    refine (hr _).mono ?_
    rintro e w1 ⟨rfl, hb1⟩
    obtain ⟨c, hf⟩ := bcellO hb1
    have hz : w.heap.size < w1.heap.size := by have := hb1.size; simp at this; omega
    have HB : Hid (Below w.heap.size w w1) := ((Below.refl _ _).alloc (Nat.le_refl _) _).trans (hb1.mono (by simp))
    clear hr hb1
    have hn1 : ∀ (j : Nat) (u : Value), [Value.int .i64 o.a][j]? = some u → (w1.alloc (.cells #[.int .i64 o.a] 3)).cell? ((⟨w1.heap.size, 0, none⟩ : Addr).add j) = some u := by
      intro j u hj
      rw [add_lit, cell_of_row _ _ _ _ _ _ (heap_alloc_new w1 _)]
      simpa using hj
    go_upto_region 5 with (at_builtin; refine wpList_append_moved rfl _ _ 49 rfl w1.heap.size 3 i0 (.int .i64 0) 1 8 Tryd.underlying49 hi iz0 iz1 iz2 rfl (by decide) (.slice none 0 0) 0 [] rfl (World.ownsRow_nil _ _ _ _) ⟨w1.heap.size, 0, none⟩ 1 1 [.int .i64 o.a] rfl rfl hn1 (by simp [Value.oneCell']) (by unfold maxLen; omega) (by omega) (by simp <;> omega) ?_; intro v1 u1 ho1 hg1 hm1; obtain ⟨g1, c1, rfl, hge1⟩ := own_posg ho1)
    have hs1 : w1.heap.size ≤ u1.heap.size := by have := hg1.size; simp at this; omega
    have hz1 : w.heap.size < u1.heap.size := by omega
    have cb1 : u1.heap[w.heap.size]? = w1.heap[w.heap.size]? := (hg1.block w.heap.size (by simp <;> omega) (by intro e; cases e)).trans (Below.heap_alloc _ _ _ (by omega))
    have q1 : ∀ j, u1.cell? ⟨w.heap.size, j, none⟩ = w1.cell? ⟨w.heap.size, j, none⟩ := fun j => World.cell?_of_block (a := ⟨w.heap.size, j, none⟩) cb1
    have e1 : ∀ j, u1.frozen? ⟨w.heap.size, j, none⟩ = w1.frozen? ⟨w.heap.size, j, none⟩ := fun j => World.frozen?_of_block (a := ⟨w.heap.size, j, none⟩) cb1
    have HB1 : Hid (Below w.heap.size w u1) := (HB.out.alloc (by omega) _).grown hg1 (by simp <;> omega) (fun k e => by cases e)
    have ho1 : u1.ownsRow w1.heap.size 3 1 (.slice (some ⟨g1, 0, none⟩) 1 c1) 1 [.int .i64 o.a] := ho1
    have HO1 : Hid _ := ho1
    clear cb1 hm1
    go_wp2_with fail
    refine (hd _).mono ?_
    rintro e w2 ⟨rfl, hb2⟩
    have HB9 : Hid (Below w.heap.size w w2) := HB1.out.trans (hb2.mono (by omega))
    have ho9 : Hid _ := owns_blocks HO1.out (fun k hk => hb2.block k (by injection hk with hk; subst hk; exact ho_lt HO1.out))
    clear hd hb2
    go_wp2
    go_ret
    exact ⟨_, rfl, own_mono ho9.out (by omega), HB9.out⟩
  · go_enter Tryd.func25, Tryd.ntmps25
    go_wp2_with fail
    refine (hr _).mono ?_
    rintro e w1 ⟨rfl, hb1⟩
    obtain ⟨c, hf⟩ := bcellO hb1
    have hz : w.heap.size < w1.heap.size := by have := hb1.size; simp at this; omega
    have HB : Hid (Below w.heap.size w w1) := ((Below.refl _ _).alloc (Nat.le_refl _) _).trans (hb1.mono (by simp))
    clear hr hb1
    have hn1 : ∀ (j : Nat) (u : Value), [Value.int .i64 o.a][j]? = some u → (w1.alloc (.cells #[.int .i64 o.a] 3)).cell? ((⟨w1.heap.size, 0, none⟩ : Addr).add j) = some u := by
      intro j u hj
      rw [add_lit, cell_of_row _ _ _ _ _ _ (heap_alloc_new w1 _)]
      simpa using hj
    go_upto_region 5 with (at_builtin; refine wpList_append_moved rfl _ _ 49 rfl w1.heap.size 3 i0 (.int .i64 0) 1 8 Tryd.underlying49 hi iz0 iz1 iz2 rfl (by decide) (.slice none 0 0) 0 [] rfl (World.ownsRow_nil _ _ _ _) ⟨w1.heap.size, 0, none⟩ 1 1 [.int .i64 o.a] rfl rfl hn1 (by simp [Value.oneCell']) (by unfold maxLen; omega) (by omega) (by simp <;> omega) ?_; intro v1 u1 ho1 hg1 hm1; obtain ⟨g1, c1, rfl, hge1⟩ := own_posg ho1)
    have hs1 : w1.heap.size ≤ u1.heap.size := by have := hg1.size; simp at this; omega
    have hz1 : w.heap.size < u1.heap.size := by omega
    have cb1 : u1.heap[w.heap.size]? = w1.heap[w.heap.size]? := (hg1.block w.heap.size (by simp <;> omega) (by intro e; cases e)).trans (Below.heap_alloc _ _ _ (by omega))
    have q1 : ∀ j, u1.cell? ⟨w.heap.size, j, none⟩ = w1.cell? ⟨w.heap.size, j, none⟩ := fun j => World.cell?_of_block (a := ⟨w.heap.size, j, none⟩) cb1
    have e1 : ∀ j, u1.frozen? ⟨w.heap.size, j, none⟩ = w1.frozen? ⟨w.heap.size, j, none⟩ := fun j => World.frozen?_of_block (a := ⟨w.heap.size, j, none⟩) cb1
    have HB1 : Hid (Below w.heap.size w u1) := (HB.out.alloc (by omega) _).grown hg1 (by simp <;> omega) (fun k e => by cases e)
    have ho1 : u1.ownsRow w1.heap.size 3 1 (.slice (some ⟨g1, 0, none⟩) 1 c1) 1 [.int .i64 o.a] := ho1
    have HO1 : Hid _ := ho1
    clear cb1 hm1
    have hn2 : ∀ (j : Nat) (u : Value), [Value.int .i64 o.b][j]? = some u → (u1.alloc (.cells #[.int .i64 o.b] 3)).cell? ((⟨u1.heap.size, 0, none⟩ : Addr).add j) = some u := by
      intro j u hj
      rw [add_lit, cell_of_row _ _ _ _ _ _ (heap_alloc_new u1 _)]
      simpa using hj
    go_upto_region 7 with (at_builtin; refine wpList_append_moved rfl _ _ 49 rfl w1.heap.size 3 i0 (.int .i64 0) 1 8 Tryd.underlying49 hi iz0 iz1 iz2 rfl (by decide) (.slice (some ⟨g1, 0, none⟩) 1 c1) 1 [.int .i64 o.a] rfl (ho1.alloc _) ⟨u1.heap.size, 0, none⟩ 1 1 [.int .i64 o.b] rfl rfl hn2 (by simp [Value.oneCell']) (by unfold maxLen; omega) (by omega) (by simp <;> omega) ?_; intro v2 u2 ho2 hg2 hm2; obtain ⟨g2, c2, rfl, hge2⟩ := own_posg ho2)
    have hs2 : w1.heap.size ≤ u2.heap.size := by have := hg2.size; simp at this; omega
    have hz2 : w.heap.size < u2.heap.size := by omega
    have cb2 : u2.heap[w.heap.size]? = u1.heap[w.heap.size]? := (hg2.block w.heap.size (by simp <;> omega) (by intro e; have e : w.heap.size = g1 := Option.some.inj e; omega)).trans (Below.heap_alloc _ _ _ (by omega))
    have q2 : ∀ j, u2.cell? ⟨w.heap.size, j, none⟩ = u1.cell? ⟨w.heap.size, j, none⟩ := fun j => World.cell?_of_block (a := ⟨w.heap.size, j, none⟩) cb2
    have e2 : ∀ j, u2.frozen? ⟨w.heap.size, j, none⟩ = u1.frozen? ⟨w.heap.size, j, none⟩ := fun j => World.frozen?_of_block (a := ⟨w.heap.size, j, none⟩) cb2
    have HB2 : Hid (Below w.heap.size w u2) := (HB1.out.alloc (by omega) _).grown hg2 (by simp <;> omega) (fun k e => by have e : g1 = k := Option.some.inj e; omega)
    have ho2 : u2.ownsRow w1.heap.size 3 1 (.slice (some ⟨g2, 0, none⟩) 2 c2) 2 [.int .i64 o.a, .int .i64 o.b] := ho2
    have HO2 : Hid _ := ho2
    clear cb2 hm2
    go_wp2_with fail
    refine (hd _).mono ?_
    rintro e w2 ⟨rfl, hb2⟩
    have HB9 : Hid (Below w.heap.size w w2) := HB2.out.trans (hb2.mono (by omega))
    have ho9 : Hid _ := owns_blocks HO2.out (fun k hk => hb2.block k (by injection hk with hk; subst hk; exact ho_lt HO2.out))
    clear hd hb2
    go_wp2
    go_ret
    exact ⟨_, rfl, own_mono ho9.out (by omega), HB9.out⟩
  · go_enter Tryd.func25, Tryd.ntmps25
    go_wp2_with fail
    refine (hr _).mono ?_
    rintro e w1 ⟨rfl, hb1⟩
    obtain ⟨c, hf⟩ := bcellO hb1
    have hz : w.heap.size < w1.heap.size := by have := hb1.size; simp at this; omega
    have HB : Hid (Below w.heap.size w w1) := ((Below.refl _ _).alloc (Nat.le_refl _) _).trans (hb1.mono (by simp))
    clear hr hb1
    have hn1 : ∀ (j : Nat) (u : Value), [Value.int .i64 o.a][j]? = some u → (w1.alloc (.cells #[.int .i64 o.a] 3)).cell? ((⟨w1.heap.size, 0, none⟩ : Addr).add j) = some u := by
      intro j u hj
      rw [add_lit, cell_of_row _ _ _ _ _ _ (heap_alloc_new w1 _)]
      simpa using hj
    go_upto_region 5 with (at_builtin; refine wpList_append_moved rfl _ _ 49 rfl w1.heap.size 3 i0 (.int .i64 0) 1 8 Tryd.underlying49 hi iz0 iz1 iz2 rfl (by decide) (.slice none 0 0) 0 [] rfl (World.ownsRow_nil _ _ _ _) ⟨w1.heap.size, 0, none⟩ 1 1 [.int .i64 o.a] rfl rfl hn1 (by simp [Value.oneCell']) (by unfold maxLen; omega) (by omega) (by simp <;> omega) ?_; intro v1 u1 ho1 hg1 hm1; obtain ⟨g1, c1, rfl, hge1⟩ := own_posg ho1)
    have hs1 : w1.heap.size ≤ u1.heap.size := by have := hg1.size; simp at this; omega
    have hz1 : w.heap.size < u1.heap.size := by omega
    have cb1 : u1.heap[w.heap.size]? = w1.heap[w.heap.size]? := (hg1.block w.heap.size (by simp <;> omega) (by intro e; cases e)).trans (Below.heap_alloc _ _ _ (by omega))
    have q1 : ∀ j, u1.cell? ⟨w.heap.size, j, none⟩ = w1.cell? ⟨w.heap.size, j, none⟩ := fun j => World.cell?_of_block (a := ⟨w.heap.size, j, none⟩) cb1
    have e1 : ∀ j, u1.frozen? ⟨w.heap.size, j, none⟩ = w1.frozen? ⟨w.heap.size, j, none⟩ := fun j => World.frozen?_of_block (a := ⟨w.heap.size, j, none⟩) cb1
    have HB1 : Hid (Below w.heap.size w u1) := (HB.out.alloc (by omega) _).grown hg1 (by simp <;> omega) (fun k e => by cases e)
    have ho1 : u1.ownsRow w1.heap.size 3 1 (.slice (some ⟨g1, 0, none⟩) 1 c1) 1 [.int .i64 o.a] := ho1
    have HO1 : Hid _ := ho1
    clear cb1 hm1
    have hn2 : ∀ (j : Nat) (u : Value), [Value.int .i64 o.b][j]? = some u → (u1.alloc (.cells #[.int .i64 o.b] 3)).cell? ((⟨u1.heap.size, 0, none⟩ : Addr).add j) = some u := by
      intro j u hj
      rw [add_lit, cell_of_row _ _ _ _ _ _ (heap_alloc_new u1 _)]
      simpa using hj
    go_upto_region 7 with (at_builtin; refine wpList_append_moved rfl _ _ 49 rfl w1.heap.size 3 i0 (.int .i64 0) 1 8 Tryd.underlying49 hi iz0 iz1 iz2 rfl (by decide) (.slice (some ⟨g1, 0, none⟩) 1 c1) 1 [.int .i64 o.a] rfl (ho1.alloc _) ⟨u1.heap.size, 0, none⟩ 1 1 [.int .i64 o.b] rfl rfl hn2 (by simp [Value.oneCell']) (by unfold maxLen; omega) (by omega) (by simp <;> omega) ?_; intro v2 u2 ho2 hg2 hm2; obtain ⟨g2, c2, rfl, hge2⟩ := own_posg ho2)
    have hs2 : w1.heap.size ≤ u2.heap.size := by have := hg2.size; simp at this; omega
    have hz2 : w.heap.size < u2.heap.size := by omega
    have cb2 : u2.heap[w.heap.size]? = u1.heap[w.heap.size]? := (hg2.block w.heap.size (by simp <;> omega) (by intro e; have e : w.heap.size = g1 := Option.some.inj e; omega)).trans (Below.heap_alloc _ _ _ (by omega))
    have q2 : ∀ j, u2.cell? ⟨w.heap.size, j, none⟩ = u1.cell? ⟨w.heap.size, j, none⟩ := fun j => World.cell?_of_block (a := ⟨w.heap.size, j, none⟩) cb2
    have e2 : ∀ j, u2.frozen? ⟨w.heap.size, j, none⟩ = u1.frozen? ⟨w.heap.size, j, none⟩ := fun j => World.frozen?_of_block (a := ⟨w.heap.size, j, none⟩) cb2
    have HB2 : Hid (Below w.heap.size w u2) := (HB1.out.alloc (by omega) _).grown hg2 (by simp <;> omega) (fun k e => by have e : g1 = k := Option.some.inj e; omega)
    have ho2 : u2.ownsRow w1.heap.size 3 1 (.slice (some ⟨g2, 0, none⟩) 2 c2) 2 [.int .i64 o.a, .int .i64 o.b] := ho2
    have HO2 : Hid _ := ho2
    clear cb2 hm2
    go_wp2_with fail
    refine (hd _).mono ?_
    rintro e w2 ⟨rfl, hb2⟩
    have r2' : ∀ j, w2.cell? ⟨w.heap.size, j, none⟩ = u2.cell? ⟨w.heap.size, j, none⟩ := fun j => hb2.cell (p := ⟨w.heap.size, j, none⟩) hz2
    have s2' : ∀ j, w2.frozen? ⟨w.heap.size, j, none⟩ = u2.frozen? ⟨w.heap.size, j, none⟩ := fun j => hb2.frozen (p := ⟨w.heap.size, j, none⟩) hz2
    have hz9 : w.heap.size < w2.heap.size := by have := hb2.size; omega
    have hs9 : w1.heap.size ≤ w2.heap.size := by have := hb2.size; omega
    have HB9 : Hid (Below w.heap.size w w2) := HB2.out.trans (hb2.mono (by omega))
    have ho9 : w2.ownsRow w1.heap.size 3 1 (.slice (some ⟨g2, 0, none⟩) 2 c2) 2 [.int .i64 o.a, .int .i64 o.b] := owns_blocks HO2.out (fun k hk => hb2.block k (by injection hk with hk; subst hk; exact ho_lt HO2.out))
    clear hd hb2
    have hn3 : ∀ (j : Nat) (u : Value), [Value.int .i64 o.d][j]? = some u → (w2.alloc (.cells #[.int .i64 o.d] 3)).cell? ((⟨w2.heap.size, 0, none⟩ : Addr).add j) = some u := by
      intro j u hj
      rw [add_lit, cell_of_row _ _ _ _ _ _ (heap_alloc_new w2 _)]
      simpa using hj
    go_wp2_with (at_builtin; refine wpList_append_moved rfl _ _ 49 rfl w1.heap.size 3 i0 (.int .i64 0) 1 8 Tryd.underlying49 hi iz0 iz1 iz2 rfl (by decide) (.slice (some ⟨g2, 0, none⟩) 2 c2) 2 [.int .i64 o.a, .int .i64 o.b] rfl (ho9.alloc _) ⟨w2.heap.size, 0, none⟩ 1 1 [.int .i64 o.d] rfl rfl hn3 (by simp [Value.oneCell']) (by unfold maxLen; omega) (by omega) (by simp <;> omega) ?_; intro v3 u3 ho3 hg3 hm3; obtain ⟨g3, c3, rfl, hge3⟩ := own_posg ho3)
    have hs3 : w1.heap.size ≤ u3.heap.size := by have := hg3.size; simp at this; omega
    have hz3 : w.heap.size < u3.heap.size := by omega
    have cb3 : u3.heap[w.heap.size]? = w2.heap[w.heap.size]? := (hg3.block w.heap.size (by simp <;> omega) (by intro e; have e : w.heap.size = g2 := Option.some.inj e; omega)).trans (Below.heap_alloc _ _ _ (by omega))
    have q3 : ∀ j, u3.cell? ⟨w.heap.size, j, none⟩ = w2.cell? ⟨w.heap.size, j, none⟩ := fun j => World.cell?_of_block (a := ⟨w.heap.size, j, none⟩) cb3
    have e3 : ∀ j, u3.frozen? ⟨w.heap.size, j, none⟩ = w2.frozen? ⟨w.heap.size, j, none⟩ := fun j => World.frozen?_of_block (a := ⟨w.heap.size, j, none⟩) cb3
    have HB3 : Hid (Below w.heap.size w u3) := (HB9.out.alloc (by omega) _).grown hg3 (by simp <;> omega) (fun k e => by have e : g2 = k := Option.some.inj e; omega)
    have ho3 : u3.ownsRow w1.heap.size 3 1 (.slice (some ⟨g3, 0, none⟩) 3 c3) 3 [.int .i64 o.a, .int .i64 o.b, .int .i64 o.d] := ho3
    have HO3 : Hid _ := ho3
    clear cb3 hm3
    go_ret
    exact ⟨_, rfl, own_mono HO3.out (by omega), HB3.out⟩
end Go.Proofs.YtcccaejjhodnkaaDoor
