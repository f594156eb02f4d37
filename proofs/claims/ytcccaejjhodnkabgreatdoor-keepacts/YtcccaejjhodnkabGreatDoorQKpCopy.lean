/-
  Package keep: a plan's rows, each in memory of its own.
-/
import Derived.Test.YtcccaejjhodnkabGreatDoorKKpAsk
import Derived.Test.YtcccaejjhodnkabGreatDoorKIrChk3
import Derived.Test.YtcccaejjhodnkabGreatDoorKOptRev
namespace Go.Proofs.YtcccaejjhodnkabGreatDoor
open Go.RowKit Go.Maps
open Num
set_option linter.unusedVariables false
theorem infoRow : (Tryz.prog.info? 40).map (fun i => (i.zero, i.size, i.bytes)) = some (some (.slice none 0 0), 1, 24) := by kernel_rfl
/-- rows of ops of one's own -/
structure RwK (base : Nat) (w : World) (v : Value) (us : List Value) (rs : List (List Opx)) : Prop where
  own : w.ownsRow base 40 1 v rs.length us
  len : us.length = rs.length
  each : ∀ (i : Nat) (u : Value) (r : List Opx), us[i]? = some u → rs[i]? = some r → ∃ g cap, u = .slice (some ⟨g, 0, none⟩) r.length cap ∧ r.length ≤ cap ∧ OpsRw w g r ∧ base ≤ g ∧ g < w.heap.size ∧ v.ownBlock ≠ some g
/-- blocks from base on as they were: the rows are as they were -/
theorem RwK.blocks {base : Nat} {w w' : World} {v : Value} {us : List Value} {rs : List (List Opx)} (R : RwK base w v us rs) (hs : w.heap.size ≤ w'.heap.size) (h : ∀ k, base ≤ k → k < w.heap.size → w'.heap[k]? = w.heap[k]?) : RwK base w' v us rs :=
  ⟨owns_blocks R.own fun k e => h k (own_lt R.own k e).2 (own_lt R.own k e).1, R.len, fun i u r hu hr => by
    obtain ⟨g, cap, e, hc, ho, hb, hl, hn⟩ := R.each i u r hu hr
    exact ⟨g, cap, e, hc, ho.block (h g hb hl), hb, by omega, hn⟩⟩
theorem RwK.stays {base : Nat} {w w' : World} {v : Value} {us : List Value} {rs : List (List Opx)} (R : RwK base w v us rs) (h : Below w.heap.size w w') : RwK base w' v us rs := R.blocks h.size fun k _ hk => h.block k hk
theorem RwK.rows {base : Nat} {w : World} {v : Value} {us : List Value} {rs : List (List Opx)} (R : RwK base w v us rs) (ok : ∀ r ∈ rs, ∀ o ∈ r, o.ok) : RowsI w v rs := by
  rcases R.own.2 with ⟨rfl, h⟩ | ⟨g, cap, cur, rfl, _, _, hc, _⟩
  · exact ⟨none, 0, by rw [h], by omega, fun hp => by omega⟩
  · refine ⟨_, cap, rfl, hc, fun _ => ⟨g, 0, rfl, fun i row hi => ?_⟩⟩
    have hil : i < us.length := by rw [R.len]; exact (List.getElem?_eq_some_iff.1 hi).1
    have hu : us[i]? = some us[i] := List.getElem?_eq_getElem hil
    obtain ⟨g1, cap1, e, hc1, ho, _, _, _⟩ := R.each i _ row hu hi
    refine ⟨us[i], ?_, by rw [e]; exact ho.in hc1 (ok row (List.mem_of_getElem? hi))⟩
    have := R.own.cells (g := g) rfl i us[i] hu
    rw [add_lit] at this
    rw [Nat.zero_add]; exact this
theorem RwK.snoc {base : Nat} {w W w' : World} {v v' : Value} {us : List Value} {rs : List (List Opx)} {r : List Opx} {g cap : Nat} (R : RwK base w v us rs) (hW : Below w.heap.size w W) (hg : OpsRw W g r) (hc : r.length ≤ cap) (hgb : w.heap.size ≤ g) (hgl : g < W.heap.size) (hb : base ≤ w.heap.size)
    (ho : w'.ownsRow base 40 1 v' (rs.length + 1) (us ++ [.slice (some ⟨g, 0, none⟩) r.length cap])) (hgr : W.grownBy w' v.ownBlock) (hm : Moved W v v') : RwK base w' v' (us ++ [.slice (some ⟨g, 0, none⟩) r.length cap]) (rs ++ [r]) := by
  have hvl : ∀ k, v.ownBlock = some k → k < w.heap.size := fun k e => (own_lt R.own k e).1
  have nv : ∀ k, k < W.heap.size → v.ownBlock ≠ some k → v'.ownBlock ≠ some k := fun k hk hne h => by
    rcases hm k h with h | h
    · exact hne h
    · omega
  have hws := hW.size
  have hgs := hgr.size
  refine ⟨by rw [List.length_append]; exact ho, by simp [R.len], fun i u q hu hq => ?_⟩
  by_cases hi : i < us.length
  · rw [List.getElem?_append_left hi] at hu
    rw [List.getElem?_append_left (by rw [← R.len]; exact hi)] at hq
    obtain ⟨g1, cap1, e, hc1, ho1, hb1, hl1, hn1⟩ := R.each i u q hu hq
    exact ⟨g1, cap1, e, hc1, (ho1.block (hW.block g1 hl1)).block (hgr.block g1 (by omega) (Ne.symm hn1)), hb1, by omega, nv g1 (by omega) hn1⟩
  · rw [List.getElem?_append_right (by omega)] at hu
    rw [List.getElem?_append_right (by rw [← R.len]; omega), ← R.len] at hq
    have h0 : i - us.length = 0 := by
      rcases Nat.eq_zero_or_pos (i - us.length) with h | h
      · exact h
      · rw [List.getElem?_eq_none (by simp; omega)] at hu; cases hu
    rw [h0] at hu hq
    obtain rfl : Value.slice (some ⟨g, 0, none⟩) r.length cap = u := by simpa using hu
    obtain rfl : r = q := by simpa using hq
    have hne : v.ownBlock ≠ some g := fun h => by have := hvl g h; omega
    exact ⟨g, cap, rfl, hc, hg.block (hgr.block g hgl (Ne.symm hne)), by omega, by omega, nv g hgl hne⟩
theorem RwK.low {base base' : Nat} {w : World} {v : Value} {us : List Value} {rs : List (List Opx)} (R : RwK base w v us rs) (h : base' ≤ base) : RwK base' w v us rs :=
  ⟨own_low R.own h, R.len, fun i u r hu hr => let ⟨g, cap, e, hc, ho, hb, hl, hn⟩ := R.each i u r hu hr; ⟨g, cap, e, hc, ho, Nat.le_trans h hb, hl, hn⟩⟩
theorem RowIs.put3 {w : World} {B : Nat} {t : TypeId} {f : Nat → Value} (R : RowIs w B t 3 f) (a b c : Value) : RowIs (((w.setCell ⟨B, 0, none⟩ a).setCell ⟨B, 1, none⟩ b).setCell ⟨B, 2, none⟩ c) B t 3 (fun j => if j = 0 then a else if j = 1 then b else c) := by
  have h1 := R.put 0 a (fun j => if j = 0 then a else f j) (by simp) (fun j _ hne => by simp [hne])
  have h2 := h1.put 1 b (fun j => if j = 1 then b else if j = 0 then a else f j) (by simp) (fun j _ hne => by simp [hne])
  refine h2.put 2 c _ (by simp) fun j hj hne => ?_
  rcases (by omega : j = 0 ∨ j = 1) with rfl | rfl <;> simp
theorem kp_results {fn : Func} {p : Tmp} {ty : TypeId} {A : Addr} {x : Value} (h : fn.results = #[.cell p ty]) (tmps : Array Value) (P : Program) (w : World) (hp : tmps.getD p undef = .pointer (some A)) (hl : (loadVar ty A).run P w = .ok x w) :
    (results fn tmps).run P w = .ok x w := by
  simp only [results, h]
  simp only [asAddr, hp, Sem.run_bind, List.mapM_toArray, List.mapM_cons, List.mapM_nil, Sem.run_map, Sem.run_pure, Result.andThen, hl]
  simp
theorem kp_load {w : World} {B : Nat} {a b c : Value} (z0 : w.cell? ⟨B, 0, none⟩ = some a) (z1 : w.cell? ⟨B, 1, none⟩ = some b) (z2 : w.cell? ⟨B, 2, none⟩ = some c) : (loadVar 48 ⟨B, 0, none⟩).run Tryz.prog w = .ok (.agg #[a, b, c]) w := by
  simp [go_sem, z0, z1, z2]
set_option maxRecDepth 100000 in
set_option maxHeartbeats 4000000 in
theorem copyOf_any {w : World} {v : Value} {rs : List (List Opx)} (R : RowsI w v rs) (F : Few rs) (hne : ∀ r ∈ rs, 0 < r.length) (pc many : Int) :
    Calls Tryz.prog 31 #[.agg #[.int .u32 pc, .int .i64 many, v]] w fun e w' => ∃ v' us, e = .returned (.agg #[.int .u32 pc, .int .i64 many, v']) ∧ RwK w.heap.size w' v' us rs ∧ Below w.heap.size w w' := by
  obtain ⟨i0, hi, iz0, iz1, iz2⟩ := info_parts infoRow
  obtain ⟨ao, cap, rfl, hc, hh⟩ := id R
  have HR : Hid (RowsI w (.slice ao rs.length cap) rs) := R
  have HF : Hid (Few rs) := F
  have HE : Hid (∀ r ∈ rs, 0 < r.length) := hne
  have hF := F.1
  clear R F hne hh
  have hmk : ∀ W : World, (Instr.makeSlice 35 (.int .i64 0) (.int .i64 rs.length)).run Tryz.prog W = .ok (.slice (some ⟨W.heap.size, 0, none⟩) 0 rs.length) (W.alloc (.cells (madeCells #[.slice none 0 0] rs.length) 40)) := fun W => by
    have := run_make (P := Tryz.prog) W 35 40 i0 (.slice none 0 0) Tryz.underlying35 hi iz0 .i64 .i64 0 rs.length (by omega) (by omega) (by rw [iz2]; omega) (by omega)
    rw [iz1] at this
    simp only [Int.toNat_zero, Int.toNat_natCast, Nat.mul_one] at this
    exact this
  obtain ⟨V, hV⟩ : ∃ V, ((w.alloc (.cells #[.int .u32 pc, .int .i64 many, .slice ao rs.length cap] 48)).alloc (.cells #[.int .u32 0, .int .i64 0, .slice none 0 0] 48)).alloc (.cells (madeCells #[.slice none 0 0] rs.length) 40) = V := ⟨_, rfl⟩
  have V0 : V.ownsRow (w.heap.size + 2) 40 1 (.slice (some ⟨w.heap.size + 2, 0, none⟩) 0 rs.length) 0 [] := by
    have := World.ownsRow_made (base := w.heap.size + 2) (e := 40) (size := 1) ((w.alloc (.cells #[.int .u32 pc, .int .i64 many, .slice ao rs.length cap] 48)).alloc (.cells #[.int .u32 0, .int .i64 0, .slice none 0 0] 48)) (madeCells #[.slice none 0 0] rs.length) rs.length (by simp) (by unfold maxLen; omega) (by rw [size_madeCells]; omega)
    simp only [World.size_alloc] at this
    rw [← hV]; exact this
  have V3a : Below (w.heap.size + 1) (w.alloc (.cells #[.int .u32 pc, .int .i64 many, .slice ao rs.length cap] 48)) V := by rw [← hV]; exact ((Below.refl _ _).alloc (by rw [World.size_alloc]; omega) _).alloc (by rw [World.size_alloc, World.size_alloc]; omega) _
  have V3b : Below (w.heap.size + 2) ((w.alloc (.cells #[.int .u32 pc, .int .i64 many, .slice ao rs.length cap] 48)).alloc (.cells #[.int .u32 0, .int .i64 0, .slice none 0 0] 48)) V := by rw [← hV]; exact (Below.refl _ _).alloc (by rw [World.size_alloc, World.size_alloc]; omega) _
  have V1 : RowIs V w.heap.size 48 3 (fun j => if j = 0 then .int .u32 pc else if j = 1 then .int .i64 many else .slice ao rs.length cap) := by
    refine ⟨#[.int .u32 pc, .int .i64 many, .slice ao rs.length cap], (V3a.block w.heap.size (by omega)).trans (heap_alloc_new w _), rfl, fun j hj => ?_⟩
    rcases (by omega : j = 0 ∨ j = 1 ∨ j = 2) with rfl | rfl | rfl <;> rfl
  have V2 : RowIs V (w.heap.size + 1) 48 3 (fun j => if j = 0 then .int .u32 0 else if j = 1 then .int .i64 0 else .slice none 0 0) := by
    have hn := heap_alloc_new (w.alloc (.cells #[.int .u32 pc, .int .i64 many, .slice ao rs.length cap] 48)) (.cells #[.int .u32 0, .int .i64 0, .slice none 0 0] 48)
    rw [World.size_alloc] at hn
    refine ⟨#[.int .u32 0, .int .i64 0, .slice none 0 0], (V3b.block (w.heap.size + 1) (by omega)).trans hn, rfl, fun j hj => ?_⟩
    rcases (by omega : j = 0 ∨ j = 1 ∨ j = 2) with rfl | rfl | rfl <;> rfl
  have V3 : Below w.heap.size w V := by rw [← hV]; exact (((Below.refl _ _).alloc (Nat.le_refl _) _).alloc (by simp) _).alloc (by simp; omega) _
  have V4 : w.heap.size + 2 < V.heap.size := by rw [← hV]; simp
  have vc2 : V.cell? ⟨w.heap.size, 2, none⟩ = some (.slice ao rs.length cap) := V1.cell (j := 2) (by omega)
  have HV0 : Hid (V.ownsRow (w.heap.size + 2) 40 1 (.slice (some ⟨w.heap.size + 2, 0, none⟩) 0 rs.length) 0 []) := V0
  have HV1 : Hid (RowIs V w.heap.size 48 3 (fun j => if j = 0 then .int .u32 pc else if j = 1 then .int .i64 many else .slice ao rs.length cap)) := V1
  have HV2 : Hid (RowIs V (w.heap.size + 1) 48 3 (fun j => if j = 0 then .int .u32 0 else if j = 1 then .int .i64 0 else .slice none 0 0)) := V2
  have HV3 : Hid (Below w.heap.size w V) := V3
  clear V0 V1 V2 V3 V3a V3b
  go_enter Tryz.func31, Tryz.ntmps31
  go_upto_region 2 with fail
  go_wp2_with fail
  clear hmk hV
  go_loopw [3, 13] (fun out i wr => ∃ (j : Nat) (us : List Value), j ≤ rs.length ∧ i = .int .i64 j ∧ RwK (w.heap.size + 2) wr out us (rs.take j) ∧ Below (w.heap.size + 2) V wr) (fun _ i _ => rs.length - (intOf i).toNat)
  case atStart => exact ⟨0, [], Nat.zero_le _, rfl, ⟨HV0.out, rfl, fun i u r h => by simp at h⟩, Below.refl _ _⟩
  case round =>
    obtain ⟨j, us, hj, rfl, R, hB⟩ := hrel
    have hlen : (rs.take j).length = j := by rw [List.length_take]; omega
    by_cases hlt : j < rs.length
    · obtain ⟨r, hr⟩ : ∃ r, rs[j]? = some r := ⟨_, List.getElem?_eq_getElem hlt⟩
      have hB0 : Below w.heap.size w wr := HV3.out.trans (hB.mono (by omega))
      obtain ⟨ao2, cap2, e2, hc2, hh⟩ := HR.out.stays hB0
      injection e2 with e3 _ e4
      subst e3
      subst e4
      obtain ⟨b, off, rfl, hcell⟩ := hh (by omega)
      obtain ⟨u, hu, hO⟩ := hcell j r hr
      have hpos := HE.out r (List.mem_of_getElem? hr)
      have hr1 := HF.out.2 r (List.mem_of_getElem? hr)
      have hcl := clone_any hO (by omega) hpos
      obtain ⟨ua, uc, rfl, _, _⟩ := hO.sh
      have zb := World.block_lt_of_cell? _ _ hu
      have hlt' : (j : Int) < rs.length := by omega
      have HRr : Hid (RwK (w.heap.size + 2) wr u3 us (rs.take j)) := R
      have HB : Hid (Below (w.heap.size + 2) V wr) := hB
      have HX : Hid (rs[j]? = some r) := hr
      have hsz : w.heap.size + 2 < wr.heap.size := by have := hB.size; omega
      clear R hB hB0 hh hcell hO hr
      obtain ⟨oa, on, oc, hov⟩ := own_slice HRr.out.own
      subst hov
      go_wp2_with fail
      refine hcl.mono ?_
      rintro e w1 ⟨g, gc, rfl, hgc, hrw, hgb, hb1⟩
      have hgl := hrw.lt hpos
      have hs1 := hb1.size
      have hb2 : Below wr.heap.size wr (w1.alloc (.cells #[.slice (some ⟨g, 0, none⟩) r.length gc] 40)) := hb1.alloc hs1 _
      have ho2 := owns_blocks HRr.out.own fun k e => hb2.block k (own_lt HRr.out.own k e).1
      have hs2 : w.heap.size + 2 ≤ (w1.alloc (.cells #[.slice (some ⟨g, 0, none⟩) r.length gc] 40)).heap.size := by rw [World.size_alloc]; omega
      have hn : ∀ (k : Nat) (u : Value), [Value.slice (some ⟨g, 0, none⟩) r.length gc][k]? = some u → (w1.alloc (.cells #[.slice (some ⟨g, 0, none⟩) r.length gc] 40)).cell? ((⟨w1.heap.size, 0, none⟩ : Addr).add k) = some u := by
        intro k u hk
        rw [add_lit, World.cell?_alloc_at _ _ _ _ rfl]
        simpa using hk
      have HN : Hid (∀ v1 w2, w2.ownsRow (w.heap.size + 2) 40 1 v1 ((rs.take j).length + 1) (us ++ [.slice (some ⟨g, 0, none⟩) r.length gc]) → (w1.alloc (.cells #[.slice (some ⟨g, 0, none⟩) r.length gc] 40)).grownBy w2 (Value.slice oa on oc).ownBlock → Moved (w1.alloc (.cells #[.slice (some ⟨g, 0, none⟩) r.length gc] 40)) (.slice oa on oc) v1 → RwK (w.heap.size + 2) w2 v1 (us ++ [.slice (some ⟨g, 0, none⟩) r.length gc]) (rs.take (j + 1)) ∧ Below (w.heap.size + 2) V w2) := fun v1 w2 h1 h2 h3 => by
        refine ⟨?_, (HB.out.trans (hb2.mono (by omega))).grown h2 (by omega) fun k e => (own_lt HRr.out.own k e).2⟩
        rw [tk_snoc HX.out]
        exact HRr.out.snoc hb2 (hrw.block (((Below.refl w1.heap.size w1).alloc (Nat.le_refl _) _).block g hgl)) hgc hgb (by rw [World.size_alloc]; omega) (by omega) h1 h2 h3
      have HO : Hid ((w1.alloc (.cells #[.slice (some ⟨g, 0, none⟩) r.length gc] 40)).ownsRow (w.heap.size + 2) 40 1 (.slice oa on oc) (rs.take j).length us) := ho2
      clear hcl hrw hb1 hb2 ho2 HRr HB hu zb
      go_wp2_with (at_builtin; refine wpList_append_moved rfl _ _ 35 rfl (w.heap.size + 2) 40 i0 _ 1 24 Tryz.underlying35 hi iz0 iz1 iz2 rfl (by decide) (.slice oa on oc) _ _ rfl HO.out ⟨w1.heap.size, 0, none⟩ 1 1 [.slice (some ⟨g, 0, none⟩) r.length gc] rfl rfl hn (by simp [Value.oneCell']) (by unfold maxLen; omega) (by omega) hs2 ?_; intro v1 w2 ho1 hg1 hm1; have KN : Hid _ := HN.out v1 w2 ho1 hg1 hm1; clear ho1 hg1 hm1 HN HO hn hs2)
      go_roundw
      case rel => exact ⟨j + 1, _, by omega, by go_num, KN.out.1, KN.out.2⟩
      case measure => simp [intOf]; omega
    · obtain rfl : j = rs.length := by omega
      rw [List.take_length] at R
      have R1 := HV1.out.block (hB.block w.heap.size (by omega))
      have R2 := HV2.out.block (hB.block (w.heap.size + 1) (by omega))
      have c0 := R1.cell (j := 0) (by omega)
      have c1 := R1.cell (j := 1) (by omega)
      have c2 := R1.cell (j := 2) (by omega)
      have d0 := R2.cell (j := 0) (by omega)
      have d1 := R2.cell (j := 1) (by omega)
      have d2 := R2.cell (j := 2) (by omega)
      simp only [if_true, Nat.reduceEqDiff, if_false] at c0 c1 c2 d0 d1 d2
      have f2 := R1.fz 2
      have g0 := R2.fz 0
      have g1 := R2.fz 1
      have g2 := R2.fz 2
      have hsz : w.heap.size + 2 < wr.heap.size := by have := hB.size; omega
      have HRr : Hid (RwK (w.heap.size + 2) wr u3 us rs) := R
      have HB : Hid (Below (w.heap.size + 2) V wr) := hB
      obtain ⟨oa, on, oc, hov⟩ := own_slice R.own
      subst hov
      have RZ := (R2.block (w' := wr.setCell ⟨w.heap.size, 2, none⟩ (.slice oa on oc)) (Below.heap_setCell _ _ _ _ (by show w.heap.size + 1 ≠ w.heap.size; omega))).put3 (.int .u32 pc) (.int .i64 many) (.slice oa on oc)
      have HP : Hid ((loadVar 48 ⟨w.heap.size + 1, 0, none⟩).run Tryz.prog ((((wr.setCell ⟨w.heap.size, 2, none⟩ (.slice oa on oc)).setCell ⟨w.heap.size + 1, 0, none⟩ (.int .u32 pc)).setCell ⟨w.heap.size + 1, 1, none⟩ (.int .i64 many)).setCell ⟨w.heap.size + 1, 2, none⟩ (.slice oa on oc)) = .ok (.agg #[.int .u32 pc, .int .i64 many, .slice oa on oc]) _) := kp_load (RZ.cell (j := 0) (by omega)) (RZ.cell (j := 1) (by omega)) (RZ.cell (j := 2) (by omega))
      have HG : Hid (RwK w.heap.size ((((wr.setCell ⟨w.heap.size, 2, none⟩ (.slice oa on oc)).setCell ⟨w.heap.size + 1, 0, none⟩ (.int .u32 pc)).setCell ⟨w.heap.size + 1, 1, none⟩ (.int .i64 many)).setCell ⟨w.heap.size + 1, 2, none⟩ (.slice oa on oc)) (.slice oa on oc) us rs) := by
        refine RwK.low (R.blocks (by simp) fun k hk1 hk2 => ?_) (by omega)
        have h1 : k ≠ w.heap.size + 1 := by omega
        have h2 : k ≠ w.heap.size := by omega
        rw [Below.heap_setCell _ _ _ _ h1, Below.heap_setCell _ _ _ _ h1, Below.heap_setCell _ _ _ _ h1, Below.heap_setCell _ _ _ _ h2]
      have HD : Hid (Below w.heap.size w ((((wr.setCell ⟨w.heap.size, 2, none⟩ (.slice oa on oc)).setCell ⟨w.heap.size + 1, 0, none⟩ (.int .u32 pc)).setCell ⟨w.heap.size + 1, 1, none⟩ (.int .i64 many)).setCell ⟨w.heap.size + 1, 2, none⟩ (.slice oa on oc))) :=
        ((((HV3.out.trans (hB.mono (by omega))).setCell (Nat.le_refl _) _).setCell (by show w.heap.size ≤ w.heap.size + 1; omega) _).setCell (by show w.heap.size ≤ w.heap.size + 1; omega) _).setCell (by show w.heap.size ≤ w.heap.size + 1; omega) _
      clear R hB R1 R2 vc2 RZ
      go_wp2
      refine bodyPost_ret (kp_results (A := ⟨w.heap.size + 1, 0, none⟩) rfl _ _ _ rfl HP.out) rfl ?_
      first | exact ⟨.slice oa on oc, us, rfl, HG.out, HD.out⟩ | exact ⟨.slice oa on oc, rfl, ⟨us, HG.out⟩, HD.out⟩
end Go.Proofs.YtcccaejjhodnkabGreatDoor
