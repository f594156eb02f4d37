/-
  sameOps, of two slices that hold the same ops.
-/
import Derived.Test.YtjkencgcdlfjhaaGreatDoorJApp
import Derived.Test.YtjkencgcdlfjhaaGreatDoorJReads
import Derived.Test.YtjkencgcdlfjhaaGreatDoorJPhase
import Derived.Test.YtjkencgcdlfjhaaGreatDoorJPlP
import Derived.Test.YtjkencgcdlfjhaaGreatDoorQOwnOps
import Derived.Test.YtjkencgcdlfjhaaGreatDoorJSt
import Derived.Test.YtjkencgcdlfjhaaGreatDoorJDoc6
import Derived.Test.YtjkencgcdlfjhaaGreatDoorJRun0
namespace Go.Proofs.YtjkencgcdlfjhaaGreatDoor
open Go.RowKit Go.Maps
open Num
set_option linter.unusedVariables false
end Go.Proofs.YtjkencgcdlfjhaaGreatDoor
/-
  each: rows of one op.
-/
namespace Go.Proofs.YtjkencgcdlfjhaaGreatDoor
open Go.RowKit Go.Maps
open Num
set_option linter.unusedVariables false
/-- rows of ops -/
structure RowsIn (w : World) (v : Value) (ll : List (List Opx)) : Prop where
  sh : ∃ ao cap, v = .slice ao ll.length cap ∧ ll.length ≤ cap ∧ (0 < ll.length → ∃ b, ao = some ⟨b, 0, none⟩ ∧ ∀ i l, ll[i]? = some l → ∃ u, w.cell? ⟨b, i, none⟩ = some u ∧ OpsIn w u l)
theorem RowsIn.stays {w w' : World} {v : Value} {ll : List (List Opx)} (R : RowsIn w v ll) (h : Below w.heap.size w w') : RowsIn w' v ll := by
  obtain ⟨ao, cap, e, hcp, hh⟩ := R.sh
  exact ⟨ao, cap, e, hcp, fun hp => let ⟨b, eb, hc⟩ := hh hp; ⟨b, eb, fun i l hi => let ⟨u, hu, hO⟩ := hc i l hi; ⟨u, (h.cell (World.block_lt_of_cell? _ _ hu)).trans hu, hO.stays h⟩⟩⟩
/-- rows of one op: each in a block of its own, apart from the row vo that holds them -/
def Ones (w : World) (vo : Value) (us : List Value) (l : List Opx) : Prop := us.length = l.length ∧ ∀ (k : Nat) (u : Value) (o : Opx), us[k]? = some u → l[k]? = some o → ∃ g, u = .slice (some ⟨g, 0, none⟩) 1 1 ∧ OpsIn w u [o] ∧ vo.ownBlock ≠ some g ∧ g < w.heap.size
theorem OpsIn.block1 {w w' : World} {g : Nat} {o : Opx} (A : OpsIn w (.slice (some ⟨g, 0, none⟩) 1 1) [o]) (h : w'.heap[g]? = w.heap[g]?) : OpsIn w' (.slice (some ⟨g, 0, none⟩) 1 1) [o] := by
  obtain ⟨ao, cap, e, hc, hh⟩ := A.sh
  injection e with e1 e2 e3
  subst e1
  subst e3
  refine ⟨⟨some ⟨g, 0, none⟩, 1, rfl, hc, fun hp => ?_⟩, A.ok⟩
  obtain ⟨b, off, e, hcell⟩ := hh hp
  injection e with e
  injection e with e1 e2
  subst e1
  subst e2
  exact ⟨g, 0, rfl, fun i o hi j u hu => (World.cell?_of_block (a := ⟨g, 0 + i * 6 + j, none⟩) h).trans (hcell i o hi j u hu)⟩
theorem ones_new (w : World) (o : Opx) (ok : o.ok) : OpsIn (w.alloc (.cells #[.string o.s, .int .i64 o.d, .int .i64 o.a, .int .i64 o.b, .int .u32 o.i, .int .i64 o.t] 92)) (.slice (some ⟨w.heap.size, 0, none⟩) 1 1) [o] := by
  refine ⟨⟨some ⟨w.heap.size, 0, none⟩, 1, rfl, by simp, fun _ => ⟨w.heap.size, 0, rfl, fun i o' hi j u hu => ?_⟩⟩, fun o' ho => by rw [List.mem_singleton.1 ho]; exact ok⟩
  cases i with
  | zero =>
    obtain rfl : o = o' := by simpa using hi
    rw [show 0 + 0 * 6 + j = j by omega, bcD]
    rw [List.getElem?_toArray]
    exact hu
  | succ i => simp at hi
/-- one row more: first its own block, then the row's place, then the row that holds them -/
theorem Ones.snoc {w W w' : World} {vo vo' : Value} {us : List Value} {l : List Opx} {o : Opx} (H : Ones w vo us l) (hv : ∀ k, vo.ownBlock = some k → k < w.heap.size) (hW : Below w.heap.size w W) (g : Nat) (hg : w.heap.size ≤ g) (hg2 : g < W.heap.size) (hO : OpsIn W (.slice (some ⟨g, 0, none⟩) 1 1) [o]) (hgr : W.grownBy w' vo.ownBlock) (hm : Moved W vo vo') :
    Ones w' vo' (us ++ [.slice (some ⟨g, 0, none⟩) 1 1]) (l ++ [o]) := by
  have hsz := hgr.size
  have blk : ∀ k, k < W.heap.size → vo.ownBlock ≠ some k → w'.heap[k]? = W.heap[k]? := fun k hk hne => hgr.block k hk (Ne.symm hne)
  have nv : ∀ k, k < W.heap.size → vo.ownBlock ≠ some k → vo'.ownBlock ≠ some k := fun k hk hne h => by
    rcases hm k h with h | h
    · exact hne h
    · omega
  have hgo : vo.ownBlock ≠ some g := fun h => by have := hv g h; omega
  refine ⟨by simp [H.1], fun k u o' hu ho => ?_⟩
  by_cases hk : k < us.length
  · rw [List.getElem?_append_left hk] at hu
    rw [List.getElem?_append_left (by rw [← H.1]; exact hk)] at ho
    obtain ⟨a, ea, hA, hn, hl⟩ := H.2 k u o' hu ho
    subst ea
    have hl2 : a < W.heap.size := by have := hW.size; omega
    exact ⟨a, rfl, (hA.stays hW).block1 (blk a hl2 hn), nv a hl2 hn, by omega⟩
  · rw [List.getElem?_append_right (by omega)] at hu
    rw [List.getElem?_append_right (by rw [← H.1]; omega), ← H.1] at ho
    have h0 : k - us.length = 0 := by
      rcases Nat.eq_zero_or_pos (k - us.length) with h | h
      · exact h
      · rw [List.getElem?_eq_none (by simp; omega)] at hu; cases hu
    rw [h0] at hu ho
    obtain rfl : Value.slice (some ⟨g, 0, none⟩) 1 1 = u := by simpa using hu
    obtain rfl : o = o' := by simpa using ho
    exact ⟨g, rfl, hO.block1 (blk g hg2 hgo), nv g hg2 hgo, by omega⟩
theorem infoOps : (Tryz.prog.info? 23).map (fun i => (i.zero, i.size, i.bytes)) = some (some (.slice none 0 0), 1, 24) := by kernel_rfl
/-- the rows at the end -/
theorem Ones.rows {w : World} {base : Nat} {vo : Value} {us : List Value} {l : List Opx} (H : Ones w vo us l) (ho : w.ownsRow base 23 1 vo us.length us) : RowsIn w vo (eachL l) := by
  have hlen : (eachL l).length = us.length := by unfold eachL; rw [List.length_map, H.1]
  obtain ⟨h1, h2⟩ := ho
  rcases h2 with ⟨hv, hn⟩ | ⟨g, cap, cur, hv, hb, hg, hr⟩
  · exact ⟨none, 0, by rw [hv, hlen, hn], by omega, fun hp => by omega⟩
  · obtain ⟨r1, r2, r3, r4⟩ := hr
    refine ⟨some ⟨g, 0, none⟩, cap, by rw [hv, hlen], by omega, fun _ => ⟨g, rfl, fun i row hi => ?_⟩⟩
    have hil : i < us.length := by rw [← hlen]; exact (List.getElem?_eq_some_iff.1 hi).1
    obtain ⟨o, ho, rfl⟩ : ∃ o, l[i]? = some o ∧ [o] = row := by
      unfold eachL at hi
      rw [List.getElem?_map] at hi
      cases hx : l[i]? with
      | none => rw [hx] at hi; cases hi
      | some o => rw [hx] at hi; exact ⟨o, rfl, by simpa using hi⟩
    obtain ⟨u, hu⟩ : ∃ u, us[i]? = some u := ⟨_, List.getElem?_eq_getElem hil⟩
    obtain ⟨a, rfl, hA, _, _⟩ := H.2 i u o hu ho
    refine ⟨_, ?_, hA⟩
    rw [cell_of_row _ _ _ _ _ _ hg]
    have : (cur.toList.take (us.length * 1))[i]? = some (.slice (some ⟨a, 0, none⟩) 1 1) := by rw [r4]; exact hu
    rw [List.getElem?_take, if_pos (by omega)] at this
    rw [← Array.getElem?_toList]; exact this
theorem own_at {w : World} {base : Nat} {e : TypeId} {size n : Nat} {v : Value} {xs : List Value} (h : w.ownsRow base e size v n xs) : ∀ k, v.ownBlock = some k → k < w.heap.size ∧ base ≤ k := by
  intro k hk
  rcases h.2 with ⟨hv, _⟩ | ⟨g, cap, cur, hv, hb, hg, _⟩
  · subst hv; cases hk
  · subst hv
    obtain rfl : g = k := by simpa [Value.ownBlock] using hk
    exact ⟨(Array.getElem?_eq_some_iff.1 hg).1, hb⟩
set_option maxRecDepth 100000 in
set_option maxHeartbeats 2000000 in
theorem each_any {w : World} {v : Value} {l : List Opx} (A : OpsIn w v l) (hl : l.length ≤ 1000) :
    Calls Tryz.prog 35 #[v] w fun e w' => ∃ u, e = .returned u ∧ RowsIn w' u (eachL l) ∧ Below w.heap.size w w' := by
  obtain ⟨ao, ca, rfl, _, hA⟩ := A.sh
  have HA : Hid (0 < l.length → ∃ b off : Nat, ao = some ⟨b, off, none⟩ ∧ ∀ (i : Nat) (o : Opx), l[i]? = some o → ∀ (j : Nat) (u : Value), (opC o)[j]? = some u → w.cell? ⟨b, off + i * 6 + j, none⟩ = some u) := hA
  have OK : Hid (∀ o ∈ l, o.ok) := A.ok
  obtain ⟨i0, hi, iz0, iz1, iz2⟩ := info_parts infoOps
  clear A hA
  go_enter Tryz.func35, Tryz.ntmps35
  go_wp2
  go_loopw [3, 4] (fun out i wr => ∃ (j : Nat) (us : List Value), j ≤ l.length ∧ i = .int .i64 j ∧ us.length = j ∧ wr.ownsRow w.heap.size 23 1 out j us ∧ Ones wr out us (l.take j) ∧ Below w.heap.size w wr) (fun _ i _ => l.length - (intOf i).toNat)
  case atStart => exact ⟨0, [], Nat.zero_le _, rfl, rfl, World.ownsRow_nil _ _ _ _, ⟨by simp, fun k u o h _ => by simp at h⟩, Below.refl _ _⟩
  case round =>
    obtain ⟨j, us, hj, rfl, hul, ho, hO, hB⟩ := hrel
    by_cases hlt : j < l.length
    · obtain ⟨o, hoj⟩ : ∃ o, l[j]? = some o := ⟨_, List.getElem?_eq_getElem hlt⟩
      obtain ⟨b, off, rfl, hc⟩ := HA.out (by omega)
      obtain ⟨x0, x1, x2, x3, x4, x5⟩ := op_cells (w := wr) (fun k u hk => by rw [hB.cell (World.block_lt_of_cell? _ _ (hc j o hoj k u hk))]; exact hc j o hoj k u hk)
      have zb := World.block_lt_of_cell? _ _ x0
      have hlt' : (j : Int) < l.length := by omega
      have hW : Below wr.heap.size wr ((wr.alloc (.cells #[.string o.s, .int .i64 o.d, .int .i64 o.a, .int .i64 o.b, .int .u32 o.i, .int .i64 o.t] 92)).alloc (.cells #[.slice (some ⟨wr.heap.size, 0, none⟩) 1 1] 23)) := ((Below.refl _ _).alloc (Nat.le_refl _) _).alloc (by simp) _
      have hO1 : OpsIn ((wr.alloc (.cells #[.string o.s, .int .i64 o.d, .int .i64 o.a, .int .i64 o.b, .int .u32 o.i, .int .i64 o.t] 92)).alloc (.cells #[.slice (some ⟨wr.heap.size, 0, none⟩) 1 1] 23)) (.slice (some ⟨wr.heap.size, 0, none⟩) 1 1) [o] := (ones_new wr o (OK.out o (List.mem_of_getElem? hoj))).stays ((Below.refl _ _).alloc (Nat.le_refl _) _)
      have hsz2 : wr.heap.size + 1 + 1 = (((wr.alloc (.cells #[.string o.s, .int .i64 o.d, .int .i64 o.a, .int .i64 o.b, .int .u32 o.i, .int .i64 o.t] 92)).alloc (.cells #[.slice (some ⟨wr.heap.size, 0, none⟩) 1 1] 23))).heap.size := by simp
      have HOW : Hid ((((wr.alloc (.cells #[.string o.s, .int .i64 o.d, .int .i64 o.a, .int .i64 o.b, .int .u32 o.i, .int .i64 o.t] 92)).alloc (.cells #[.slice (some ⟨wr.heap.size, 0, none⟩) 1 1] 23))).ownsRow w.heap.size 23 1 u3 j us) := (ho.alloc _).alloc _
      have hn1 : ∀ (k : Nat) (u : Value), [Value.slice (some ⟨wr.heap.size, 0, none⟩) 1 1][k]? = some u → (((wr.alloc (.cells #[.string o.s, .int .i64 o.d, .int .i64 o.a, .int .i64 o.b, .int .u32 o.i, .int .i64 o.t] 92)).alloc (.cells #[.slice (some ⟨wr.heap.size, 0, none⟩) 1 1] 23))).cell? ((⟨wr.heap.size + 1, 0, none⟩ : Addr).add k) = some u := by
        intro k u hk
        rw [add_lit, World.cell?_alloc_at _ _ _ _ (by simp)]
        simpa using hk
      have hbs : w.heap.size ≤ wr.heap.size := hB.size
      have HS : Hid (∀ v1 w1, (((wr.alloc (.cells #[.string o.s, .int .i64 o.d, .int .i64 o.a, .int .i64 o.b, .int .u32 o.i, .int .i64 o.t] 92)).alloc (.cells #[.slice (some ⟨wr.heap.size, 0, none⟩) 1 1] 23))).grownBy w1 u3.ownBlock → Moved ((wr.alloc (.cells #[.string o.s, .int .i64 o.d, .int .i64 o.a, .int .i64 o.b, .int .u32 o.i, .int .i64 o.t] 92)).alloc (.cells #[.slice (some ⟨wr.heap.size, 0, none⟩) 1 1] 23)) u3 v1 → Ones w1 v1 (us ++ [.slice (some ⟨wr.heap.size, 0, none⟩) 1 1]) (l.take (j + 1)) ∧ Below w.heap.size w w1) := by
        intro v1 w1 hg hm
        rw [take_snoc' hoj]
        refine ⟨hO.snoc (fun k hk => (own_at ho k hk).1) hW wr.heap.size (Nat.le_refl _) (by rw [← hsz2]; omega) hO1 hg hm, ?_⟩
        exact (hB.trans (hW.mono hbs)).grown hg (by rw [← hsz2]; omega) (fun k hk => (own_at ho k hk).2)
      clear hc hoj hB hO ho hW hO1 HA OK hsz2
      go_wp2_with (at_builtin; refine wpList_append_moved rfl _ _ 73 rfl w.heap.size 23 i0 (.slice none 0 0) 1 24 Tryz.underlying73 hi iz0 iz1 iz2 rfl (by decide) u3 j us rfl HOW.out ⟨wr.heap.size + 1, 0, none⟩ 1 1 [.slice (some ⟨wr.heap.size, 0, none⟩) 1 1] rfl rfl hn1 (by simp [Value.oneCell']) (by unfold maxLen; omega) (by omega) (by simp; omega) ?_; intro v1 w1 ho1 hg1 hm1; have K1 := HS.out v1 w1 hg1 hm1; have KO : Hid (w1.ownsRow w.heap.size 23 1 v1 (j + 1) (us ++ [.slice (some ⟨wr.heap.size, 0, none⟩) 1 1])) := ho1; have KS : Hid (Ones w1 v1 (us ++ [.slice (some ⟨wr.heap.size, 0, none⟩) 1 1]) (l.take (j + 1)) ∧ Below w.heap.size w w1) := K1; clear ho1 hg1 hm1 K1 HS HOW hn1 x0 x1 x2 x3 x4 x5 zb)
      go_roundw
      case rel => exact ⟨j + 1, _, by omega, by go_num, by rw [List.length_append, hul]; rfl, KO.out, KS.out.1, KS.out.2⟩
      case measure => simp [intOf]; omega
    · obtain rfl : j = l.length := by omega
      have HR : Hid (RowsIn wr u3 (eachL l)) := by
        rw [List.take_length] at hO
        rw [← hul] at ho
        exact hO.rows ho
      have HB : Hid (Below w.heap.size w wr) := hB
      clear hO ho hB HA OK
      go_wp2
      go_ret
      exact ⟨_, rfl, HR.out, HB.out⟩
end Go.Proofs.YtjkencgcdlfjhaaGreatDoor
/-
  The law's flat.
-/
namespace Go.Proofs.YtjkencgcdlfjhaaGreatDoor
open Go.RowKit Go.Maps
open Num
set_option linter.unusedVariables false
theorem flat_snoc {rs : List (List Opx)} {j : Nat} {row : List Opx} (h : rs[j]? = some row) : (rs.take (j + 1)).flatten = (rs.take j).flatten ++ row := by
  rw [take_snoc' h, List.flatten_append]; simp
theorem flat_le (rs : List (List Opx)) (j : Nat) : (rs.take j).flatten.length ≤ rs.flatten.length := by
  conv => rhs; rw [← List.take_append_drop j rs, List.flatten_append, List.length_append]
  omega
theorem opL_app (a b : List Opx) : opL (a ++ b) = opL a ++ opL b := by unfold opL; rw [List.flatMap_append]
set_option maxRecDepth 100000 in
set_option maxHeartbeats 2000000 in
theorem flat_any {w : World} {v : Value} {rs : List (List Opx)} (R : RowsI w v rs) (hr : rs.length ≤ 1000) (hf : rs.flatten.length ≤ 1000) (hne : ∀ r ∈ rs, 0 < r.length) :
    Calls Tryz.prog 31 #[v] w fun e w' => ∃ u, e = .returned u ∧ OpsIn w' u rs.flatten ∧ Below w.heap.size w w' := by
  obtain ⟨ao, cap, rfl, hc, hh⟩ := R
  have HH : Hid (0 < rs.length → ∃ b off : Nat, ao = some ⟨b, off, none⟩ ∧ ∀ (i : Nat) (row : List Opx), rs[i]? = some row → ∃ u, w.cell? ⟨b, off + i, none⟩ = some u ∧ OpsIn w u row) := hh
  have NE : Hid (∀ r ∈ rs, 0 < r.length) := hne
  have HF : Hid (rs.flatten.length ≤ 1000) := hf
  obtain ⟨i0, hi, hz0, hz1, hz2⟩ := info_parts infoOp
  have OK : Hid (∀ o ∈ rs.flatten, o.ok) := by
    intro o ho
    obtain ⟨row, hrow, hor⟩ := List.mem_flatten.1 ho
    obtain ⟨i, hi, e⟩ := List.mem_iff_getElem.1 hrow
    obtain ⟨b, off, _, hcell⟩ := hh (by omega)
    obtain ⟨u, _, hO⟩ := hcell i row (by rw [List.getElem?_eq_getElem hi, e])
    exact hO.ok o hor
  clear hh hne hf
  go_enter Tryz.func31, Tryz.ntmps31
  go_wp2
  go_loopw [3, 4] (fun out i wr => ∃ j : Nat, j ≤ rs.length ∧ i = .int .i64 j ∧ wr.ownsRow w.heap.size 92 6 out (rs.take j).flatten.length (opL (rs.take j).flatten) ∧ Below w.heap.size w wr) (fun _ i _ => rs.length - (intOf i).toNat)
  case atStart => exact ⟨0, Nat.zero_le _, rfl, World.ownsRow_nil _ _ _ _, Below.refl _ _⟩
  case round =>
    obtain ⟨j, hj, rfl, ho, hB⟩ := hrel
    by_cases hlt : j < rs.length
    · obtain ⟨row, hrow⟩ : ∃ q, rs[j]? = some q := ⟨_, List.getElem?_eq_getElem hlt⟩
      obtain ⟨b, off, rfl, hcell⟩ := HH.out (by omega)
      obtain ⟨u, hu, hO⟩ := hcell j row hrow
      have hp := NE.out row (List.mem_of_getElem? hrow)
      have zb0 := World.block_lt_of_cell? _ _ hu
      have hub := (hB.cell (p := ⟨b, off + j, none⟩) zb0).trans hu
      obtain ⟨a1, k1, rfl, _, hc2⟩ := (hO.stays hB).sh
      obtain ⟨b1, off1, rfl, hcc⟩ := hc2 hp
      have hnews := opL_at hcc
      have hlt' : (j : Int) < rs.length := by omega
      have hlen : (rs.take j).flatten.length + row.length ≤ 1000 := by
        have := flat_le rs (j + 1)
        rw [flat_snoc hrow, List.length_append] at this
        have := HF.out
        omega
      have HS : Hid (∀ (v1 : Value) (w1 : World), w1.ownsRow w.heap.size 92 6 v1 ((rs.take j).flatten.length + row.length) (opL (rs.take j).flatten ++ opL row) → w1.ownsRow w.heap.size 92 6 v1 (rs.take (j + 1)).flatten.length (opL (rs.take (j + 1)).flatten)) := by
        intro v1 w1 h
        rw [flat_snoc hrow, List.length_append, opL_app]; exact h
      have HOW : Hid (wr.ownsRow w.heap.size 92 6 u3 (rs.take j).flatten.length (opL (rs.take j).flatten)) := ho
      have HB : Hid (Below w.heap.size w wr) := hB
      have hbs : w.heap.size ≤ wr.heap.size := hB.size
      have zb := World.block_lt_of_cell? _ _ hub
      clear hcell hrow hO hu ho hB hcc hc2 HH NE HF OK
      generalize (rs.take j).flatten.length = n at *
      generalize opL (rs.take j).flatten = xs at *
      go_wp2_with (at_builtin; refine wpList_append_moved rfl _ _ 23 rfl w.heap.size 92 i0 (.agg #[.string ⟨#[]⟩, .int .i64 0, .int .i64 0, .int .i64 0, .int .u32 0, .int .i64 0]) 6 56 Tryz.underlying23 hi hz0 hz1 hz2 rfl (by decide) u3 n xs rfl HOW.out ⟨b1, off1, none⟩ row.length k1 (opL row) rfl (opL_len row) hnews (opL_one row) (by unfold maxLen; omega) (by omega) hbs ?_; intro v1 w1 ho1 hg1 hm1)
      have K1 : Hid (w1.ownsRow w.heap.size 92 6 v1 (rs.take (j + 1)).flatten.length (opL (rs.take (j + 1)).flatten)) := HS.out v1 w1 ho1
      have K2 : Hid (Below w.heap.size w w1) := HB.out.grown hg1 hbs (fun k hk => (own_at HOW.out k hk).2)
      clear ho1 hg1 hm1 HS HOW hnews hub
      go_roundw
      case rel => exact ⟨j + 1, by omega, by go_num, K1.out, K2.out⟩
      case measure => simp [intOf]; omega
    · obtain rfl : j = rs.length := by omega
      rw [List.take_length] at ho
      have HOW : Hid (wr.ownsRow w.heap.size 92 6 u3 rs.flatten.length (opL rs.flatten)) := ho
      have HB : Hid (Below w.heap.size w wr) := hB
      clear ho hB HH NE HF
      go_wp2
      go_ret
      exact ⟨_, rfl, ops_of_row (n := 0) HOW.out OK.out, HB.out⟩
end Go.Proofs.YtjkencgcdlfjhaaGreatDoor
/-
  The law's fewOps: two rows of ops that are one but for their order.
-/
namespace Go.Proofs.YtjkencgcdlfjhaaGreatDoor
open Go.RowKit Go.Maps
open Num
set_option linter.unusedVariables false
/-- two ops are one -/
def eqO (o p : Opx) : Bool := (o.s.toList == p.s.toList) && ((o.d == p.d) && ((o.a == p.a) && ((o.b == p.b) && ((o.i == p.i) && (o.t == p.t)))))
theorem aggS (w : World) : (isAgg 9).run Tryz.prog w = .ok false w := by kernel_rfl
theorem fieldsO : (Tryz.prog.fieldsOf 92).toList.map (fun f => (f.type, f.offset)) = [(9, 0), (3, 1), (3, 2), (3, 3), (22, 4), (3, 5)] := by kernel_rfl
theorem eqF_cons {xs ys : Array Value} {w : World} {f : Field} {fs : List Field} {u v : Value} {b c : Bool} (hn : f.name ≠ "_") (hu : (part f.type xs f.offset).run Tryz.prog w = .ok u w) (hv : (part f.type ys f.offset).run Tryz.prog w = .ok v w) (hb : (Op.equalIn 9999 f.type u v).run Tryz.prog w = .ok b w) (hc : (Op.eqFields 9999 xs ys fs).run Tryz.prog w = .ok c w) : (Op.eqFields 9999 xs ys (f :: fs)).run Tryz.prog w = .ok (b && c) w := by
  simp only [Op.eqFields]
  rw [if_pos hn]
  simp only [Sem.run_bind, hu, Result.andThen_ok, hv, hb]
  cases b
  · simp
  · simpa using hc
theorem namesO : (Tryz.prog.fieldsOf 92).toList.all (fun f => decide (f.name ≠ "_")) = true := by kernel_rfl
theorem fieldsRun {xs ys : Array Value} {w : World} : ∀ (fs : List Field) (l : List (Nat × Nat)) (bs : List Bool), fs.map (fun f => (f.type, f.offset)) = l → fs.all (fun f => decide (f.name ≠ "_")) = true → bs.length = l.length → (∀ (k t off : Nat) (b : Bool), l[k]? = some (t, off) → bs[k]? = some b → ∃ u v, (part t xs off).run Tryz.prog w = .ok u w ∧ (part t ys off).run Tryz.prog w = .ok v w ∧ (Op.equalIn 9999 t u v).run Tryz.prog w = .ok b w) → (Op.eqFields 9999 xs ys fs).run Tryz.prog w = .ok (bs.all id) w
  | [], l, bs, h1, h2, h3, _ => by
    subst h1
    obtain rfl : bs = [] := List.length_eq_zero_iff.1 h3
    simp [Op.eqFields]
  | f :: fs, l, bs, h1, h2, h3, h4 => by
    subst h1
    cases bs with
    | nil => simp at h3
    | cons b bs =>
      obtain ⟨u, v, g1, g2, g3⟩ := h4 0 f.type f.offset b rfl rfl
      rw [List.all_cons, Bool.and_eq_true] at h2
      have ih := fieldsRun fs _ bs rfl h2.2 (by simpa using h3) (fun k t off b hk hb => h4 (k + 1) t off b (by simpa using hk) (by simpa using hb))
      have := eqF_cons (by simpa using h2.1) g1 g2 g3 ih
      rw [this]; rfl
theorem eqO_run (o p : Opx) (w : World) : (binOp .eql 92 (opV o) (opV p)).run Tryz.prog w = .ok (.bool (eqO o p)) w := by
  unfold opV
  rw [run_eql_struct, run_equalIn_agg w 9999 92 _ _ (by kernel_rfl) (by kernel_rfl), fieldsRun _ _ [o.s.toList == p.s.toList, o.d == p.d, o.a == p.a, o.b == p.b, o.i == p.i, o.t == p.t] fieldsO namesO rfl ?_]
  · simp [eqO]
  intro k t off b hk hb
  have hk6 : k < 6 := (List.getElem?_eq_some_iff.1 hk).1
  have : k = 0 ∨ k = 1 ∨ k = 2 ∨ k = 3 ∨ k = 4 ∨ k = 5 := by omega
  rcases this with rfl | rfl | rfl | rfl | rfl | rfl <;> simp at hk hb <;> obtain ⟨rfl, rfl⟩ := hk <;> subst hb
  · exact ⟨_, _, part_one 9 aggS _ 0 _ rfl w, part_one 9 aggS _ 0 _ rfl w, run_equalIn_string w 9998 9 _ _ Tryz.underlying9⟩
  · exact ⟨_, _, part_one 3 agg3 _ 1 _ rfl w, part_one 3 agg3 _ 1 _ rfl w, run_equalIn_int w 9998 3 .i64 .i64 _ _ Tryz.underlying3⟩
  · exact ⟨_, _, part_one 3 agg3 _ 2 _ rfl w, part_one 3 agg3 _ 2 _ rfl w, run_equalIn_int w 9998 3 .i64 .i64 _ _ Tryz.underlying3⟩
  · exact ⟨_, _, part_one 3 agg3 _ 3 _ rfl w, part_one 3 agg3 _ 3 _ rfl w, run_equalIn_int w 9998 3 .i64 .i64 _ _ Tryz.underlying3⟩
  · exact ⟨_, _, part_one 22 agg23 _ 4 _ rfl w, part_one 22 agg23 _ 4 _ rfl w, run_equalIn_int w 9998 22 .u32 .u32 _ _ Tryz.underlying22⟩
  · exact ⟨_, _, part_one 3 agg3 _ 5 _ rfl w, part_one 3 agg3 _ 5 _ rfl w, run_equalIn_int w 9998 3 .i64 .i64 _ _ Tryz.underlying3⟩
theorem guardO : Tryz.prog.eqGuardType Tryz.prog.depth 92 = false := by kernel_rfl
theorem exec_eqO {ρ : Operand → Value} {o : Oper} {x y : Operand} {ty : TypeId} (p q : Opx) (ho : o.op = .binOp .eql 92 x y ty) (hx : ρ x = opV p) (hy : ρ y = opV q) (W : World) : (execOp ρ o).run Tryz.prog W = .ok (.value (.bool (eqO p q))) W := by
  have hg := fun SA SB => run_eqGuard_agg (P := Tryz.prog) W .eql 92 x y SA SB guardO
  have he := eqO_run p q W
  unfold opV at hx hy he
  unfold execOp
  simp only [ho, hx, hy, Sem.run_bind, hg, Result.andThen_ok, he]
  first | rfl | simp [go_sem]
/-- how often an op is there -/
def cntO (o : Opx) (l : List Opx) : Int := (l.countP fun p => eqO p o : Nat)
theorem cntO_snoc {o : Opx} {l : List Opx} {k : Nat} {p : Opx} (h : l[k]? = some p) : cntO o (l.take (k + 1)) = cntO o (l.take k) + (if eqO p o = true then 1 else 0) := by
  unfold cntO
  rw [take_snoc' h, List.countP_append]
  by_cases e : eqO p o = true <;> simp [e]
theorem cntO_bd (o : Opx) (l : List Opx) : 0 ≤ cntO o l ∧ cntO o l ≤ l.length := by
  unfold cntO
  have := List.countP_le_length (p := fun p => eqO p o) (l := l)
  omega
set_option maxRecDepth 100000 in
set_option maxHeartbeats 4000000 in
theorem fewOps_any {w : World} {u v : Value} {a b : List Opx} (A : OpsIn w u a) (B : OpsIn w v b) (ha : (a.length : Int) ≤ 1000) (hp : a.Perm b) :
    Calls Tryz.prog 32 #[u, v] w fun e w' => e = .returned (.bool true) ∧ Below w.heap.size w w' := by
  obtain ⟨ao, ca, rfl, _, hA⟩ := A.sh
  obtain ⟨bo, cb, rfl, _, hB⟩ := B.sh
  have HA : Hid (0 < a.length → ∃ b off : Nat, ao = some ⟨b, off, none⟩ ∧ ∀ (i : Nat) (o : Opx), a[i]? = some o → ∀ (j : Nat) (u : Value), (opC o)[j]? = some u → w.cell? ⟨b, off + i * 6 + j, none⟩ = some u) := hA
  have HB : Hid (0 < b.length → ∃ c off : Nat, bo = some ⟨c, off, none⟩ ∧ ∀ (i : Nat) (o : Opx), b[i]? = some o → ∀ (j : Nat) (u : Value), (opC o)[j]? = some u → w.cell? ⟨c, off + i * 6 + j, none⟩ = some u) := hB
  have HP : Hid (∀ o, cntO o a = cntO o b) := fun o => by unfold cntO; rw [hp.countP_eq]
  have hlen : (b.length : Int) ≤ 1000 := by rw [← hp.length_eq]; exact ha
  have heq : ((a.length : Int) == (b.length : Int)) = true := by rw [hp.length_eq]; simp
  clear A B hA hB hp
  go_enter Tryz.func32, Tryz.ntmps32
  go_wp2
  go_loopw [5] (fun i wr => ∃ (j n : Nat), j ≤ a.length ∧ i = .int .i64 j ∧ wr = w.drewN n) (fun i _ => a.length - (intOf i).toNat)
  case atStart => exact ⟨0, 0, Nat.zero_le _, rfl, rfl⟩
  case round =>
    obtain ⟨i, n, hj, rfl, rfl⟩ := hrel
    by_cases hlt : i < a.length
    · obtain ⟨o, ho⟩ : ∃ o, a[i]? = some o := ⟨_, List.getElem?_eq_getElem hlt⟩
      obtain ⟨c, off, rfl, hc⟩ := HA.out (by omega)
      have hlt' : (i : Int) < a.length := by omega
      have HC : Hid (∀ (i : Nat) (o : Opx), a[i]? = some o → ∀ (j : Nat) (u : Value), (opC o)[j]? = some u → w.cell? ⟨c, off + i * 6 + j, none⟩ = some u) := hc
      have HCO : Hid (∀ W : World, (∀ ad, W.cell? ad = w.cell? ad) → ∀ (j : Nat) (u : Value), (opC o)[j]? = some u → W.cell? ⟨c, off + i * 6 + j, none⟩ = some u) := fun W hW j u h => (hW _).trans (hc i o ho j u h)
      clear hc HA ho
      go_wp2
      go_loopw [6, 7] (fun m i wr => ∃ (k n : Nat), k ≤ a.length ∧ i = .int .i64 k ∧ m = .int .i64 (cntO o (a.take k)) ∧ wr = w.drewN n) (fun _ i _ => a.length - (intOf i).toNat)
      case atStart => exact ⟨0, n, Nat.zero_le _, rfl, rfl, rfl⟩
      case round =>
        obtain ⟨k, n1, hk, rfl, rfl, rfl⟩ := hrel
        by_cases hlk : k < a.length
        · obtain ⟨q, hq⟩ : ∃ p, a[k]? = some p := ⟨_, List.getElem?_eq_getElem hlk⟩
          have HCQ : Hid (∀ W : World, (∀ ad, W.cell? ad = w.cell? ad) → ∀ (j : Nat) (u : Value), (opC q)[j]? = some u → W.cell? ⟨c, off + k * 6 + j, none⟩ = some u) := fun W hW j u h => (hW _).trans (HC.out k q hq j u h)
          have hlk' : (k : Int) < a.length := by omega
          have HS : Hid (cntO o (a.take (k + 1)) = cntO o (a.take k) + (if eqO q o = true then 1 else 0)) := cntO_snoc hq
          have hcb := cntO_bd o (a.take k)
          rw [List.length_take] at hcb
          have hc0 := hcb.1
          have hc1 : cntO o (a.take k) ≤ 1000 := by omega
          generalize cntO o (a.take k) = ct at *
          clear hq hcb
          go_upto_region 8 with fail
          refine wp_region_phase 9 [(0, 0), (1, 0), (2, 0), (3, 1), (4, 0), (5, 0), (6, 0), (7, 1), (8, 0)] (fun W => (∀ (j : Nat) (u : Value), (opC o)[j]? = some u → W.cell? ⟨c, off + i * 6 + j, none⟩ = some u) ∧ (∀ (j : Nat) (u : Value), (opC q)[j]? = some u → W.cell? ⟨c, off + k * 6 + j, none⟩ = some u)) (by kernel_rfl) (by kernel_rfl) (fun _ _ _ d _ h => by cases d <;> exact h) ⟨HCO.out _ (by first | rfl | exact fun _ => rfl), HCQ.out _ (by first | rfl | exact fun _ => rfl)⟩ ?_
          refine wpPlanZ_free (by rfl) (by rfl) (fun W => by (go_simp; try with_reducible rfl)) (fun K hK => ?_); go_simp; refine hK _ ?_; clear hK K
          refine wpPlanZ_free (by rfl) (by rfl) (fun W => by (go_simp; try with_reducible rfl)) (fun K hK => ?_); go_simp; refine hK _ ?_; clear hK K
          refine wpPlanZ_free (by rfl) (by rfl) (fun W => by (go_simp; try with_reducible rfl)) (fun K hK => ?_); go_simp; refine hK _ ?_; clear hK K
          refine wpPlanZ_quiet (by rfl) (by rfl) (fun W hW => by (obtain ⟨s0, s1, s2, s3, s4, s5⟩ := op_cells hW.2; go_simp; try with_reducible rfl)) (fun K hK => ?_); go_simp; refine hK _ ?_; clear hK K
          refine wpPlanZ_free (by rfl) (by rfl) (fun W => by (go_simp; try with_reducible rfl)) (fun K hK => ?_); go_simp; refine hK _ ?_; clear hK K
          refine wpPlanZ_free (by rfl) (by rfl) (fun W => by (go_simp; try with_reducible rfl)) (fun K hK => ?_); go_simp; refine hK _ ?_; clear hK K
          refine wpPlanZ_free (by rfl) (by rfl) (fun W => by (go_simp; try with_reducible rfl)) (fun K hK => ?_); go_simp; refine hK _ ?_; clear hK K
          refine wpPlanZ_quiet (by rfl) (by rfl) (fun W hW => by (obtain ⟨s0, s1, s2, s3, s4, s5⟩ := op_cells hW.1; go_simp; try with_reducible rfl)) (fun K hK => ?_); go_simp; refine hK _ ?_; clear hK K
          refine wpPlanZ_free (by rfl) (by rfl) (fun W => exec_eqO q o rfl rfl rfl W) (fun K hK => ?_); go_simp; refine hK _ ?_; clear hK K
          refine wpPlanZ_nil ?_
          cases he : eqO q o
          · have HZ : Hid (cntO o (a.take (k + 1)) = ct) := by show _ = _; rw [HS.out, he]; simp
            clear HS
            go_wp2
            go_roundw
            case rel => exact ⟨k + 1, n1 + 1, by omega, by go_num, by rw [HZ.out], by first | rfl | (rw [World.drewN_drewN]; done) | (simp; done)⟩
            case measure => simp [intOf]; omega
          · have HZ : Hid (cntO o (a.take (k + 1)) = ct + 1) := by show _ = _; rw [HS.out, he]; simp
            clear HS
            go_wp2
            go_roundw
            case rel => exact ⟨k + 1, n1 + 1, by omega, by go_num, by rw [HZ.out], by first | rfl | (rw [World.drewN_drewN]; done) | (simp; done)⟩
            case measure => simp [intOf]; omega
        · obtain rfl : k = a.length := by omega
          rw [List.take_length]
          have hct := HP.out o
          have hcb := cntO_bd o b
          rw [hct]
          clear HC hct
          go_wp2
          go_loopw [6, 8] (fun m i wr => ∃ (k n : Nat), k ≤ b.length ∧ i = .int .i64 k ∧ m = .int .i64 (cntO o b - cntO o (b.take k)) ∧ wr = w.drewN n) (fun _ i _ => b.length - (intOf i).toNat)
          case atStart => exact ⟨0, n1, Nat.zero_le _, rfl, by simp [cntO], rfl⟩
          case round =>
            obtain ⟨k, n2, hk, rfl, rfl, rfl⟩ := hrel
            by_cases hlk : k < b.length
            · obtain ⟨q, hq⟩ : ∃ p, b[k]? = some p := ⟨_, List.getElem?_eq_getElem hlk⟩
              obtain ⟨c2, of2, rfl, hd⟩ := HB.out (by omega)
              have HCQ : Hid (∀ W : World, (∀ ad, W.cell? ad = w.cell? ad) → ∀ (j : Nat) (u : Value), (opC q)[j]? = some u → W.cell? ⟨c2, of2 + k * 6 + j, none⟩ = some u) := fun W hW j u h => (hW _).trans (hd k q hq j u h)
              have hlk' : (k : Int) < b.length := by omega
              have HS : Hid (cntO o (b.take (k + 1)) = cntO o (b.take k) + (if eqO q o = true then 1 else 0)) := cntO_snoc hq
              have hcb2 := cntO_bd o (b.take k)
              rw [List.length_take] at hcb2
              have hc0 := hcb2.1
              have hc1 : cntO o (b.take k) ≤ 1000 := by omega
              have hd0 := hcb.1
              have hd1 : cntO o b ≤ 1000 := by omega
              generalize hCB : cntO o (b.take k) = ct at *
              generalize hCD : cntO o b = cd at *
              clear hq hcb hcb2 hd hCB
              have HCD : Hid (cntO o b = cd) := hCD
              clear hCD
              go_upto_region 13 with fail
              refine wp_region_phase 9 [(0, 0), (1, 0), (2, 0), (3, 1), (4, 0), (5, 0), (6, 0), (7, 1), (8, 0)] (fun W => (∀ (j : Nat) (u : Value), (opC o)[j]? = some u → W.cell? ⟨c, off + i * 6 + j, none⟩ = some u) ∧ (∀ (j : Nat) (u : Value), (opC q)[j]? = some u → W.cell? ⟨c2, of2 + k * 6 + j, none⟩ = some u)) (by kernel_rfl) (by kernel_rfl) (fun _ _ _ d _ h => by cases d <;> exact h) ⟨HCO.out _ (by first | rfl | exact fun _ => rfl), HCQ.out _ (by first | rfl | exact fun _ => rfl)⟩ ?_
              refine wpPlanZ_free (by rfl) (by rfl) (fun W => by (go_simp; try with_reducible rfl)) (fun K hK => ?_); go_simp; refine hK _ ?_; clear hK K
              refine wpPlanZ_free (by rfl) (by rfl) (fun W => by (go_simp; try with_reducible rfl)) (fun K hK => ?_); go_simp; refine hK _ ?_; clear hK K
              refine wpPlanZ_free (by rfl) (by rfl) (fun W => by (go_simp; try with_reducible rfl)) (fun K hK => ?_); go_simp; refine hK _ ?_; clear hK K
              refine wpPlanZ_quiet (by rfl) (by rfl) (fun W hW => by (obtain ⟨s0, s1, s2, s3, s4, s5⟩ := op_cells hW.2; go_simp; try with_reducible rfl)) (fun K hK => ?_); go_simp; refine hK _ ?_; clear hK K
              refine wpPlanZ_free (by rfl) (by rfl) (fun W => by (go_simp; try with_reducible rfl)) (fun K hK => ?_); go_simp; refine hK _ ?_; clear hK K
              refine wpPlanZ_free (by rfl) (by rfl) (fun W => by (go_simp; try with_reducible rfl)) (fun K hK => ?_); go_simp; refine hK _ ?_; clear hK K
              refine wpPlanZ_free (by rfl) (by rfl) (fun W => by (go_simp; try with_reducible rfl)) (fun K hK => ?_); go_simp; refine hK _ ?_; clear hK K
              refine wpPlanZ_quiet (by rfl) (by rfl) (fun W hW => by (obtain ⟨s0, s1, s2, s3, s4, s5⟩ := op_cells hW.1; go_simp; try with_reducible rfl)) (fun K hK => ?_); go_simp; refine hK _ ?_; clear hK K
              refine wpPlanZ_free (by rfl) (by rfl) (fun W => exec_eqO q o rfl rfl rfl W) (fun K hK => ?_); go_simp; refine hK _ ?_; clear hK K
              refine wpPlanZ_nil ?_
              cases he : eqO q o
              · have HZ : Hid (cntO o (b.take (k + 1)) = ct) := by show _ = _; rw [HS.out, he]; simp
                clear HS
                go_wp2
                go_roundw
                case rel => exact ⟨k + 1, n2 + 1, by omega, by go_num, by rw [HZ.out], by first | rfl | (rw [World.drewN_drewN]; done) | (simp; done)⟩
                case measure => simp [intOf]; omega
              · have HZ : Hid (cntO o (b.take (k + 1)) = ct + 1) := by show _ = _; rw [HS.out, he]; simp
                clear HS
                go_wp2
                go_roundw
                case rel => exact ⟨k + 1, n2 + 1, by omega, by go_num, by rw [HZ.out]; congr 1; omega, by first | rfl | (rw [World.drewN_drewN]; done) | (simp; done)⟩
                case measure => simp [intOf]; omega
            · obtain rfl : k = b.length := by omega
              rw [List.take_length, Int.sub_self]
              go_wp2
              go_roundw
              case rel => exact ⟨i + 1, n2, by omega, by go_num, rfl⟩
              case measure => simp [intOf]; omega
    · obtain rfl : i = a.length := by omega
      go_wp2
      go_ret
      exact ⟨by first | rfl | simp, below_drewN (Below.refl _ _) n⟩
end Go.Proofs.YtjkencgcdlfjhaaGreatDoor
