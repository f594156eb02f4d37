/-
  sameOps, of two slices that hold the same ops.
-/
import Derived.Test.YtphdginikmmnmaaGreatDoorJApp
import Derived.Test.YtphdginikmmnmaaGreatDoorJReads
import Derived.Test.YtphdginikmmnmaaGreatDoorJDoc6
import Derived.Test.YtphdginikmmnmaaGreatDoorQRunPure
namespace Go.Proofs.YtphdginikmmnmaaGreatDoor
open Go.RowKit Go.Maps
open Num
set_option linter.unusedVariables false
set_option maxRecDepth 100000 in
set_option maxHeartbeats 2000000 in
theorem sameOps_any {w : World} {u v : Value} {l : List Opx} (A : OpsIn w u l) (B : OpsIn w v l) (hl : (l.length : Int) ≤ 1000000) :
    Calls Tryz.prog 13 #[u, v] w fun e w' => e = .returned (.bool true) ∧ Below w.heap.size w w' := by
  obtain ⟨ao, ca, rfl, _, hA⟩ := A.sh
  obtain ⟨bo, cb, rfl, _, hB⟩ := B.sh
  have HA : Hid (0 < l.length → ∃ b off : Nat, ao = some ⟨b, off, none⟩ ∧ ∀ (i : Nat) (o : Opx), l[i]? = some o → ∀ (j : Nat) (u : Value), (opC o)[j]? = some u → w.cell? ⟨b, off + i * 6 + j, none⟩ = some u) := hA
  have HB : Hid (0 < l.length → ∃ b off : Nat, bo = some ⟨b, off, none⟩ ∧ ∀ (i : Nat) (o : Opx), l[i]? = some o → ∀ (j : Nat) (u : Value), (opC o)[j]? = some u → w.cell? ⟨b, off + i * 6 + j, none⟩ = some u) := hB
  clear A B hA hB
  go_enter Tryz.func13, Tryz.ntmps13
  go_wp2
  go_loopw [5] (fun i wr => ∃ (j n : Nat), j ≤ l.length ∧ i = .int .i64 j ∧ wr = w.drewN n) (fun i _ => l.length - (intOf i).toNat)
  case atStart => exact ⟨0, 0, Nat.zero_le _, rfl, rfl⟩
  case round =>
    obtain ⟨j, n, hj, rfl, rfl⟩ := hrel
    by_cases hlt : j < l.length
    · obtain ⟨o, ho⟩ : ∃ o, l[j]? = some o := ⟨_, List.getElem?_eq_getElem hlt⟩
      obtain ⟨b, off, rfl, hc⟩ := HA.out (by omega)
      obtain ⟨d, of2, rfl, hd⟩ := HB.out (by omega)
      obtain ⟨x0, x1, x2, x3, x4, x5⟩ := op_cells (hc j o ho)
      obtain ⟨y0, y1, y2, y3, y4, y5⟩ := op_cells (hd j o ho)
      have zb := World.block_lt_of_cell? _ _ x0
      have zd := World.block_lt_of_cell? _ _ y0
      have hlt' : (j : Int) < l.length := by omega
      clear hc hd ho HA HB
      go_wp2
      go_quiet (fail)
      go_wp2
      go_roundw
      case rel => exact ⟨j + 1, n + nq, by omega, by go_num, by first | rfl | (rw [World.drewN_drewN]; done) | (simp; done)⟩
      case measure => simp [intOf]; omega
    · obtain rfl : j = l.length := by omega
      go_wp2
      go_ret
      exact ⟨rfl, below_drewN (Below.refl _ _) n⟩
end Go.Proofs.YtphdginikmmnmaaGreatDoor
/-
  each: rows of one op.
-/
namespace Go.Proofs.YtphdginikmmnmaaGreatDoor
open Go.RowKit Go.Maps
open Num
set_option linter.unusedVariables false
/-- rows of ops -/
structure RowsIn (w : World) (v : Value) (ll : List (List Opx)) : Prop where
  sh : ∃ ao cap, v = .slice ao ll.length cap ∧ ll.length ≤ cap ∧ (0 < ll.length → ∃ b, ao = some ⟨b, 0, none⟩ ∧ ∀ i l, ll[i]? = some l → ∃ u, w.cell? ⟨b, i, none⟩ = some u ∧ OpsIn w u l)
theorem RowsIn.stays {w w' : World} {v : Value} {ll : List (List Opx)} (R : RowsIn w v ll) (h : Below w.heap.size w w') : RowsIn w' v ll := by
  obtain ⟨ao, cap, e, hcp, hh⟩ := R.sh
  exact ⟨ao, cap, e, hcp, fun hp => let ⟨b, eb, hc⟩ := hh hp; ⟨b, eb, fun i l hi => let ⟨u, hu, hO⟩ := hc i l hi; ⟨u, (h.cell (World.block_lt_of_cell? _ _ hu)).trans hu, hO.stays h⟩⟩⟩
/-- rows of one op: each in a block of its own, apart from the row vo that holds them -/
def Ones (w : World) (vo : Value) (us : List Value) (l : List Opx) : Prop := us.length = l.length ∧ ∀ (k : Nat) (u : Value) (o : Opx), us[k]? = some u → l[k]? = some o → ∃ g, u = .slice (some ⟨g, 0, none⟩) 1 1 ∧ OpsIn w u [o] ∧ vo.ownBlock ≠ some g ∧ g < w.heap.size
theorem OpsIn.block1 {w w' : World} {g : Nat} {o : Opx} (A : OpsIn w (.slice (some ⟨g, 0, none⟩) 1 1) [o]) (h : w'.heap[g]? = w.heap[g]?) : OpsIn w' (.slice (some ⟨g, 0, none⟩) 1 1) [o] := by
  obtain ⟨ao, cap, e, hc, hh⟩ := A.sh
  injection e with e1 e2 e3
  subst e1
  subst e3
  refine ⟨⟨some ⟨g, 0, none⟩, 1, rfl, hc, fun hp => ?_⟩, A.ok⟩
  obtain ⟨b, off, e, hcell⟩ := hh hp
  injection e with e
  injection e with e1 e2
  subst e1
  subst e2
  exact ⟨g, 0, rfl, fun i o hi j u hu => (World.cell?_of_block (a := ⟨g, 0 + i * 6 + j, none⟩) h).trans (hcell i o hi j u hu)⟩
theorem ones_new (w : World) (o : Opx) (ok : o.ok) : OpsIn (w.alloc (.cells #[.string o.s, .int .i64 o.d, .int .i64 o.a, .int .i64 o.b, .int .u32 o.i, .int .i64 o.t] 60)) (.slice (some ⟨w.heap.size, 0, none⟩) 1 1) [o] := by
  refine ⟨⟨some ⟨w.heap.size, 0, none⟩, 1, rfl, by simp, fun _ => ⟨w.heap.size, 0, rfl, fun i o' hi j u hu => ?_⟩⟩, fun o' ho => by rw [List.mem_singleton.1 ho]; exact ok⟩
  cases i with
  | zero =>
    obtain rfl : o = o' := by simpa using hi
    rw [show 0 + 0 * 6 + j = j by omega, bcD]
    rw [List.getElem?_toArray]
    exact hu
  | succ i => simp at hi
/-- one row more: first its own block, then the row's place, then the row that holds them -/
theorem Ones.snoc {w W w' : World} {vo vo' : Value} {us : List Value} {l : List Opx} {o : Opx} (H : Ones w vo us l) (hv : ∀ k, vo.ownBlock = some k → k < w.heap.size) (hW : Below w.heap.size w W) (g : Nat) (hg : w.heap.size ≤ g) (hg2 : g < W.heap.size) (hO : OpsIn W (.slice (some ⟨g, 0, none⟩) 1 1) [o]) (hgr : W.grownBy w' vo.ownBlock) (hm : Moved W vo vo') :
    Ones w' vo' (us ++ [.slice (some ⟨g, 0, none⟩) 1 1]) (l ++ [o]) := by
  have hsz := hgr.size
  have blk : ∀ k, k < W.heap.size → vo.ownBlock ≠ some k → w'.heap[k]? = W.heap[k]? := fun k hk hne => hgr.block k hk (Ne.symm hne)
  have nv : ∀ k, k < W.heap.size → vo.ownBlock ≠ some k → vo'.ownBlock ≠ some k := fun k hk hne h => by
    rcases hm k h with h | h
    · exact hne h
    · omega
  have hgo : vo.ownBlock ≠ some g := fun h => by have := hv g h; omega
  refine ⟨by simp [H.1], fun k u o' hu ho => ?_⟩
  by_cases hk : k < us.length
  · rw [List.getElem?_append_left hk] at hu
    rw [List.getElem?_append_left (by rw [← H.1]; exact hk)] at ho
    obtain ⟨a, ea, hA, hn, hl⟩ := H.2 k u o' hu ho
    subst ea
    have hl2 : a < W.heap.size := by have := hW.size; omega
    exact ⟨a, rfl, (hA.stays hW).block1 (blk a hl2 hn), nv a hl2 hn, by omega⟩
  · rw [List.getElem?_append_right (by omega)] at hu
    rw [List.getElem?_append_right (by rw [← H.1]; omega), ← H.1] at ho
    have h0 : k - us.length = 0 := by
      rcases Nat.eq_zero_or_pos (k - us.length) with h | h
      · exact h
      · rw [List.getElem?_eq_none (by simp; omega)] at hu; cases hu
    rw [h0] at hu ho
    obtain rfl : Value.slice (some ⟨g, 0, none⟩) 1 1 = u := by simpa using hu
    obtain rfl : o = o' := by simpa using ho
    exact ⟨g, rfl, hO.block1 (blk g hg2 hgo), nv g hg2 hgo, by omega⟩
theorem infoOps : (Tryz.prog.info? 23).map (fun i => (i.zero, i.size, i.bytes)) = some (some (.slice none 0 0), 1, 24) := by kernel_rfl
/-- the rows at the end -/
theorem Ones.rows {w : World} {base : Nat} {vo : Value} {us : List Value} {l : List Opx} (H : Ones w vo us l) (ho : w.ownsRow base 23 1 vo us.length us) : RowsIn w vo (eachL l) := by
  have hlen : (eachL l).length = us.length := by unfold eachL; rw [List.length_map, H.1]
  obtain ⟨h1, h2⟩ := ho
  rcases h2 with ⟨hv, hn⟩ | ⟨g, cap, cur, hv, hb, hg, hr⟩
  · exact ⟨none, 0, by rw [hv, hlen, hn], by omega, fun hp => by omega⟩
  · obtain ⟨r1, r2, r3, r4⟩ := hr
    refine ⟨some ⟨g, 0, none⟩, cap, by rw [hv, hlen], by omega, fun _ => ⟨g, rfl, fun i row hi => ?_⟩⟩
    have hil : i < us.length := by rw [← hlen]; exact (List.getElem?_eq_some_iff.1 hi).1
    obtain ⟨o, ho, rfl⟩ : ∃ o, l[i]? = some o ∧ [o] = row := by
      unfold eachL at hi
      rw [List.getElem?_map] at hi
      cases hx : l[i]? with
      | none => rw [hx] at hi; cases hi
      | some o => rw [hx] at hi; exact ⟨o, rfl, by simpa using hi⟩
    obtain ⟨u, hu⟩ : ∃ u, us[i]? = some u := ⟨_, List.getElem?_eq_getElem hil⟩
    obtain ⟨a, rfl, hA, _, _⟩ := H.2 i u o hu ho
    refine ⟨_, ?_, hA⟩
    rw [cell_of_row _ _ _ _ _ _ hg]
    have : (cur.toList.take (us.length * 1))[i]? = some (.slice (some ⟨a, 0, none⟩) 1 1) := by rw [r4]; exact hu
    rw [List.getElem?_take, if_pos (by omega)] at this
    rw [← Array.getElem?_toList]; exact this
theorem own_at {w : World} {base : Nat} {e : TypeId} {size n : Nat} {v : Value} {xs : List Value} (h : w.ownsRow base e size v n xs) : ∀ k, v.ownBlock = some k → k < w.heap.size ∧ base ≤ k := by
  intro k hk
  rcases h.2 with ⟨hv, _⟩ | ⟨g, cap, cur, hv, hb, hg, _⟩
  · subst hv; cases hk
  · subst hv
    obtain rfl : g = k := by simpa [Value.ownBlock] using hk
    exact ⟨(Array.getElem?_eq_some_iff.1 hg).1, hb⟩
set_option maxRecDepth 100000 in
set_option maxHeartbeats 2000000 in
theorem each_any {w : World} {v : Value} {l : List Opx} (A : OpsIn w v l) (hl : l.length ≤ 1000) :
    Calls Tryz.prog 17 #[v] w fun e w' => ∃ u, e = .returned u ∧ RowsIn w' u (eachL l) ∧ Below w.heap.size w w' := by
  obtain ⟨ao, ca, rfl, _, hA⟩ := A.sh
  have HA : Hid (0 < l.length → ∃ b off : Nat, ao = some ⟨b, off, none⟩ ∧ ∀ (i : Nat) (o : Opx), l[i]? = some o → ∀ (j : Nat) (u : Value), (opC o)[j]? = some u → w.cell? ⟨b, off + i * 6 + j, none⟩ = some u) := hA
  have OK : Hid (∀ o ∈ l, o.ok) := A.ok
  obtain ⟨i0, hi, iz0, iz1, iz2⟩ := info_parts infoOps
  clear A hA
  go_enter Tryz.func17, Tryz.ntmps17
  go_wp2
  go_loopw [3, 4] (fun out i wr => ∃ (j : Nat) (us : List Value), j ≤ l.length ∧ i = .int .i64 j ∧ us.length = j ∧ wr.ownsRow w.heap.size 23 1 out j us ∧ Ones wr out us (l.take j) ∧ Below w.heap.size w wr) (fun _ i _ => l.length - (intOf i).toNat)
  case atStart => exact ⟨0, [], Nat.zero_le _, rfl, rfl, World.ownsRow_nil _ _ _ _, ⟨by simp, fun k u o h _ => by simp at h⟩, Below.refl _ _⟩
  case round =>
    obtain ⟨j, us, hj, rfl, hul, ho, hO, hB⟩ := hrel
    by_cases hlt : j < l.length
    · obtain ⟨o, hoj⟩ : ∃ o, l[j]? = some o := ⟨_, List.getElem?_eq_getElem hlt⟩
      obtain ⟨b, off, rfl, hc⟩ := HA.out (by omega)
      obtain ⟨x0, x1, x2, x3, x4, x5⟩ := op_cells (w := wr) (fun k u hk => by rw [hB.cell (World.block_lt_of_cell? _ _ (hc j o hoj k u hk))]; exact hc j o hoj k u hk)
      have zb := World.block_lt_of_cell? _ _ x0
      have hlt' : (j : Int) < l.length := by omega
      have hW : Below wr.heap.size wr ((wr.alloc (.cells #[.string o.s, .int .i64 o.d, .int .i64 o.a, .int .i64 o.b, .int .u32 o.i, .int .i64 o.t] 60)).alloc (.cells #[.slice (some ⟨wr.heap.size, 0, none⟩) 1 1] 23)) := ((Below.refl _ _).alloc (Nat.le_refl _) _).alloc (by simp) _
      have hO1 : OpsIn ((wr.alloc (.cells #[.string o.s, .int .i64 o.d, .int .i64 o.a, .int .i64 o.b, .int .u32 o.i, .int .i64 o.t] 60)).alloc (.cells #[.slice (some ⟨wr.heap.size, 0, none⟩) 1 1] 23)) (.slice (some ⟨wr.heap.size, 0, none⟩) 1 1) [o] := (ones_new wr o (OK.out o (List.mem_of_getElem? hoj))).stays ((Below.refl _ _).alloc (Nat.le_refl _) _)
      have hsz2 : wr.heap.size + 1 + 1 = (((wr.alloc (.cells #[.string o.s, .int .i64 o.d, .int .i64 o.a, .int .i64 o.b, .int .u32 o.i, .int .i64 o.t] 60)).alloc (.cells #[.slice (some ⟨wr.heap.size, 0, none⟩) 1 1] 23))).heap.size := by simp
      have HOW : Hid ((((wr.alloc (.cells #[.string o.s, .int .i64 o.d, .int .i64 o.a, .int .i64 o.b, .int .u32 o.i, .int .i64 o.t] 60)).alloc (.cells #[.slice (some ⟨wr.heap.size, 0, none⟩) 1 1] 23))).ownsRow w.heap.size 23 1 u3 j us) := (ho.alloc _).alloc _
      have hn1 : ∀ (k : Nat) (u : Value), [Value.slice (some ⟨wr.heap.size, 0, none⟩) 1 1][k]? = some u → (((wr.alloc (.cells #[.string o.s, .int .i64 o.d, .int .i64 o.a, .int .i64 o.b, .int .u32 o.i, .int .i64 o.t] 60)).alloc (.cells #[.slice (some ⟨wr.heap.size, 0, none⟩) 1 1] 23))).cell? ((⟨wr.heap.size + 1, 0, none⟩ : Addr).add k) = some u := by
        intro k u hk
        rw [add_lit, World.cell?_alloc_at _ _ _ _ (by simp)]
        simpa using hk
      have hbs : w.heap.size ≤ wr.heap.size := hB.size
      have HS : Hid (∀ v1 w1, (((wr.alloc (.cells #[.string o.s, .int .i64 o.d, .int .i64 o.a, .int .i64 o.b, .int .u32 o.i, .int .i64 o.t] 60)).alloc (.cells #[.slice (some ⟨wr.heap.size, 0, none⟩) 1 1] 23))).grownBy w1 u3.ownBlock → Moved ((wr.alloc (.cells #[.string o.s, .int .i64 o.d, .int .i64 o.a, .int .i64 o.b, .int .u32 o.i, .int .i64 o.t] 60)).alloc (.cells #[.slice (some ⟨wr.heap.size, 0, none⟩) 1 1] 23)) u3 v1 → Ones w1 v1 (us ++ [.slice (some ⟨wr.heap.size, 0, none⟩) 1 1]) (l.take (j + 1)) ∧ Below w.heap.size w w1) := by
        intro v1 w1 hg hm
        rw [take_snoc' hoj]
        refine ⟨hO.snoc (fun k hk => (own_at ho k hk).1) hW wr.heap.size (Nat.le_refl _) (by rw [← hsz2]; omega) hO1 hg hm, ?_⟩
        exact (hB.trans (hW.mono hbs)).grown hg (by rw [← hsz2]; omega) (fun k hk => (own_at ho k hk).2)
      clear hc hoj hB hO ho hW hO1 HA OK hsz2
      go_wp2_with (at_builtin; refine wpList_append_moved rfl _ _ 48 rfl w.heap.size 23 i0 (.slice none 0 0) 1 24 Tryz.underlying48 hi iz0 iz1 iz2 rfl (by decide) u3 j us rfl HOW.out ⟨wr.heap.size + 1, 0, none⟩ 1 1 [.slice (some ⟨wr.heap.size, 0, none⟩) 1 1] rfl rfl hn1 (by simp [Value.oneCell']) (by unfold maxLen; omega) (by omega) (by simp; omega) ?_; intro v1 w1 ho1 hg1 hm1; have K1 := HS.out v1 w1 hg1 hm1; have KO : Hid (w1.ownsRow w.heap.size 23 1 v1 (j + 1) (us ++ [.slice (some ⟨wr.heap.size, 0, none⟩) 1 1])) := ho1; have KS : Hid (Ones w1 v1 (us ++ [.slice (some ⟨wr.heap.size, 0, none⟩) 1 1]) (l.take (j + 1)) ∧ Below w.heap.size w w1) := K1; clear ho1 hg1 hm1 K1 HS HOW hn1 x0 x1 x2 x3 x4 x5 zb)
      go_roundw
      case rel => exact ⟨j + 1, _, by omega, by go_num, by rw [List.length_append, hul]; rfl, KO.out, KS.out.1, KS.out.2⟩
      case measure => simp [intOf]; omega
    · obtain rfl : j = l.length := by omega
      have HR : Hid (RowsIn wr u3 (eachL l)) := by
        rw [List.take_length] at hO
        rw [← hul] at ho
        exact hO.rows ho
      have HB : Hid (Below w.heap.size w wr) := hB
      clear hO ho hB HA OK
      go_wp2
      go_ret
      exact ⟨_, rfl, HR.out, HB.out⟩
end Go.Proofs.YtphdginikmmnmaaGreatDoor
