/-
  Package keep: who asks for a place; PCs, in order.
-/
import Derived.Test.YtcccaejjhodnkaaDoorKpTake
namespace Go.Proofs.YtcccaejjhodnkaaDoor
open Go.RowKit
open Num
set_option linter.unusedVariables false
set_option maxRecDepth 100000 in
set_option maxHeartbeats 2000000 in
theorem isAt_any (w : World) (pc : Int) :
    Calls Tryd.prog 70 #[.int .u32 pc] w fun e w' => e = .returned (.func (.func 98) #[] #[.pointer (some ⟨w.heap.size, 0, none⟩)]) ∧ w' = w.alloc (.cells #[.int .u32 pc] 23) := by
  have hmf : ∀ (fn : Fn) (first cap : Array Value) (w : World), (Instr.makeFunc fn first cap).run Tryd.prog w = .ok (.func fn first cap) w := fun _ _ _ _ => rfl
  go_enter Tryd.func70, Tryd.ntmps70
  go_wp2
  go_ret
  exact ⟨rfl, rfl⟩
set_option maxRecDepth 100000 in
set_option maxHeartbeats 2000000 in
theorem isOf_any (w : World) (page : Int) :
    Calls Tryd.prog 75 #[.int .i64 page] w fun e w' => e = .returned (.func (.func 101) #[] #[.pointer (some ⟨w.heap.size, 0, none⟩)]) ∧ w' = w.alloc (.cells #[.int .i64 page] 3) := by
  have hmf : ∀ (fn : Fn) (first cap : Array Value) (w : World), (Instr.makeFunc fn first cap).run Tryd.prog w = .ok (.func fn first cap) w := fun _ _ _ _ => rfl
  go_enter Tryd.func75, Tryd.ntmps75
  go_wp2
  go_ret
  exact ⟨rfl, rfl⟩
set_option maxRecDepth 100000 in
set_option maxHeartbeats 2000000 in
theorem isAt1_any {w : World} {c : Nat} {pc : Int} (hc : w.cell? ⟨c, 0, none⟩ = some (.int .u32 pc)) (x : Kx) :
    Calls Tryd.prog 98 #[.agg #[.int .u32 x.pc, .int .i64 x.many, .slice x.ra x.rn x.rc, .slice x.ga x.gn x.gc], .pointer (some ⟨c, 0, none⟩)] w fun e w' => e = .returned (.bool (decide (x.pc = pc))) ∧ Below w.heap.size w w' := by
  have zc := World.block_lt_of_cell? _ _ hc
  have hb : Below w.heap.size w (w.alloc (.cells #[.int .u32 x.pc, .int .i64 x.many, .slice x.ra x.rn x.rc, .slice x.ga x.gn x.gc] 134)) := (Below.refl _ _).alloc (Nat.le_refl _) _
  have HB : Hid _ := hb
  clear hb
  have hd : decide (x.pc = pc) = (x.pc == pc) := by rw [Bool.eq_iff_iff]; simp
  rw [hd]
  go_enter Tryd.func98, Tryd.ntmps98
  go_wp2
  go_ret
  exact ⟨rfl, HB.out⟩
theorem infoU32 : (Tryd.prog.info? 23).map (fun i => (i.zero, i.size, i.bytes)) = some (some (.int .u32 0), 1, 4) := by kernel_rfl
/-- PCs of a row -/
def pcL (l : List Kx) : List Value := l.map fun x => .int .u32 x.pc
set_option maxRecDepth 100000 in
set_option maxHeartbeats 4000000 in
theorem pcsOf_any {w : World} {base : Nat} {v : Value} {l : List Kx} (K : w.ownsRow base 134 4 v l.length (kL l)) (hl : l.length ≤ 1000) :
    Calls Tryd.prog 74 #[v] w fun e w' => ∃ v', e = .returned v' ∧ w'.ownsRow w.heap.size 23 1 v' l.length (pcL l) ∧ Below w.heap.size w w' := by
  obtain ⟨i0, hi, iz0, iz1, iz2⟩ := info_parts infoU32
  have HK : Hid (w.ownsRow base 134 4 v l.length (kL l)) := K
  have hfm : ∃ ao cap, v = .slice ao l.length cap ∧ (0 < l.length → ∃ g, ao = some ⟨g, 0, none⟩) := by
    rcases K.2 with ⟨rfl, h⟩ | ⟨g, cap, cur, rfl, _⟩
    · exact ⟨none, 0, by rw [h], fun hp => by omega⟩
    · exact ⟨_, cap, rfl, fun _ => ⟨g, rfl⟩⟩
  obtain ⟨ao, cap, rfl, hao⟩ := hfm
  have HA : Hid (0 < l.length → ∃ g, ao = some ⟨g, 0, none⟩) := hao
  clear hao K
  go_enter Tryd.func74, Tryd.ntmps74
  go_wp2
  go_loopw [3, 8] (fun out i wr => ∃ j : Nat, j ≤ l.length ∧ i = .int .i64 j ∧ wr.ownsRow w.heap.size 23 1 out j (pcL (l.take j)) ∧ Below w.heap.size w wr) (fun _ i _ => l.length - (intOf i).toNat)
  case atStart => exact ⟨0, Nat.zero_le _, rfl, World.ownsRow_nil _ _ _ _, Below.refl _ _⟩
  case round =>
    obtain ⟨j, hj, rfl, ho, hB⟩ := hrel
    by_cases hlt : j < l.length
    · obtain ⟨x, hx⟩ : ∃ x, l[j]? = some x := ⟨_, List.getElem?_eq_getElem hlt⟩
      obtain ⟨g, rfl⟩ := HA.out (by omega)
      obtain ⟨x0, x1, x2, x3⟩ := row_cells (owns_blocks HK.out fun k e => hB.block k (own_lt HK.out k e).1) hx
      have zb := World.block_lt_of_cell? _ _ x0
      have hlt' : (j : Int) < l.length := by omega
      have hw1 : Below wr.heap.size wr ((wr.alloc (.cells #[.int .u32 x.pc, .int .i64 x.many, .slice x.ra x.rn x.rc, .slice x.ga x.gn x.gc] 134)).alloc (.cells #[.int .u32 x.pc] 23)) := ((Below.refl _ _).alloc (Nat.le_refl _) _).alloc (by rw [World.size_alloc]; omega) _
      have ho2 := owns_blocks ho fun k e => hw1.block k (own_lt ho k e).1
      have hn : ∀ (k : Nat) (u : Value), [Value.int .u32 x.pc][k]? = some u → ((wr.alloc (.cells #[.int .u32 x.pc, .int .i64 x.many, .slice x.ra x.rn x.rc, .slice x.ga x.gn x.gc] 134)).alloc (.cells #[.int .u32 x.pc] 23)).cell? ((⟨wr.heap.size + 1, 0, none⟩ : Addr).add k) = some u := by
        intro k u hk
        rw [add_lit, World.cell?_alloc_at _ _ _ _ (by simp)]
        simpa using hk
      have hs2 : w.heap.size ≤ ((wr.alloc (.cells #[.int .u32 x.pc, .int .i64 x.many, .slice x.ra x.rn x.rc, .slice x.ga x.gn x.gc] 134)).alloc (.cells #[.int .u32 x.pc] 23)).heap.size := Nat.le_trans hB.size hw1.size
      have hs5 := hB.size
      have HN : Hid (∀ v1 w2, w2.ownsRow w.heap.size 23 1 v1 (j + 1) (pcL (l.take j) ++ [.int .u32 x.pc]) → ((wr.alloc (.cells #[.int .u32 x.pc, .int .i64 x.many, .slice x.ra x.rn x.rc, .slice x.ga x.gn x.gc] 134)).alloc (.cells #[.int .u32 x.pc] 23)).grownBy w2 u3.ownBlock → w2.ownsRow w.heap.size 23 1 v1 (j + 1) (pcL (l.take (j + 1))) ∧ Below w.heap.size w w2) := fun v1 w2 h1 h2 => by
        refine ⟨?_, (hB.trans (hw1.mono hB.size)).grown h2 hs2 fun k e => (own_lt ho k e).2⟩
        rw [tk_snoc hx]; unfold pcL at h1 ⊢; rw [List.map_append]; exact h1
      have HO : Hid _ := ho2
      clear ho ho2 hB hw1
      go_wp2_with (at_builtin; refine wpList_append_moved rfl _ _ 27 rfl w.heap.size 23 i0 _ 1 4 Tryd.underlying27 hi iz0 iz1 iz2 rfl (by decide) u3 _ _ rfl HO.out ⟨wr.heap.size + 1, 0, none⟩ 1 1 [.int .u32 x.pc] rfl rfl hn (by simp [Value.oneCell']) (by unfold maxLen; omega) (by omega) hs2 ?_; intro v1 w2 ho1 hg1 hm1; have KN : Hid _ := HN.out v1 w2 ho1 hg1; clear ho1 hg1 hm1 HN HO hn hs2 x0 x1 x2 x3)
      go_roundw
      case rel => exact ⟨j + 1, by omega, by go_num, KN.out.1, KN.out.2⟩
      case measure => simp [intOf]; omega
    · obtain rfl : j = l.length := by omega
      have HF : Hid (wr.ownsRow w.heap.size 23 1 u3 l.length (pcL l)) := by show World.ownsRow _ _ _ _ _ _ _; have := ho; rwa [List.take_length] at this
      have HB : Hid _ := hB
      clear ho hB
      go_wp2
      go_ret
      exact ⟨_, rfl, HF.out, HB.out⟩
set_option maxRecDepth 100000 in
set_option maxHeartbeats 2000000 in
theorem pcs_any {w : World} {kb : Nat} {room : Int} {v : Value} {l : List Kx} (K : KRow w kb room v l) (hl : l.length ≤ 1000) :
    Calls Tryd.prog 33 #[.pointer (some ⟨kb, 0, none⟩)] w fun e w' => ∃ v', e = .returned v' ∧ w'.ownsRow w.heap.size 23 1 v' l.length (pcL l) ∧ Below w.heap.size w w' := by
  have hp := pcsOf_any K.own hl
  have k1 := K.c1
  have zk := K.lt
  clear K
  go_enter Tryd.func33, Tryd.ntmps33
  go_wp2_with fail
  refine hp.mono ?_
  rintro e w1 ⟨v', rfl, ho, hb⟩
  have HO : Hid _ := ho
  have HB : Hid _ := hb
  clear hp ho hb
  go_wp2
  go_ret
  exact ⟨_, rfl, HO.out, HB.out⟩
end Go.Proofs.YtcccaejjhodnkaaDoor
