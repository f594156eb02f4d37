/-
  What a device takes and tells, and the trace.
-/
import Derived.Test.YtckcbnfobjmhpaaDoorKBus
namespace Go.Proofs.YtckcbnfobjmhpaaDoor
open Go.RowKit Go.Maps
open Num
set_option linter.unusedVariables false
theorem owns_pos {w : World} {base : Nat} {e : TypeId} {size n : Nat} {v : Value} {xs : List Value} (h : w.ownsRow base e size v (n + 1) xs) : ∃ g cap, v = .slice (some ⟨g, 0, none⟩) (n + 1) cap := by
  rcases h.2 with ⟨_, h⟩ | ⟨g, cap, cur, rfl, _⟩
  · omega
  · exact ⟨g, cap, rfl⟩
def outN (out : List Int) (a v : Int) : List Int := if a = 65536 then out ++ [v % 256] else out
def lampN (lamp a v : Int) : Int := if a = 65544 then v else lamp
section
variable {w : World} {base bb sb bp bw bh N : Nat} {m : Nat → Int} {wt ht : Int → Bool} {out : List Int} {lamp : Int} {tr : List Acc} {vo vt : Value}
set_option maxRecDepth 100000 in
set_option maxHeartbeats 1000000 in
theorem toDevice_any (B : BusIs w base bb sb bp bw bh N m wt ht out lamp tr vo vt) (a v : Int) (h0 : 0 ≤ a) (h1 : a < 4294967296) (v0 : 0 ≤ v) (v1 : v < 4294967296) (hn : out.length ≤ 1000) :
    Calls Tryd.prog 105 #[.pointer (some ⟨bb, 0, none⟩), .int .u32 a, .int .u32 v] w fun e w' => e = .returned (.tuple #[]) ∧ ∃ vo', BusIs w' base bb sb bp bw bh N m wt ht (outN out a v) (lampN lamp a v) tr vo' vt ∧ BTurned w w' bb bp bh vo vt ∧ Moved w vo vo' := by
  have c1 := B.c1
  have c2 := B.c2
  have f1 := B.fz 1
  have f2 := B.fz 2
  have BH : Hid (BusIs w base bb sb bp bw bh N m wt ht out lamp tr vo vt) := B
  have hbs : base ≤ w.heap.size := B.bs
  clear B
  by_cases ha : a = 65536
  · have hO : outN out a v = out ++ [v % 256] := by unfold outN; rw [if_pos ha]
    have hL : lampN lamp a v = lamp := by unfold lampN; rw [if_neg (by omega)]
    rw [hO, hL]; clear hO hL
    have e1 : (a == 65536) = true := by simpa using ha
    clear ha
    obtain ⟨i0, hi, hz0, hz1, hz2⟩ := info_parts info5
    have hnews : ∀ (j : Nat) (u : Value), [Value.int .u8 (v % 256)][j]? = some u → (w.alloc (.cells #[.int .u8 (v % 256)] 5)).cell? ((⟨w.heap.size, 0, none⟩ : Addr).add j) = some u := by
      intro j u hj
      rw [add_lit, cell_of_row _ _ _ _ _ _ (heap_alloc_new w _)]
      simpa using hj
    go_enter Tryd.func105, Tryd.ntmps105
    go_wp2_with (at_builtin; refine wpList_append_moved rfl _ _ 71 rfl base 5 i0 (.int .u8 0) 1 1 Tryd.underlying71 hi hz0 hz1 hz2 rfl (by decide) vo out.length (outC out) rfl (BH.out.ro.alloc _) ⟨w.heap.size, 0, none⟩ 1 1 [.int .u8 (v % 256)] rfl rfl hnews (by simp [Value.oneCell']) (by unfold maxLen; omega) (by omega) (by simp; omega) ?_; intro v' w1 ho hg hm; obtain ⟨g', cap', rfl⟩ := owns_pos ho; have hp := BH.out.putOut ho hg hm; obtain ⟨⟨hc1, hf1⟩, hp2⟩ := hp)
    first | go_end0 | refine bodyPost_ret (results_none rfl _ _ _) rfl ?_
    exact ⟨rfl, _, hp2⟩
  · have hO : outN out a v = out := by unfold outN; rw [if_neg ha]
    have e1 : (a == 65536) = false := by simpa using ha
    rw [hO]; clear hO ha
    by_cases hb : a = 65544
    · have hL : lampN lamp a v = v := by unfold lampN; rw [if_pos hb]
      rw [hL]; clear hL
      have e2 : (a == 65544) = true := by simpa using hb
      clear hb
      go_enter Tryd.func105, Tryd.ntmps105
      go_wp2
      first | go_end0 | refine bodyPost_ret (results_none rfl _ _ _) rfl ?_
      exact ⟨rfl, vo, (BH.out.putLamp v).1, (BH.out.putLamp v).2, Moved.refl _ _⟩
    · have hL : lampN lamp a v = lamp := by unfold lampN; rw [if_neg hb]
      rw [hL]; clear hL
      have e2 : (a == 65544) = false := by simpa using hb
      clear hb
      go_enter Tryd.func105, Tryd.ntmps105
      go_wp2
      first | go_end0 | refine bodyPost_ret (results_none rfl _ _ _) rfl ?_
      exact ⟨rfl, vo, BH.out, BTurned.refl _ _ _ _ _ _, Moved.refl _ _⟩
/-- what a device tells -/
def devV (a c lamp : Int) : Int := if a = 65540 then c % 4294967296 else if a = 65544 then lamp else 0
set_option maxRecDepth 100000 in
set_option maxHeartbeats 1000000 in
theorem fromDevice_any (B : BusIs w base bb sb bp bw bh N m wt ht out lamp tr vo vt) (a c : Int) (h0 : 0 ≤ a) (h1 : a < 4294967296) (c0 : -9223372036854775808 ≤ c) (c1 : c ≤ 9223372036854775807) :
    Calls Tryd.prog 104 #[.pointer (some ⟨bb, 0, none⟩), .int .u32 a, .int .i64 c] w fun e w' => e = .returned (.int .u32 (devV a c lamp)) ∧ w' = w := by
  have k2 := B.c2
  clear B
  by_cases ha : a = 65540
  · have e1 : (a == 65540) = true := by simpa using ha
    have hL : devV a c lamp = c % 4294967296 := by unfold devV; rw [if_pos ha]
    rw [hL]; clear hL ha
    go_enter Tryd.func104, Tryd.ntmps104
    go_wp2
    go_ret
    exact ⟨rfl, rfl⟩
  · have e1 : (a == 65540) = false := by simpa using ha
    by_cases hb : a = 65544
    · have e2 : (a == 65544) = true := by simpa using hb
      have hL : devV a c lamp = lamp := by unfold devV; rw [if_neg ha, if_pos hb]
      rw [hL]; clear hL ha hb
      go_enter Tryd.func104, Tryd.ntmps104
      go_wp2
      go_ret
      exact ⟨rfl, rfl⟩
    · have e2 : (a == 65544) = false := by simpa using hb
      have hL : devV a c lamp = 0 := by unfold devV; rw [if_neg ha, if_neg hb]
      rw [hL]; clear hL ha hb
      go_enter Tryd.func104, Tryd.ntmps104
      go_wp2
      go_ret
      exact ⟨rfl, rfl⟩
theorem acc_cells (w : World) (x : Acc) : ∀ (j : Nat) (u : Value), (accC x)[j]? = some u → (w.alloc (.cells #[.int .i64 x.c, .bool x.s, .int .u32 x.a, .int .u32 x.v] 76)).cell? ((⟨w.heap.size, 0, none⟩ : Addr).add j) = some u := by
  intro j u hj
  rw [add_lit, cell_of_row _ _ _ _ _ _ (heap_alloc_new w _)]
  unfold accC at hj
  simpa using hj
set_option maxRecDepth 100000 in
set_option maxHeartbeats 1000000 in
theorem store_dev (B : BusIs w base bb sb bp bw bh N m wt ht out lamp tr vo vt) (a s v c : Int) (h0 : 0 ≤ a) (h1 : a < 4294967296) (s0 : -9223372036854775808 ≤ s) (s1 : s ≤ 9223372036854775807) (v0 : 0 ≤ v) (v1 : v < 4294967296) (c0 : -9223372036854775808 ≤ c) (c1 : c ≤ 9223372036854775807) (hn : out.length ≤ 1000) (hn2 : tr.length ≤ 1000) (hd : dev a s = true) :
    Calls Tryd.prog 83 #[.pointer (some ⟨bb, 0, none⟩), .int .u32 a, .int .i64 s, .int .u32 v, .int .i64 c] w fun e w' => e = .returned .nilIface ∧ ∃ vo' vt', BusIs w' base bb sb bp bw bh N m wt ht (outN out a v) (lampN lamp a v) (tr ++ [⟨c, true, a, v⟩]) vo' vt' ∧ BTurned w w' bb bp bh vo vt ∧ Moved w vo vo' ∧ Moved w vt vt' := by
  obtain ⟨i0, hi, hz0, hz1, hz2⟩ := info_parts info55
  have hck := isDevice_any a s h0 h1 s0 s1 w
  rw [hd] at hck
  have BH : Hid (BusIs w base bb sb bp bw bh N m wt ht out lamp tr vo vt) := B
  have htd := toDevice_any B a v h0 h1 v0 v1 hn
  clear B hd
  go_enter Tryd.func83, Tryd.ntmps83
  go_wp2_with (go_at_call 103; refine hck.mono ?_; rintro e w' ⟨rfl, rfl⟩)
  refine htd.mono ?_
  rintro e w1 ⟨rfl, vo1, B1, T1, M1⟩
  clear htd hck
  have c3 := B1.c3
  have hbs : base ≤ w1.heap.size := B1.bs
  have BH1 : Hid (BusIs w1 base bb sb bp bw bh N m wt ht (outN out a v) (lampN lamp a v) tr vo1 vt) := B1
  have hnews := acc_cells w1 ⟨c, true, a, v⟩
  clear B1
  go_wp2_with (at_builtin; refine wpList_append_moved rfl _ _ 35 rfl base 76 i0 (.agg #[.int .i64 0, .bool false, .int .u32 0, .int .u32 0]) 4 24 Tryd.underlying35 hi hz0 hz1 hz2 rfl (by decide) vt tr.length (tr.flatMap accC) rfl (BH1.out.rt.alloc _) ⟨w1.heap.size, 0, none⟩ 1 1 (accC ⟨c, true, a, v⟩) rfl rfl hnews (by simp [Value.oneCell', accC]) (by unfold maxLen; omega) (by omega) (by simp; omega) ?_; intro v' w2 ho hg hm; obtain ⟨g', cap', rfl⟩ := owns_pos ho; have hp := BH1.out.putTr ho hg hm; obtain ⟨⟨hc1, hf1⟩, hp2⟩ := hp)
  go_ret
  exact ⟨rfl, vo1, _, hp2.1, T1.trans hp2.2.1 M1 (Moved.refl _ _), M1, fun k hk => (hp2.2.2 k hk).imp id (fun h => Nat.le_trans T1.size h)⟩
set_option maxRecDepth 100000 in
set_option maxHeartbeats 1000000 in
theorem load_dev (B : BusIs w base bb sb bp bw bh N m wt ht out lamp tr vo vt) (a s c : Int) (sg : Bool) (h0 : 0 ≤ a) (h1 : a < 4294967296) (s0 : -9223372036854775808 ≤ s) (s1 : s ≤ 9223372036854775807) (c0 : -9223372036854775808 ≤ c) (c1 : c ≤ 9223372036854775807) (hn2 : tr.length ≤ 1000) (hd : dev a s = true) :
    Calls Tryd.prog 81 #[.pointer (some ⟨bb, 0, none⟩), .int .u32 a, .int .i64 s, .bool sg, .int .i64 c] w fun e w' => e = .returned (.tuple #[.int .u32 (devV a c lamp), .nilIface]) ∧ ∃ vt', BusIs w' base bb sb bp bw bh N m wt ht out lamp (tr ++ [⟨c, false, a, devV a c lamp⟩]) vo vt' ∧ BTurned w w' bb bp bh vo vt ∧ Moved w vt vt' := by
  obtain ⟨i0, hi, hz0, hz1, hz2⟩ := info_parts info55
  have hck := isDevice_any a s h0 h1 s0 s1 w
  rw [hd] at hck
  have BH1 : Hid (BusIs w base bb sb bp bw bh N m wt ht out lamp tr vo vt) := B
  have hfd := fromDevice_any B a c h0 h1 c0 c1
  have c3 := B.c3
  have hbs : base ≤ w.heap.size := B.bs
  have hnews := acc_cells w ⟨c, false, a, devV a c lamp⟩
  clear B hd
  generalize devV a c lamp = dv at *
  go_enter Tryd.func81, Tryd.ntmps81
  go_wp2_with (first | (go_at_call 103; refine hck.mono ?_; rintro e w' ⟨rfl, rfl⟩) | (go_at_call 104; refine hfd.mono ?_; rintro e w' ⟨rfl, rfl⟩) | (at_builtin; refine wpList_append_moved rfl _ _ 35 rfl base 76 i0 (.agg #[.int .i64 0, .bool false, .int .u32 0, .int .u32 0]) 4 24 Tryd.underlying35 hi hz0 hz1 hz2 rfl (by decide) vt tr.length (tr.flatMap accC) rfl (BH1.out.rt.alloc _) ⟨_, 0, none⟩ 1 1 (accC ⟨c, false, a, dv⟩) rfl rfl hnews (by simp [Value.oneCell', accC]) (by unfold maxLen; omega) (by omega) (by simp; omega) ?_; intro v' w2 ho hg hm; obtain ⟨g', cap', rfl⟩ := owns_pos ho; have hp := BH1.out.putTr ho hg hm; obtain ⟨⟨hc1, hf1⟩, hp2⟩ := hp))
  go_ret2
  exact ⟨rfl, _, hp2.1, hp2.2.1, hp2.2.2⟩
end
end Go.Proofs.YtckcbnfobjmhpaaDoor
