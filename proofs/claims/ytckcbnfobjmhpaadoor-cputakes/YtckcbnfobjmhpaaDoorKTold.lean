/-
  What the statement asks of an error, of two traces; a bus of the document's, made.
-/
import Derived.Test.YtckcbnfobjmhpaaDoorKBusTold
namespace Go.Proofs.YtckcbnfobjmhpaaDoor
open Go.RowKit Go.Maps
open Num
set_option linter.unusedVariables false
theorem acc_get (tr : List Acc) (i j : Nat) (hi : i < tr.length) (hj : j < 4) : (tr.flatMap accC)[i * 4 + j]? = (accC tr[i])[j]? := by
  induction tr generalizing i with
  | nil => simp at hi
  | cons x tr ih =>
    rw [List.flatMap_cons]
    have hl : (accC x).length = 4 := rfl
    cases i with
    | zero => rw [Nat.zero_mul, Nat.zero_add, List.getElem?_append_left (by rw [hl]; exact hj)]; rfl
    | succ i =>
      rw [List.getElem?_append_right (by rw [hl]; omega), hl, show (i + 1) * 4 + j - 4 = i * 4 + j by omega, ih i (by simp at hi; omega)]
      rfl
set_option maxRecDepth 100000 in
set_option maxHeartbeats 2000000 in
theorem sameTrace_any {w : World} {b1 b2 : Nat} {v1 v2 : Value} {tr : List Acc} (o1 : w.ownsRow b1 76 4 v1 tr.length (tr.flatMap accC)) (o2 : w.ownsRow b2 76 4 v2 tr.length (tr.flatMap accC)) (hn : tr.length ≤ 1000) :
    Calls Tryd.prog 14 #[v1, v2] w fun e w' => e = .returned (.bool true) ∧ ∃ n, w' = w.drewN n := by
  obtain ⟨a1, c1, hv1, h1⟩ : ∃ a1 c1, v1 = .slice a1 tr.length c1 ∧ (0 < tr.length → ∃ g, a1 = some ⟨g, 0, none⟩ ∧ tr.length ≤ c1 ∧ ∀ i j u, (accC (tr.getD i ⟨0, false, 0, 0⟩))[j]? = some u → i < tr.length → j < 4 → w.cell? ⟨g, i * 4 + j, none⟩ = some u) := by
    rcases o1.2 with ⟨e, h⟩ | ⟨g, cap, cur, e, _, _, hc, _⟩
    · exact ⟨none, 0, by rw [e, h], fun h' => by omega⟩
    · refine ⟨_, cap, e, fun _ => ⟨g, rfl, hc, fun i j u hu hi hj => ?_⟩⟩
      have := o1.cells (g := g) (by rw [e]; rfl) (i * 4 + j) u (by rw [acc_get tr i j hi hj, ← hu]; simp [List.getD, hi])
      rwa [add_lit] at this
  obtain ⟨a2, c2, hv2, h2⟩ : ∃ a2 c2, v2 = .slice a2 tr.length c2 ∧ (0 < tr.length → ∃ g, a2 = some ⟨g, 0, none⟩ ∧ tr.length ≤ c2 ∧ ∀ i j u, (accC (tr.getD i ⟨0, false, 0, 0⟩))[j]? = some u → i < tr.length → j < 4 → w.cell? ⟨g, i * 4 + j, none⟩ = some u) := by
    rcases o2.2 with ⟨e, h⟩ | ⟨g, cap, cur, e, _, _, hc, _⟩
    · exact ⟨none, 0, by rw [e, h], fun h' => by omega⟩
    · refine ⟨_, cap, e, fun _ => ⟨g, rfl, hc, fun i j u hu hi hj => ?_⟩⟩
      have := o2.cells (g := g) (by rw [e]; rfl) (i * 4 + j) u (by rw [acc_get tr i j hi hj, ← hu]; simp [List.getD, hi])
      rwa [add_lit] at this
  subst hv1 hv2
  clear o1 o2
  generalize tr.length = n at *
  have H1 : Hid _ := h1
  have H2 : Hid _ := h2
  clear h1 h2
  have hn' : (n : Int) ≤ 1000 := by omega
  go_enter Tryd.func14, Tryd.ntmps14
  go_wp2_with fail
  go_loopw [5] (fun i wr => ∃ j q : Nat, j ≤ n ∧ i = .int .i64 j ∧ wr = w.drewN q) (fun i _ => n - (intOf i).toNat)
  case atStart => exact ⟨0, 0, Nat.zero_le _, rfl, rfl⟩
  case round =>
    obtain ⟨j, q, hj, rfl, rfl⟩ := hrel
    by_cases hlt : j < n
    · have hlt' : (j : Int) < n := by omega
      obtain ⟨g1, rfl, k1, f1⟩ := H1.out (by omega)
      obtain ⟨g2, rfl, k2, f2⟩ := H2.out (by omega)
      have p0 := f1 j 0 _ rfl hlt (by omega)
      have p1 := f1 j 1 _ rfl hlt (by omega)
      have p2 := f1 j 2 _ rfl hlt (by omega)
      have p3 := f1 j 3 _ rfl hlt (by omega)
      have r0 := f2 j 0 _ rfl hlt (by omega)
      have r1 := f2 j 1 _ rfl hlt (by omega)
      have r2 := f2 j 2 _ rfl hlt (by omega)
      have r3 := f2 j 3 _ rfl hlt (by omega)
      rw [Nat.add_zero] at p0 r0
      clear f1 f2
      generalize tr.getD j ⟨0, false, 0, 0⟩ = y at *
      go_wp2_with fail
      go_quiet (fail)
      go_wp2
      go_roundw
      case rel => exact ⟨j + 1, q + nq, by omega, by go_num, by simp⟩
      case measure => simp [intOf]; omega
    · have hlt' : ¬ (j : Int) < n := by omega
      go_wp2
      go_ret
      exact ⟨rfl, q, rfl⟩
end Go.Proofs.YtckcbnfobjmhpaaDoor
/-
  What is to be seen of a bus.
-/
namespace Go.Proofs.YtckcbnfobjmhpaaDoor
open Go.RowKit Go.Maps
open Num
set_option linter.unusedVariables false
/-- what is to be seen of a bus -/
structure BusSeen (w : World) (bx by_ bb sb bp bw bh N : Nat) (m : Nat → Int) (wt ht : Int → Bool) (out : List Int) (lamp : Int) (tr : List Acc) (vo vt : Value) : Prop where
  c0 : w.cell? ⟨bb, 0, none⟩ = some (.pointer (some ⟨sb, 0, none⟩))
  c1 : w.cell? ⟨bb, 1, none⟩ = some vo
  c2 : w.cell? ⟨bb, 2, none⟩ = some (.int .u32 lamp)
  c3 : w.cell? ⟨bb, 3, none⟩ = some vt
  ro : w.ownsRow bx 5 1 vo out.length (outC out)
  rt : w.ownsRow by_ 76 4 vt tr.length (tr.flatMap accC)
  R : RamIs w sb bp bw bh N m wt ht
theorem BusIs.seen {w : World} {base bb sb bp bw bh N : Nat} {m : Nat → Int} {wt ht : Int → Bool} {out : List Int} {lamp : Int} {tr : List Acc} {vo vt : Value} (B : BusIs w base bb sb bp bw bh N m wt ht out lamp tr vo vt) : BusSeen w base base bb sb bp bw bh N m wt ht out lamp tr vo vt := ⟨B.c0, B.c1, B.c2, B.c3, B.ro, B.rt, B.R⟩
theorem BusSeen.stays {w w' : World} {bx by_ bb sb bp bw bh N : Nat} {m : Nat → Int} {wt ht : Int → Bool} {out : List Int} {lamp : Int} {tr : List Acc} {vo vt : Value} (B : BusSeen w bx by_ bb sb bp bw bh N m wt ht out lamp tr vo vt) (h : Below w.heap.size w w') : BusSeen w' bx by_ bb sb bp bw bh N m wt ht out lamp tr vo vt := by
  have hs := h.block bb (World.block_lt_of_cell? _ _ B.c0)
  have c : ∀ (j : Nat) (v : Value), w.cell? ⟨bb, j, none⟩ = some v → w'.cell? ⟨bb, j, none⟩ = some v := fun j v e => (World.cell?_of_block (a := ⟨bb, j, none⟩) hs).trans e
  exact ⟨c _ _ B.c0, c _ _ B.c1, c _ _ B.c2, c _ _ B.c3, owns_blocks B.ro (fun k e => h.block k (B.ro.lt k e).2), owns_blocks B.rt (fun k e => h.block k (B.rt.lt k e).2), B.R.stays h (Nat.le_refl _)⟩
section
variable {w : World} {bx by_ bb sb bp bw bh N : Nat} {m : Nat → Int} {wt ht : Int → Bool} {out : List Int} {lamp : Int} {tr : List Acc} {vo vt : Value} {base' db rb gb kb : Nat} {vt' : Value}
theorem seenTrace_any (B : BusSeen w bx by_ bb sb bp bw bh N m wt ht out lamp tr vo vt) (hn : tr.length ≤ 1000) :
    Calls Tryd.prog 15 #[.pointer (some ⟨bb, 0, none⟩)] w fun e w' => ∃ ao cap, e = .returned (.slice ao tr.length cap) ∧ w'.ownsRow w.heap.size 76 4 (.slice ao tr.length cap) tr.length (tr.flatMap accC) ∧ Below w.heap.size w w' := by
  have hcl := clone55 B.rt hn (acc_one tr)
  have c3 := B.c3
  obtain ⟨ao', cap', hv⟩ : ∃ ao' cap', vt = .slice ao' tr.length cap' := by
    rcases B.rt.2 with ⟨e, h⟩ | ⟨g, cap, cur, e, _⟩
    · exact ⟨none, 0, by rw [e, h]⟩
    · exact ⟨_, cap, e⟩
  subst hv
  clear B
  go_enter Tryd.func15, Tryd.ntmps15
  go_wp2_with fail
  refine hcl.mono ?_
  rintro e w1 ⟨ao, cap, rfl, ho, hb⟩
  clear hcl
  go_wp2
  go_ret
  exact ⟨ao, cap, rfl, ho, hb⟩
theorem seenOut_any (B : BusSeen w bx by_ bb sb bp bw bh N m wt ht out lamp tr vo vt) : Calls Tryd.prog 13 #[.pointer (some ⟨bb, 0, none⟩)] w fun e w' => e = .returned (.string (outS out)) ∧ w' = w := by
  have c1 := B.c1
  have hcv : (convert 71 9 vo).run Tryd.prog w = .ok (.string (outS out)) w := by
    rcases B.ro.2 with ⟨e, h⟩ | ⟨g, cap, cur, e, _⟩
    · have : out = [] := List.eq_nil_of_length_eq_zero h
      subst this
      rw [e, run_convert_bytes_nil w 71 5 Tryd.underlying71 Tryd.underlying5 0 0 9 Tryd.underlying9]
      rfl
    · rw [e]
      refine run_convert_bytes_arg w 71 5 Tryd.underlying71 Tryd.underlying5 g 0 out.length cap out rfl (fun i hi => ?_) 9 Tryd.underlying9
      have := B.ro.cells (g := g) (by rw [e]; rfl) i _ (outC_get out i hi)
      rw [add_lit] at this
      rw [Nat.zero_add]; exact this
  obtain ⟨ao', n', cap', hv⟩ : ∃ ao' n' cap', vo = .slice ao' n' cap' := by
    rcases B.ro.2 with ⟨e, h⟩ | ⟨g, cap, cur, e, _⟩
    · exact ⟨none, 0, 0, by rw [e]⟩
    · exact ⟨_, _, cap, e⟩
  subst hv
  clear B
  generalize outS out = os at *
  go_enter Tryd.func13, Tryd.ntmps13
  go_wp2
  go_ret
  exact ⟨rfl, rfl⟩
theorem seenRam_any (B : BusSeen w bx by_ bb sb bp bw bh N m wt ht out lamp tr vo vt) : Calls Tryd.prog 17 #[.pointer (some ⟨bb, 0, none⟩)] w fun e w' => e = .returned (.pointer (some ⟨sb, 0, none⟩)) ∧ w' = w := by
  have c0 := B.c0
  clear B
  go_enter Tryd.func17, Tryd.ntmps17
  go_wp2
  go_ret
  exact ⟨rfl, rfl⟩
end
end Go.Proofs.YtckcbnfobjmhpaaDoor
/-
  A bus in one word: what a store and a load make of it, of the program's and of the document's.
-/
namespace Go.Proofs.YtckcbnfobjmhpaaDoor
open Go.RowKit Go.Maps
open Num
set_option linter.unusedVariables false
structure Bs where
  m : Nat → Int
  out : List Int
  lamp : Int
  tr : List Acc
/-- does an access go wrong? -/
def bad (a s : Int) : Bool := !dev a s && decide (chk a s ≠ 0)
def Bs.put (b : Bs) (a s v c : Int) : Bs := if dev a s = true then ⟨b.m, outN b.out a v, lampN b.lamp a v, b.tr ++ [⟨c, true, a, v⟩]⟩ else if chk a s = 0 then ⟨upd b.m a s v, b.out, b.lamp, b.tr⟩ else b
def Bs.got (b : Bs) (a s c : Int) : Bs := if dev a s = true then ⟨b.m, b.out, b.lamp, b.tr ++ [⟨c, false, a, devV a c b.lamp⟩]⟩ else b
def Bs.val (b : Bs) (a s : Int) (sg : Bool) (c : Int) : Int := if dev a s = true then devV a c b.lamp else if chk a s = 0 then ld b.m a s sg else 0
/-- the error that is told -/
def erB (ps pa pf : Addr) (a s : Int) : Value := if bad a s = true then .iface 192 (.pointer (some (erA ps pa pf (chk a s)))) else .nilIface
theorem dev_chk {a s : Int} (h : chk a s = 0) : dev a s = false := by
  have := (chk_ok h).2.2
  unfold dev; simp; omega
theorem Bs.put_out (b : Bs) (a s v c : Int) : (b.put a s v c).out.length ≤ b.out.length + 1 := by
  unfold Bs.put
  split
  · show (outN b.out a v).length ≤ _
    unfold outN; split <;> simp
  · split
    · show b.out.length ≤ _; omega
    · omega
theorem Bs.put_tr (b : Bs) (a s v c : Int) : (b.put a s v c).tr.length ≤ b.tr.length + 1 := by
  unfold Bs.put
  split
  · show (b.tr ++ [_]).length ≤ _; simp
  · split
    · show b.tr.length ≤ _; omega
    · omega
theorem Bs.got_tr (b : Bs) (a s c : Int) : (b.got a s c).tr.length ≤ b.tr.length + 1 := by
  unfold Bs.got
  split
  · show (b.tr ++ [_]).length ≤ _; simp
  · omega
theorem Bs.got_out (b : Bs) (a s c : Int) : (b.got a s c).out = b.out := by unfold Bs.got; split <;> rfl
section
variable {w : World} {base bb sb bp bw bh N : Nat} {b : Bs} {vo vt : Value}
theorem store_all (ps pa pf : Addr) (E : Er ps pa pf w) (B : BusIs w base bb sb bp bw bh N b.m F0 F0 b.out b.lamp b.tr vo vt) (a s v c : Int) (h0 : 0 ≤ a) (h1 : a < 4294967296) (s0 : -9223372036854775808 ≤ s) (s1 : s ≤ 9223372036854775807) (v0 : 0 ≤ v) (v1 : v < 4294967296) (c0 : -9223372036854775808 ≤ c) (c1 : c ≤ 9223372036854775807) (hn : b.out.length ≤ 1000) (hn2 : b.tr.length ≤ 1000) (hN : N + 1 < maxLen) :
    Calls Tryd.prog 83 #[.pointer (some ⟨bb, 0, none⟩), .int .u32 a, .int .i64 s, .int .u32 v, .int .i64 c] w fun e w' => e = .returned (erB ps pa pf a s) ∧ ∃ N' vo' vt', N' ≤ N + 2 ∧ BusIs w' base bb sb bp bw bh N' (b.put a s v c).m F0 F0 (b.put a s v c).out (b.put a s v c).lamp (b.put a s v c).tr vo' vt' ∧ BTurned w w' bb bp bh vo vt ∧ Moved w vo vo' ∧ Moved w vt vt' := by
  by_cases hd : dev a s = true
  · refine (store_dev B a s v c h0 h1 s0 s1 v0 v1 c0 c1 hn hn2 hd).mono ?_
    rintro e w' ⟨rfl, vo', vt', B', T, M1, M2⟩
    refine ⟨by simp [erB, bad, hd], N, vo', vt', by omega, ?_, T, M1, M2⟩
    unfold Bs.put; rw [if_pos hd]; exact B'
  · have hd' : dev a s = false := by simpa using hd
    by_cases hc : chk a s = 0
    · have hs := store_mem B a s v c h0 h1 s0 s1 v0 v1 hN hc
      rw [F0_hit] at hs
      refine hs.mono ?_
      rintro e w' ⟨rfl, B', T⟩
      refine ⟨by simp [erB, bad, hd', hc], N + 2, vo, vt, by omega, ?_, BTurned.of_turned T, Moved.refl _ _, Moved.refl _ _⟩
      unfold Bs.put; rw [if_neg hd, if_pos hc]; exact B'
    · refine (store_bad ps pa pf E B a s v c h0 h1 s0 s1 hc hd').mono ?_
      rintro e w' ⟨rfl, rfl⟩
      refine ⟨by simp [erB, bad, hd', hc], N, vo, vt, by omega, ?_, BTurned.refl _ _ _ _ _ _, Moved.refl _ _, Moved.refl _ _⟩
      unfold Bs.put; rw [if_neg hd, if_neg hc]; exact B
theorem load_all (ps pa pf : Addr) (E : Er ps pa pf w) (B : BusIs w base bb sb bp bw bh N b.m F0 F0 b.out b.lamp b.tr vo vt) (a s c : Int) (sg : Bool) (h0 : 0 ≤ a) (h1 : a < 4294967296) (s0 : -9223372036854775808 ≤ s) (s1 : s ≤ 9223372036854775807) (c0 : -9223372036854775808 ≤ c) (c1 : c ≤ 9223372036854775807) (hn2 : b.tr.length ≤ 1000) :
    Calls Tryd.prog 81 #[.pointer (some ⟨bb, 0, none⟩), .int .u32 a, .int .i64 s, .bool sg, .int .i64 c] w fun e w' => e = .returned (.tuple #[.int .u32 (b.val a s sg c), erB ps pa pf a s]) ∧ ∃ vt', BusIs w' base bb sb bp bw bh N (b.got a s c).m F0 F0 (b.got a s c).out (b.got a s c).lamp (b.got a s c).tr vo vt' ∧ BTurned w w' bb bp bh vo vt ∧ Moved w vt vt' := by
  by_cases hd : dev a s = true
  · refine (load_dev B a s c sg h0 h1 s0 s1 c0 c1 hn2 hd).mono ?_
    rintro e w' ⟨rfl, vt', B', T, M2⟩
    refine ⟨by simp [erB, bad, hd, Bs.val], vt', ?_, T, M2⟩
    unfold Bs.got; rw [if_pos hd]; exact B'
  · have hd' : dev a s = false := by simpa using hd
    by_cases hc : chk a s = 0
    · refine (load_mem B a s c sg h0 h1 s0 s1 hc).mono ?_
      rintro e w' ⟨rfl, k, rfl⟩
      have hb := below_drewN (Below.refl w.heap.size w) k
      refine ⟨by simp [erB, bad, hd', hc, Bs.val], vt, ?_, BTurned.of_below hb, Moved.refl _ _⟩
      unfold Bs.got; rw [if_neg hd]; exact B.stays hb
    · refine (load_bad ps pa pf E B a s c sg h0 h1 s0 s1 hc hd').mono ?_
      rintro e w' ⟨rfl, rfl⟩
      refine ⟨by simp [erB, bad, hd', hc, Bs.val], vt, ?_, BTurned.refl _ _ _ _ _ _, Moved.refl _ _⟩
      unfold Bs.got; rw [if_neg hd]; exact B
end
section
variable {w : World} {base db rb gb kb : Nat} {b : Bs} {vd : Value}
end
end Go.Proofs.YtckcbnfobjmhpaaDoor
