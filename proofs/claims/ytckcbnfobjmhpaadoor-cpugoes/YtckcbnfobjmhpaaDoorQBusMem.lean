/-
  Where no device answers; a new bus; the trace that is told.
-/
import Derived.Test.YtckcbnfobjmhpaaDoorQBusDev
namespace Go.Proofs.YtckcbnfobjmhpaaDoor
open Go.RowKit Go.Maps
open Num
set_option linter.unusedVariables false
section
variable {w : World} {base bb sb bp bw bh N : Nat} {m : Nat → Int} {wt ht : Int → Bool} {out : List Int} {lamp : Int} {tr : List Acc} {vo vt : Value}
/-- its own memory's store -/
theorem BusIs.own {w' : World} {N' : Nat} {m' : Nat → Int} {wt' ht' : Int → Bool} (B : BusIs w base bb sb bp bw bh N m wt ht out lamp tr vo vt) (R : RamIs w' sb bp bw bh N' m' wt' ht') (t : Turned w w' bp bh) : BusIs w' base bb sb bp bw bh N' m' wt' ht' out lamp tr vo vt := by
  have hlt : ∀ k, k < base → k < w.heap.size := fun k h => Nat.lt_of_lt_of_le h B.bs
  have hs := t.block bb (hlt _ B.lb) B.np B.nh
  have c : ∀ (j : Nat) (v : Value), w.cell? ⟨bb, j, none⟩ = some v → w'.cell? ⟨bb, j, none⟩ = some v := fun j v e => (World.cell?_of_block (a := ⟨bb, j, none⟩) hs).trans e
  refine ⟨c _ _ B.c0, c _ _ B.c1, c _ _ B.c2, c _ _ B.c3, fun j => (World.frozen?_of_block (a := ⟨bb, j, none⟩) hs).trans (B.fz j), ?_, ?_, R, B.lb, B.ls, B.lp, B.lw, B.lh, B.ns, B.np, B.nw, B.nh, Nat.le_trans B.bs t.size⟩
  · exact owns_blocks B.ro fun k e => t.block k (B.ro.lt k e).2 (by have := (B.ro.lt k e).1; have := B.lp; omega) (by have := (B.ro.lt k e).1; have := B.lh; omega)
  · exact owns_blocks B.rt fun k e => t.block k (B.rt.lt k e).2 (by have := (B.rt.lt k e).1; have := B.lp; omega) (by have := (B.rt.lt k e).1; have := B.lh; omega)
set_option maxRecDepth 100000 in
set_option maxHeartbeats 1000000 in
theorem store_mem (B : BusIs w base bb sb bp bw bh N m wt ht out lamp tr vo vt) (a s v c : Int) (h0 : 0 ≤ a) (h1 : a < 4294967296) (s0 : -9223372036854775808 ≤ s) (s1 : s ≤ 9223372036854775807) (v0 : 0 ≤ v) (v1 : v < 4294967296) (hN : N + 1 < maxLen) (hc : chk a s = 0) :
    Calls Tryd.prog 83 #[.pointer (some ⟨bb, 0, none⟩), .int .u32 a, .int .i64 s, .int .u32 v, .int .i64 c] w fun e w' => e = .returned .nilIface ∧ BusIs w' base bb sb bp bw bh (N + 2) (upd m a s v) wt (fun x => if x = a / 256 ∧ wt (a / 256) = true then true else ht x) out lamp tr vo vt ∧ Turned w w' bp bh := by
  have hd : dev a s = false := by
    obtain ⟨_, _, hf⟩ := chk_ok hc
    unfold dev; simp; omega
  have hck := isDevice_any a s h0 h1 s0 s1 w
  rw [hd] at hck
  have hst := store_ok B.R a s v h0 h1 v0 v1 hN hc
  have c0 := B.c0
  have BH : Hid (BusIs w base bb sb bp bw bh N m wt ht out lamp tr vo vt) := B
  clear B hd hc hN
  go_enter Tryd.func83, Tryd.ntmps83
  go_wp2_with (first | (go_at_call 103; refine hck.mono ?_; rintro e w' ⟨rfl, rfl⟩) | (go_at_call 19; refine hst.mono ?_; rintro e w2 ⟨rfl, R2, T2⟩))
  go_ret
  exact ⟨rfl, BH.out.own R2 T2, T2⟩
set_option maxRecDepth 100000 in
set_option maxHeartbeats 1000000 in
theorem store_bad (ps pa pf : Addr) (E : Er ps pa pf w) (B : BusIs w base bb sb bp bw bh N m wt ht out lamp tr vo vt) (a s v c : Int) (h0 : 0 ≤ a) (h1 : a < 4294967296) (s0 : -9223372036854775808 ≤ s) (s1 : s ≤ 9223372036854775807) (hc : chk a s ≠ 0) (hd : dev a s = false) :
    Calls Tryd.prog 83 #[.pointer (some ⟨bb, 0, none⟩), .int .u32 a, .int .i64 s, .int .u32 v, .int .i64 c] w fun e w' => e = .returned (.iface 192 (.pointer (some (erA ps pa pf (chk a s))))) ∧ w' = w := by
  have hck := isDevice_any a s h0 h1 s0 s1 w
  rw [hd] at hck
  have hst := store_no ps pa pf E (.pointer (some ⟨sb, 0, none⟩)) a s v h0 h1 s0 s1 hc
  have c0 := B.c0
  clear B hd hc E
  generalize erA ps pa pf (chk a s) = er at *
  go_enter Tryd.func83, Tryd.ntmps83
  go_wp2_with (first | (go_at_call 103; refine hck.mono ?_; rintro e w' ⟨rfl, rfl⟩) | (go_at_call 19; refine hst.mono ?_; rintro e w2 ⟨rfl, rfl⟩))
  go_ret
  exact ⟨rfl, rfl⟩
set_option maxRecDepth 100000 in
set_option maxHeartbeats 1000000 in
theorem load_mem (B : BusIs w base bb sb bp bw bh N m wt ht out lamp tr vo vt) (a s c : Int) (sg : Bool) (h0 : 0 ≤ a) (h1 : a < 4294967296) (s0 : -9223372036854775808 ≤ s) (s1 : s ≤ 9223372036854775807) (hc : chk a s = 0) :
    Calls Tryd.prog 81 #[.pointer (some ⟨bb, 0, none⟩), .int .u32 a, .int .i64 s, .bool sg, .int .i64 c] w fun e w' => e = .returned (.tuple #[.int .u32 (ld m a s sg), .nilIface]) ∧ ∃ n, w' = w.drewN n := by
  have hd : dev a s = false := by
    obtain ⟨_, _, hf⟩ := chk_ok hc
    unfold dev; simp; omega
  have hck := isDevice_any a s h0 h1 s0 s1 w
  rw [hd] at hck
  have hst := load_ok B.R a s sg h0 h1 hc
  have c0 := B.c0
  clear B hd hc
  generalize ld m a s sg = x at *
  go_enter Tryd.func81, Tryd.ntmps81
  go_wp2_with (first | (go_at_call 103; refine hck.mono ?_; rintro e w' ⟨rfl, rfl⟩) | (go_at_call 58; refine hst.mono ?_; rintro e w2 ⟨rfl, n, rfl⟩))
  go_ret2
  exact ⟨rfl, n, rfl⟩
set_option maxRecDepth 100000 in
set_option maxHeartbeats 1000000 in
theorem load_bad (ps pa pf : Addr) (E : Er ps pa pf w) (B : BusIs w base bb sb bp bw bh N m wt ht out lamp tr vo vt) (a s c : Int) (sg : Bool) (h0 : 0 ≤ a) (h1 : a < 4294967296) (s0 : -9223372036854775808 ≤ s) (s1 : s ≤ 9223372036854775807) (hc : chk a s ≠ 0) (hd : dev a s = false) :
    Calls Tryd.prog 81 #[.pointer (some ⟨bb, 0, none⟩), .int .u32 a, .int .i64 s, .bool sg, .int .i64 c] w fun e w' => e = .returned (.tuple #[.int .u32 0, .iface 192 (.pointer (some (erA ps pa pf (chk a s))))]) ∧ w' = w := by
  have hck := isDevice_any a s h0 h1 s0 s1 w
  rw [hd] at hck
  have hst := load_no ps pa pf E (.pointer (some ⟨sb, 0, none⟩)) a s sg h0 h1 s0 s1 hc
  have c0 := B.c0
  clear B hd hc E
  generalize erA ps pa pf (chk a s) = er at *
  go_enter Tryd.func81, Tryd.ntmps81
  go_wp2_with (first | (go_at_call 103; refine hck.mono ?_; rintro e w' ⟨rfl, rfl⟩) | (go_at_call 58; refine hst.mono ?_; rintro e w2 ⟨rfl, rfl⟩))
  go_ret2
  exact ⟨rfl, rfl⟩
theorem ramOf_any (B : BusIs w base bb sb bp bw bh N m wt ht out lamp tr vo vt) : Calls Tryd.prog 17 #[.pointer (some ⟨bb, 0, none⟩)] w fun e w' => e = .returned (.pointer (some ⟨sb, 0, none⟩)) ∧ w' = w := by
  have c0 := B.c0
  clear B
  go_enter Tryd.func17, Tryd.ntmps17
  go_wp2
  go_ret
  exact ⟨rfl, rfl⟩
end
/-- a new bus: its pieces -/
structure NewBus (w : World) (bb sb bp bw bh : Nat) (xs : List Int) : Prop where
  c0 : w.cell? ⟨bb, 0, none⟩ = some (.pointer (some ⟨sb, 0, none⟩))
  c1 : w.cell? ⟨bb, 1, none⟩ = some (.slice none 0 0)
  c2 : w.cell? ⟨bb, 2, none⟩ = some (.int .u32 0)
  c3 : w.cell? ⟨bb, 3, none⟩ = some (.slice none 0 0)
  fz : ∀ j, w.frozen? ⟨bb, j, none⟩ = false
  R : RamIs w sb bp bw bh 64 (mw xs) (fun _ => false) (fun _ => false)
  ns : bb ≠ sb
  np : bb ≠ bp
  nw : bb ≠ bw
  nh : bb ≠ bh
theorem RamIs.lt {w : World} {sb bp bw bh N : Nat} {m : Nat → Int} {wt ht : Int → Bool} (R : RamIs w sb bp bw bh N m wt ht) : sb < w.heap.size ∧ bp < w.heap.size ∧ bw < w.heap.size ∧ bh < w.heap.size :=
  ⟨World.block_lt_of_cell? _ _ R.c0, R.ps.lt, R.ws.lt, R.hs.lt⟩
theorem NewBus.stays {w w' : World} {bb sb bp bw bh : Nat} {xs : List Int} (B : NewBus w bb sb bp bw bh xs) (h : Below w.heap.size w w') : NewBus w' bb sb bp bw bh xs := by
  have hs := h.block bb (World.block_lt_of_cell? _ _ B.c0)
  have c : ∀ (j : Nat) (v : Value), w.cell? ⟨bb, j, none⟩ = some v → w'.cell? ⟨bb, j, none⟩ = some v := fun j v e => (World.cell?_of_block (a := ⟨bb, j, none⟩) hs).trans e
  exact ⟨c _ _ B.c0, c _ _ B.c1, c _ _ B.c2, c _ _ B.c3, fun j => (World.frozen?_of_block (a := ⟨bb, j, none⟩) hs).trans (B.fz j), B.R.stays h (Nat.le_refl _), B.ns, B.np, B.nw, B.nh⟩
theorem NewBus.is {w : World} {bb sb bp bw bh : Nat} {xs : List Int} (B : NewBus w bb sb bp bw bh xs) : BusIs w w.heap.size bb sb bp bw bh 64 (mw xs) (fun _ => false) (fun _ => false) [] 0 [] (.slice none 0 0) (.slice none 0 0) :=
  ⟨B.c0, B.c1, B.c2, B.c3, B.fz, World.ownsRow_nil _ _ _ _, World.ownsRow_nil _ _ _ _, B.R, World.block_lt_of_cell? _ _ B.c0, B.R.lt.1, B.R.lt.2.1, B.R.lt.2.2.1, B.R.lt.2.2.2, B.ns, B.np, B.nw, B.nh, Nat.le_refl _⟩
set_option maxRecDepth 100000 in
set_option maxHeartbeats 1000000 in
theorem newBus_any {w : World} {v : Value} {xs : List Int} (X : WordsIn w v xs) (hx : xs.length ≤ 5000) :
    Calls Tryd.prog 11 #[v] w fun e w' => ∃ bb sb bp bw bh : Nat, e = .returned (.pointer (some ⟨bb, 0, none⟩)) ∧ NewBus w' bb sb bp bw bh xs ∧ Below w.heap.size w w' ∧ w.heap.size ≤ bb ∧ w.heap.size ≤ bp ∧ w.heap.size ≤ bh := by
  have hnw := new_ex X hx
  clear X hx
  go_enter Tryd.func11, Tryd.ntmps11
  go_wp2_with fail
  refine hnw.mono ?_
  rintro e w1 ⟨sb, bp, bw, bh, rfl, R, hb, l1, l2⟩
  clear hnw
  go_wp2
  go_ret
  have hA : Below w1.heap.size w1 (w1.alloc (.cells #[.pointer (some ⟨sb, 0, none⟩), .slice none 0 0, .int .u32 0, .slice none 0 0] 73)) := (Below.refl _ _).alloc (Nat.le_refl _) _
  have l := R.lt
  have hz := hb.size
  refine ⟨w1.heap.size, sb, bp, bw, bh, rfl, ⟨by simp, by simp, by simp, by simp, fun j => by simp, R.stays hA (Nat.le_refl _), by omega, by omega, by omega, by omega⟩, hb.trans (hA.mono hz), hz, l1, l2⟩
end Go.Proofs.YtckcbnfobjmhpaaDoor
