/-
  Package ir's gate: load, store, open.
-/
import Derived.Test.YtjjlbpenagobiaaDoorIrByte
import Derived.Test.YtjjlbpenagobiaaDoorIrChk
import Derived.Test.YtjjlbpenagobiaaDoorKeepsPure
import Derived.Test.YtjjlbpenagobiaaDoorBus
import Derived.Test.YtjjlbpenagobiaaDoorSt
namespace Go.Proofs.YtjjlbpenagobiaaDoor
open Go.RowKit Go.Maps
open Num
set_option linter.unusedVariables false
def pdL (p : List Pq) : List Value := p.flatMap fun q => pdC q.1
theorem pdL_len (p : List Pq) : (pdL p).length = p.length * 3 := by
  induction p with
  | nil => rfl
  | cons q p ih => unfold pdL at ih ⊢; rw [List.flatMap_cons, List.length_append, ih]; simp [pdC]; omega
theorem pdL_snoc (p : List Pq) (q : Pq) : pdL (p ++ [q]) = pdL p ++ pdC q.1 := by unfold pdL; rw [List.flatMap_append]; simp
theorem pdL_get : ∀ (p : List Pq) (j : Nat) (q : Pq) (i : Nat), p[j]? = some q → i < 3 → (pdL p)[j * 3 + i]? = (pdC q.1)[i]?
  | [], j, q, i, h, _ => by simp at h
  | r :: p, 0, q, i, h, hi => by
    simp at h; subst h
    show (pdC r.1 ++ pdL p)[0 * 3 + i]? = _
    rw [List.getElem?_append_left (by simp [pdC]; omega)]; simp
  | r :: p, j + 1, q, i, h, hi => by
    show (pdC r.1 ++ pdL p)[(j + 1) * 3 + i]? = _
    rw [List.getElem?_append_right (by simp [pdC]; omega), ← pdL_get p j q i (by simpa using h) hi]
    congr 1; simp [pdC]; omega
/-- a code on its way: registers, memory, what waits -/
structure MAt (w : World) (base mb sb : Nat) (X : Nat → Int) (p : List Pq) (vi : Value) : Prop where
  x : ∀ j, j < 64 → w.cell? ⟨mb, j, none⟩ = some (.int .u32 (X j))
  g0 : w.cell? ⟨mb, 64, none⟩ = some (.pointer (some ⟨sb, 0, none⟩))
  g1 : w.cell? ⟨mb, 65, none⟩ = some vi
  fz : ∀ j, w.frozen? ⟨mb, j, none⟩ = false
  row : w.ownsRow base 98 3 vi p.length (pdL p)
  lb : base ≤ mb
  ne : ∀ k, vi.ownBlock = some k → k ≠ mb
  xb : ∀ j, u32 (X j)
  bs : base ≤ w.heap.size
section
variable {w w' : World} {base mb sb : Nat} {X : Nat → Int} {p : List Pq} {vi : Value}
theorem MAt.lt (M : MAt w base mb sb X p vi) : mb < w.heap.size := World.block_lt_of_cell? _ _ M.g0
theorem MAt.blk (M : MAt w base mb sb X p vi) : ∀ k, vi.ownBlock = some k → k < w.heap.size ∧ base ≤ k := by
  intro k hk
  rcases M.row.2 with ⟨rfl, _⟩ | ⟨g, cap, cur, rfl, hg, hh, _⟩
  · cases hk
  · injection hk with hk; subst hk; exact ⟨(Array.getElem?_eq_some_iff.1 hh).1, hg⟩
theorem MAt.blocks (M : MAt w base mb sb X p vi) (hs : w.heap.size ≤ w'.heap.size) (h : ∀ k, k = mb ∨ vi.ownBlock = some k → w'.heap[k]? = w.heap[k]?) : MAt w' base mb sb X p vi := by
  have hb := h mb (.inl rfl)
  have c : ∀ (j : Nat) (v : Value), w.cell? ⟨mb, j, none⟩ = some v → w'.cell? ⟨mb, j, none⟩ = some v := fun j v e => (World.cell?_of_block (a := ⟨mb, j, none⟩) hb).trans e
  exact ⟨fun j hj => c _ _ (M.x j hj), c _ _ M.g0, c _ _ M.g1, fun j => (World.frozen?_of_block (a := ⟨mb, j, none⟩) hb).trans (M.fz j), owns_blocks M.row (fun k hk => h k (.inr hk)), M.lb, M.ne, M.xb, Nat.le_trans M.bs hs⟩
theorem MAt.stays (M : MAt w base mb sb X p vi) (h : Below w.heap.size w w') : MAt w' base mb sb X p vi :=
  M.blocks h.size (fun k hk => h.block k (by
    rcases hk with rfl | hk
    · exact M.lt
    · exact (M.blk k hk).1))
theorem MAt.drewN (M : MAt w base mb sb X p vi) (n : Nat) : MAt (w.drewN n) base mb sb X p vi := ⟨M.x, M.g0, M.g1, M.fz, M.row, M.lb, M.ne, M.xb, M.bs⟩
theorem MAt.turned {b c : Nat} (M : MAt w base mb sb X p vi) (t : Turned w w' b c) (hb : b < base) (hc : c < base) : MAt w' base mb sb X p vi :=
  M.blocks t.size (fun k hk => t.block k (by
    rcases hk with rfl | hk
    · exact M.lt
    · exact (M.blk k hk).1) (by
    rcases hk with rfl | hk
    · have := M.lb; omega
    · have := M.blk k hk; omega) (by
    rcases hk with rfl | hk
    · have := M.lb; omega
    · have := M.blk k hk; omega))
theorem MAt.pd (M : MAt w base mb sb X p vi) : PdIn w.heap.size w vi p := by
  rcases M.row.2 with ⟨rfl, h⟩ | ⟨g, cap, cur, rfl, hg, hh, hn, _⟩
  · exact .inl ⟨rfl, List.length_eq_zero_iff.1 h⟩
  · refine .inr ⟨g, 0, cap, rfl, (Array.getElem?_eq_some_iff.1 hh).1, fun j q hq => ?_⟩
    have c : ∀ i, i < 3 → ∀ u, (pdC q.1)[i]? = some u → w.cell? ⟨g, 0 + j * 3 + i, none⟩ = some u := by
      intro i hi u hu
      have := M.row.cells (g := g) rfl (j * 3 + i) u (by rw [pdL_get p j q i hq hi]; exact hu)
      rw [add_lit] at this
      rw [Nat.zero_add]; exact this
    exact ⟨c 0 (by omega) _ rfl, c 1 (by omega) _ rfl, c 2 (by omega) _ rfl⟩
end
theorem or_byte (v b : Int) (h0 : 0 ≤ v) (h1 : v < 16777216) (b0 : 0 ≤ b) (b1 : b < 256) : bits .or .u32 (v * 256) b = v * 256 + b := by
  obtain ⟨n, rfl⟩ : ∃ n : Nat, v = n := ⟨v.toNat, by omega⟩
  obtain ⟨k, rfl⟩ : ∃ n : Nat, b = n := ⟨b.toNat, by omega⟩
  have e : (n : Int) * 256 = ((n * 256 : Nat) : Int) := by rw [Int.natCast_mul]; rfl
  rw [e, u32_or_nat _ _ (by omega) (by omega), nat_join 8 (n * 256) k (by omega) (by omega), Int.natCast_add]
theorem byV_bd (f : Int → Int) (a : Int) (hf : ∀ x, 0 ≤ f x ∧ f x < 256) : ∀ n, 0 ≤ byV f a n ∧ byV f a n < 256 ^ n
  | 0 => by simp [byV]
  | n + 1 => by
    have := byV_bd f a hf n
    have h := hf (a + n)
    rw [byV, Int.pow_succ]
    omega
section
variable {w : World} {base mb sb bp bw bh N : Nat} {X : Nat → Int} {p : List Pq} {vi : Value} {m : Nat → Int} {wt ht : Int → Bool}
theorem pq_ok (p : List Pq) : ∀ q ∈ pqs p, q.ok := by
  intro q hq
  obtain ⟨r, _, rfl⟩ := List.mem_map.1 hq
  exact r.2
theorem byte_is (R : RamIs w sb bp bw bh N m wt ht) (x : Int) (h0 : 0 ≤ x) : lastB m x (pqs p).reverse = ld (vw m (pqs p)) x 1 false := by
  have := vw_byte R.mb x h0 (pqs p).reverse (fun q hq => pq_ok p q (List.mem_reverse.1 hq))
  rw [List.reverse_reverse] at this
  exact this.symm
set_option maxRecDepth 100000 in
set_option maxHeartbeats 4000000 in
theorem gload_ok (R : RamIs w sb bp bw bh N m wt ht) (G : MAt w base mb sb X p vi) (hp : p.length ≤ 1000000) (a s : Int) (sg : Bool) (h0 : 0 ≤ a) (h1 : a < 4294967296) (hc : chk a s = 0) :
    Calls Tryd.prog 35 #[.pointer (some ⟨mb, 64, none⟩), .int .u32 a, .int .i64 s, .bool sg] w fun e w' => e = .returned (.tuple #[.int .u32 (ld (vw m (pqs p)) a s sg), .bool true]) ∧ Below w.heap.size w w' := by
  obtain ⟨hs, hm, hf⟩ := chk_ok hc
  have HF : Hid (ld (vw m (pqs p)) a s sg = wd (byV (fun x => ld (vw m (pqs p)) x 1 false) a s.toNat) (8 * s) sg) := ld_bytes _ a s sg hc h0 (vw_bd R.mb _ (pq_ok p))
  have hfb : ∀ x, 0 ≤ ld (vw m (pqs p)) x 1 false ∧ ld (vw m (pqs p)) x 1 false < 256 := fun x => ld1_bd _ x
  have hby : ∀ w', Below w.heap.size w w' → ∀ x, 0 ≤ x → x < 16384 → Calls Tryd.prog 46 #[.pointer (some ⟨mb, 64, none⟩), .int .u32 x] w' fun e w'' => e = .returned (.int .u32 (ld (vw m (pqs p)) x 1 false)) ∧ Below w'.heap.size w' w'' := by
    intro w' hb x x0 x1
    have R' := R.stays hb (Nat.le_refl _)
    have G' := G.stays hb
    have := byteAt_any R' mb 64 vi p hp G'.g0 G'.g1 G'.pd x x0 x1
    rw [byte_is R x x0] at this
    exact this
  have hld := load_ok R a s sg h0 h1 hc
  have g0 := G.g0
  have hs' : 1 ≤ s ∧ s ≤ 4 := by omega
  have hlim : ∀ k : Nat, (k : Int) < s → a + k < 16384 := by intro k hk; rcases hs with rfl | rfl | rfl <;> omega
  obtain ⟨s0, s1⟩ := hs'
  generalize vw m (pqs p) = M at *
  have hbv := byV_bd (fun x => ld M x 1 false) a hfb
  have HBV : Hid (∀ n, 0 ≤ byV (fun x => ld M x 1 false) a n ∧ byV (fun x => ld M x 1 false) a n < 256 ^ n) := hbv
  clear R G hs hm hc hbv
  go_enter Tryd.func35, Tryd.ntmps35
  go_wp2_with (go_at_call 45; refine hld.mono ?_; rintro e w' ⟨rfl, nq, rfl⟩)
  clear hld
  go_loopw [12, 29] (fun v i wr => ∃ k : Nat, (k : Int) ≤ s ∧ i = .int .u32 k ∧ v = .int .u32 (byV (fun x => ld M x 1 false) a k) ∧ Below w.heap.size w wr) (fun _ i _ => s.toNat - (intOf i).toNat)
  case atStart => exact ⟨0, by omega, rfl, rfl, below_drewN (Below.refl _ _) _⟩
  case round =>
    obtain ⟨k, hk, rfl, rfl, hB⟩ := hrel
    have hv := HBV.out k
    by_cases hlt : (k : Int) < s
    · have hk3 : k ≤ 3 := by omega
      have hv1 : byV (fun x => ld M x 1 false) a k < 16777216 := by
        have : (256 : Int) ^ k ≤ 256 ^ 3 := by
          have : k = 0 ∨ k = 1 ∨ k = 2 ∨ k = 3 := by omega
          rcases this with rfl | rfl | rfl | rfl <;> decide
        have e : (256 : Int) ^ 3 = 16777216 := by decide
        omega
      have hv0 := hv.1
      have hbb := hfb (a + k)
      have HE : Hid (byV (fun x => ld M x 1 false) a (k + 1) = byV (fun x => ld M x 1 false) a k * 256 + ld M (a + k) 1 false) := rfl
      have hcl := hby wr hB (a + k) (by omega) (hlim k hlt)
      have hor := or_byte (byV (fun x => ld M x 1 false) a k) (ld M (a + k) 1 false) hv0 hv1 hbb.1 hbb.2
      have hlm := hlim k hlt
      generalize byV (fun x => ld M x 1 false) a k = V at *
      clear hby hlim hv
      go_wp2_with fail
      refine hcl.mono ?_
      rintro e w2 ⟨rfl, hb2⟩
      have hz2 := hb2.size
      go_wp2
      go_roundw
      case rel => exact ⟨k + 1, by omega, by go_num, by rw [HE.out], hB.trans (hb2.mono (by have := hB.size; omega))⟩
      case measure => simp [intOf]; omega
    · have hks : (k : Int) = s := by omega
      have hk4 : byV (fun x => ld M x 1 false) a k < 4294967296 := by
        have : (256 : Int) ^ k ≤ 256 ^ 4 := by
          have : k = 1 ∨ k = 2 ∨ k = 4 ∨ k = 3 := by omega
          rcases this with rfl | rfl | rfl | rfl <;> decide
        have e : (256 : Int) ^ 4 = 4294967296 := by decide
        omega
      have HK : Hid (k = s.toNat) := by show _ = _; omega
      have hv0 := hv.1
      have hwd := wide_any (byV (fun x => ld M x 1 false) a k) (8 * s) sg hv0 hk4
      clear hby hlim hfb hks hv
      have hlt' : ¬ (k : Int) < s := hlt
      go_wp2_with (go_at_call 47; refine (hwd _).mono ?_; rintro e w' ⟨rfl, rfl⟩)
      go_ret2
      exact ⟨by rw [HF.out, ← HK.out]; rfl, hB⟩
set_option maxRecDepth 100000 in
set_option maxHeartbeats 1000000 in
theorem gload_no (pe : Nat → Addr) (E : Eg pe w) (G : MAt w base mb sb X p vi) (a s : Int) (sg : Bool) (h0 : 0 ≤ a) (h1 : a < 4294967296) (s0 : -9223372036854775808 ≤ s) (s1 : s ≤ 9223372036854775807) (hc : chk a s ≠ 0) :
    Calls Tryd.prog 35 #[.pointer (some ⟨mb, 64, none⟩), .int .u32 a, .int .i64 s, .bool sg] w fun e w' => e = .returned (.tuple #[.int .u32 0, .bool false]) ∧ Below w.heap.size w w' := by
  have hld := load_no _ _ _ E.er (.pointer (some ⟨sb, 0, none⟩)) a s sg h0 h1 s0 s1 hc
  have g0 := G.g0
  clear G hc
  go_enter Tryd.func35, Tryd.ntmps35
  go_wp2_with (go_at_call 45; refine hld.mono ?_; rintro e w' ⟨rfl, rfl⟩)
  go_ret2
  exact ⟨rfl, Below.refl _ _⟩
set_option maxRecDepth 100000 in
set_option maxHeartbeats 1000000 in
theorem gstore_no (pe : Nat → Addr) (E : Eg pe w) (R : RamIs w sb bp bw bh N m wt ht) (G : MAt w base mb sb X p vi) (a s v : Int) (h0 : 0 ≤ a) (h1 : a < 4294967296) (s0 : -9223372036854775808 ≤ s) (s1 : s ≤ 9223372036854775807) (hc : ¬ (chk a s = 0 ∧ wt (a / 256) = false)) :
    Calls Tryd.prog 36 #[.pointer (some ⟨mb, 64, none⟩), .int .u32 a, .int .i64 s, .int .u32 v] w fun e w' => e = .returned (.bool false) ∧ Below w.heap.size w w' := by
  have g0 := G.g0
  by_cases hk : chk a s = 0
  · have hw : wt (a / 256) = true := by
      cases h : wt (a / 256) with
      | true => rfl
      | false => exact absurd ⟨hk, h⟩ hc
    have hld := load_ok R a s false h0 h1 hk
    have hwt := fun n => watched_any (R.drewN n) a h0 h1
    rw [hw] at hwt
    have hzw := G.lt
    clear G R hc hw
    go_enter Tryd.func36, Tryd.ntmps36
    go_wp2_with (go_at_call 45; refine hld.mono ?_; rintro e w' ⟨rfl, nq, rfl⟩)
    refine (hwt _).mono ?_
    rintro e w2 ⟨rfl, hb2⟩
    go_wp2
    go_ret
    exact ⟨rfl, (below_drewN (Below.refl _ _) _).trans hb2⟩
  · have hld := load_no _ _ _ E.er (.pointer (some ⟨sb, 0, none⟩)) a s false h0 h1 s0 s1 hk
    clear G R hc hk
    go_enter Tryd.func36, Tryd.ntmps36
    go_wp2_with (go_at_call 45; refine hld.mono ?_; rintro e w' ⟨rfl, rfl⟩)
    go_ret
    exact ⟨rfl, Below.refl _ _⟩
/-- w' is w but for the run's own blocks, and new ones -/
structure Kx (w w' : World) (mb : Nat) (vi : Value) : Prop where
  os : w'.os = w.os
  tape : w'.tape = w.tape
  output : w'.output = w.output
  size : w.heap.size ≤ w'.heap.size
  block : ∀ k, k < w.heap.size → k ≠ mb → vi.ownBlock ≠ some k → w'.heap[k]? = w.heap[k]?
theorem Kx.alloc (w : World) (o : Obj) (mb : Nat) (vi : Value) : Kx w (w.alloc o) mb vi := ⟨rfl, rfl, rfl, by simp, fun k hk _ _ => Below.heap_alloc w o k hk⟩
theorem Kx.drew {w w' : World} {mb : Nat} {vi : Value} (h : Kx w w' mb vi) : Kx w w'.drew mb vi := ⟨h.os, h.tape, h.output, h.size, h.block⟩
theorem Kx.setCell {w w' : World} {mb : Nat} {vi : Value} (h : Kx w w' mb vi) (j : Nat) (v : Value) : Kx w (w'.setCell ⟨mb, j, none⟩ v) mb vi :=
  ⟨h.os, h.tape, h.output, by simp; exact h.size, fun k hk k1 k2 => (Below.heap_setCell w' ⟨mb, j, none⟩ v k k1).trans (h.block k hk k1 k2)⟩
theorem Kx.trans {w w1 w2 : World} {mb : Nat} {vi : Value} (h : Kx w w1 mb vi) (g : Kx w1 w2 mb vi) : Kx w w2 mb vi :=
  ⟨g.os.trans h.os, g.tape.trans h.tape, g.output.trans h.output, Nat.le_trans h.size g.size, fun k hk k1 k2 => (g.block k (Nat.lt_of_lt_of_le hk h.size) k1 k2).trans (h.block k hk k1 k2)⟩
theorem Kx.below {w w1 w2 : World} {mb : Nat} {vi : Value} (h : Kx w w1 mb vi) (g : Below w1.heap.size w1 w2) : Kx w w2 mb vi :=
  ⟨g.os.trans h.os, g.tape.trans h.tape, g.output.trans h.output, Nat.le_trans h.size g.size, fun k hk k1 k2 => (g.block k (Nat.lt_of_lt_of_le hk h.size)).trans (h.block k hk k1 k2)⟩
theorem own_pos {w : World} {base : Nat} {e : TypeId} {size n : Nat} {v : Value} {xs : List Value} (h : w.ownsRow base e size v (n + 1) xs) : ∃ g cap, v = .slice (some ⟨g, 0, none⟩) (n + 1) cap := by
  rcases h.2 with ⟨_, h⟩ | ⟨g, cap, cur, rfl, _⟩
  · omega
  · exact ⟨g, cap, rfl⟩
theorem infoPd : (Tryd.prog.info? 98).map (fun i => (i.zero, i.size, i.bytes)) = some (some (.agg #[.int .u32 0, .int .i64 0, .int .u32 0]), 3, 24) := by kernel_rfl
theorem MAt.wait {w w1 : World} {v' : Value} (M : MAt w base mb sb X p vi) (q : Pq) (hg : w.grownBy w1 vi.ownBlock) (hr : w1.ownsRow base 98 3 v' (p.length + 1) (pdL p ++ pdC q.1)) (hm : Moved w vi v') : MAt (w1.setCell ⟨mb, 65, none⟩ v') base mb sb X (p ++ [q]) v' := by
  have hb : w1.heap[mb]? = w.heap[mb]? := hg.block mb M.lt (fun e => M.ne mb e.symm rfl)
  have c : ∀ (j : Nat) (v : Value), w.cell? ⟨mb, j, none⟩ = some v → w1.cell? ⟨mb, j, none⟩ = some v := fun j v e => (World.cell?_of_block (a := ⟨mb, j, none⟩) hb).trans e
  have o : ∀ (j : Nat) (v : Value), j ≠ 65 → w1.cell? ⟨mb, j, none⟩ = some v → (w1.setCell ⟨mb, 65, none⟩ v').cell? ⟨mb, j, none⟩ = some v := fun j v hj e => by
    rw [World.cell?_setCell_other _ _ _ _ (by intro e'; injection e' with e1 e2; exact hj e2.symm)]; exact e
  have hne : ∀ k, v'.ownBlock = some k → k ≠ mb := by
    intro k hk
    rcases hm k hk with h | h
    · exact M.ne k h
    · have := M.lt; omega
  refine ⟨fun j hj => o _ _ (by omega) (c _ _ (M.x j hj)), o _ _ (by omega) (c _ _ M.g0), World.cell?_setCell_same _ _ _ (c _ _ M.g1), fun j => by rw [World.frozen?_setCell]; exact (World.frozen?_of_block (a := ⟨mb, j, none⟩) hb).trans (M.fz j), ?_, M.lb, hne, M.xb, by simp; exact Nat.le_trans M.bs hg.size⟩
  rw [pdL_snoc, List.length_append]
  exact owns_blocks hr (fun k hk => Below.heap_setCell w1 ⟨mb, 65, none⟩ v' k (fun e => hne k hk e))
set_option maxRecDepth 100000 in
set_option maxHeartbeats 2000000 in
theorem gstore_ok (R : RamIs w sb bp bw bh N m wt ht) (G : MAt w base mb sb X p vi) (hp : p.length ≤ 1000) (a s v : Int) (h0 : 0 ≤ a) (h1 : a < 4294967296) (v0 : 0 ≤ v) (v1 : v < 4294967296) (hc : chk a s = 0) (hw : wt (a / 256) = false) :
    Calls Tryd.prog 36 #[.pointer (some ⟨mb, 64, none⟩), .int .u32 a, .int .i64 s, .int .u32 v] w fun e w' => e = .returned (.bool true) ∧ ∃ vi', MAt w' base mb sb X (p ++ [⟨⟨a, s, v⟩, ⟨hc, h0, v0, v1⟩⟩]) vi' ∧ Moved w vi vi' ∧ Kx w w' mb vi := by
  have hld := load_ok R a s false h0 h1 hc
  have hwt := fun n => watched_any (R.drewN n) a h0 h1
  rw [hw] at hwt
  have hzw := G.lt
  have g0 := G.g0
  have hbs := G.bs
  have GH := fun n => G.drewN n
  obtain ⟨i0, hi, hz0, hz1, hz2⟩ := info_parts infoPd
  clear R hw
  go_enter Tryd.func36, Tryd.ntmps36
  go_wp2_with (go_at_call 45; refine hld.mono ?_; rintro e w' ⟨rfl, nq, rfl⟩)
  refine (hwt _).mono ?_
  rintro e w2 ⟨rfl, hb2⟩
  have G2 : Hid (MAt w2 base mb sb X p vi) := (GH nq).stays hb2
  have HK2 : Hid (Below w.heap.size w w2) := (below_drewN (Below.refl _ _) nq).trans hb2
  have hz2' : base ≤ w2.heap.size := G2.out.bs
  have g1 := G2.out.g1
  have f1 := G2.out.fz 65
  have hmb : mb < w2.heap.size := G2.out.lt
  clear GH G g0 hld hwt hb2
  have hnews : ∀ (j : Nat) (u : Value), (pdC ⟨a, s, v⟩)[j]? = some u → (w2.alloc (.cells #[.int .u32 a, .int .i64 s, .int .u32 v] 98)).cell? ((⟨w2.heap.size, 0, none⟩ : Addr).add j) = some u := by
    intro j u hj
    rw [add_lit, cell_of_row _ _ _ _ _ _ (heap_alloc_new w2 _)]
    simpa [pdC] using hj
  go_wp2_with (at_builtin; refine wpList_append_moved rfl _ _ 57 rfl base 98 i0 (.agg #[.int .u32 0, .int .i64 0, .int .u32 0]) 3 24 Tryd.underlying57 hi hz0 hz1 hz2 rfl (by decide) vi p.length (pdL p) rfl (G2.out.row.alloc _) ⟨w2.heap.size, 0, none⟩ 1 1 (pdC ⟨a, s, v⟩) rfl rfl hnews (by simp [pdC, Value.oneCell']) (by unfold maxLen; omega) (by omega) (by simp; omega) ?_; intro v' w3 ho hg hm; obtain ⟨g', cap', rfl⟩ := own_pos ho; have hbk : w3.heap[mb]? = (w2.alloc (.cells #[.int .u32 a, .int .i64 s, .int .u32 v] 98)).heap[mb]? := hg.block mb (by simp; omega) (fun e => G2.out.ne mb e.symm rfl); have hc1 : w3.cell? ⟨mb, 65, none⟩ = some vi := (World.cell?_of_block (a := ⟨mb, 65, none⟩) hbk).trans ((World.grownBy_alloc w2 _ none).cell g1 (by simp)); have hf1 : w3.frozen? ⟨mb, 65, none⟩ = false := (World.frozen?_of_block (a := ⟨mb, 65, none⟩) hbk).trans ((((Below.refl w2.heap.size w2).alloc (Nat.le_refl _) _).frozen (p := ⟨mb, 65, none⟩) hmb).trans f1))
  go_ret
  have GA := G2.out.stays ((Below.refl w2.heap.size w2).alloc (Nat.le_refl _) (.cells #[.int .u32 a, .int .i64 s, .int .u32 v] 98))
  refine ⟨rfl, _, GA.wait ⟨⟨a, s, v⟩, ⟨hc, h0, v0, v1⟩⟩ hg ho hm, ?_⟩
  refine ⟨fun k hk => ?_, hg.os.trans HK2.out.os, hg.tape.trans HK2.out.tape, hg.output.trans HK2.out.output, ?_, fun k hk hm1 hv1 => ?_⟩
  · rcases hm k hk with h | h
    · exact .inl h
    · exact .inr (by have := HK2.out.size; simp at h; omega)
  · have := HK2.out.size; have := hg.size; simp at this ⊢; omega
  · have hk2 : k < w2.heap.size := Nat.lt_of_lt_of_le hk HK2.out.size
    rw [Below.heap_setCell w3 ⟨mb, 65, none⟩ _ k hm1, hg.block k (by simp; omega) (fun e => hv1 e.symm), Below.heap_alloc w2 _ k hk2]
    exact HK2.out.block k hk
end
end Go.Proofs.YtjjlbpenagobiaaDoor
