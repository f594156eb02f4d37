/-
  Package ir's gate, within a Guest: load, admits, hold.
-/
import Derived.Test.YtkehhlibkebomaaDoorQIrChk
import Derived.Test.YtkehhlibkebomaaDoorKApp
import Derived.Test.YtkehhlibkebomaaDoorKSerial
import Derived.Test.YtkehhlibkebomaaDoorKValBd
import Derived.Test.YtkehhlibkebomaaDoorKPl1
import Derived.Test.YtkehhlibkebomaaDoorKPartsWalk
import Derived.Test.YtkehhlibkebomaaDoorQIrByte
namespace Go.Proofs.YtkehhlibkebomaaDoor
open Go.RowKit Go.Maps
open Num
set_option linter.unusedVariables false
theorem wpPlanZ_skipG {P : Program} {ops : Array Oper} {Q : Exit → Act → World → Prop} {C : World → Prop} {z : Nat} {on : Bool} {i k : Nat} {rest : List (Nat × Nat)} {a : Act} {w : World} {o : Oper} (ho : ops[i]? = some o) (hwt : Region.wanted o (yielded ops a.tmps) = false) (h : ∀ K : Act → Prop, (∀ a', wpPlanZ P ops C z Q (on && i != z) rest a' w → K a') → K (a.put o.dst undef)) : wpPlanZ P ops C z Q on ((i, k) :: rest) a w :=
  ⟨o, ho, by unfold oneZ; rw [if_neg (by simp [hwt])]; exact h _ (fun _ h => h)⟩
theorem oper_append_movedG {P : Program} {o : Oper} {a : Act} {w : World} {K : Act → World → Prop} {Q : Exit → Act → World → Prop} (s x : Operand) (t : TypeId)
    (ho : o.op = .call { callee := .builtin .append, args := #[s, x], argTypes := #[t, t] })
    (base : Nat) (e : TypeId) (i : TypeInfo) (z : Value) (size bytes : Nat) (ht : P.underlying t = some (.slice e)) (hi : P.info? e = some i) (hz : i.zero = some z)
    (hsize : i.size = size) (hby : i.bytes = bytes) (hzs : z.cells.size = size) (hsz : 0 < size)
    (v : Value) (n : Nat) (xs : List Value) (hs : a.eval s = v) (hown : w.ownsRow base e size v n xs)
    (ad : Addr) (m c : Nat) (news : List Value) (hx : a.eval x = .slice (some ad) m c) (hl : news.length = m * size) (hnews : ∀ j u, news[j]? = some u → w.cell? (ad.add j) = some u) (h1 : ∀ u ∈ news, u.oneCell' = true)
    (h63 : n + m ≤ maxLen) (hbytes : (n + m) * bytes ≤ 140737488355328) (hbase : base ≤ w.heap.size)
    (h : ∀ v' w', w'.ownsRow base e size v' (n + m) (xs ++ news) → w.grownBy w' v.ownBlock → Moved w v v' → K (a.put o.dst v') w') : Oper.wp P o a w K Q := by
  obtain ⟨v', w', hr, h2, h3, h4⟩ := run_append_moved (P := P) w base t o.type e i z size bytes ht hi hz hsize hby hzs hsz v n xs hown ad m c news hl hnews h1 h63 hbytes hbase
  unfold Oper.wp execOp
  simp only [ho, resolve, invoke, builtin, Sem.run_bind, Sem.run_pure, Result.andThen_ok, List.map_toArray, List.map_cons, List.map_nil, hs, hx, hr]
  exact h v' w' h2 h3 h4
def pdL (p : List Pq) : List Value := p.flatMap fun q => pdC q.1
theorem pdL_snoc (p : List Pq) (q : Pq) : pdL (p ++ [q]) = pdL p ++ pdC q.1 := by unfold pdL; rw [List.flatMap_append]; simp
theorem pdL_get : ∀ (p : List Pq) (j : Nat) (q : Pq) (i : Nat), p[j]? = some q → i < 3 → (pdL p)[j * 3 + i]? = (pdC q.1)[i]?
  | [], j, q, i, h, _ => by simp at h
  | r :: p, 0, q, i, h, hi => by
    simp at h; subst h
    show (pdC r.1 ++ pdL p)[0 * 3 + i]? = _
    rw [List.getElem?_append_left (by simp [pdC]; omega)]; simp
  | r :: p, j + 1, q, i, h, hi => by
    show (pdC r.1 ++ pdL p)[(j + 1) * 3 + i]? = _
    rw [List.getElem?_append_right (by simp [pdC]; omega), ← pdL_get p j q i (by simpa using h) hi]
    congr 1; simp [pdC]; omega
/-- a code on its way: registers, memory, what waits -/
structure GAt (w : World) (base mb stb sb : Nat) (X : Nat → Int) (p : List Pq) (vi : Value) : Prop where
  x : ∀ j, j < 64 → w.cell? ⟨mb, 1 + j, none⟩ = some (.int .u32 (X j))
  s0 : w.cell? ⟨mb, 0, none⟩ = some (.pointer (some ⟨stb, 0, none⟩))
  g0 : w.cell? ⟨mb, 65, none⟩ = some (.pointer (some ⟨sb, 0, none⟩))
  g1 : w.cell? ⟨mb, 66, none⟩ = some vi
  fz : ∀ j, w.frozen? ⟨mb, j, none⟩ = false
  row : w.ownsRow base 60 3 vi p.length (pdL p)
  lb : base ≤ mb
  ne : ∀ k, vi.ownBlock = some k → k ≠ mb
  xb : ∀ j, u32 (X j)
  bs : base ≤ w.heap.size
section
variable {w w' : World} {base mb stb sb : Nat} {X : Nat → Int} {p : List Pq} {vi : Value}
theorem GAt.lt (M : GAt w base mb stb sb X p vi) : mb < w.heap.size := World.block_lt_of_cell? _ _ M.g0
theorem GAt.blk (M : GAt w base mb stb sb X p vi) : ∀ k, vi.ownBlock = some k → k < w.heap.size ∧ base ≤ k := by
  intro k hk
  rcases M.row.2 with ⟨rfl, _⟩ | ⟨g, cap, cur, rfl, hg, hh, _⟩
  · cases hk
  · injection hk with hk; subst hk; exact ⟨(Array.getElem?_eq_some_iff.1 hh).1, hg⟩
theorem GAt.blocks (M : GAt w base mb stb sb X p vi) (hs : w.heap.size ≤ w'.heap.size) (h : ∀ k, k = mb ∨ vi.ownBlock = some k → w'.heap[k]? = w.heap[k]?) : GAt w' base mb stb sb X p vi := by
  have hb := h mb (.inl rfl)
  have c : ∀ (j : Nat) (v : Value), w.cell? ⟨mb, j, none⟩ = some v → w'.cell? ⟨mb, j, none⟩ = some v := fun j v e => (World.cell?_of_block (a := ⟨mb, j, none⟩) hb).trans e
  exact ⟨fun j hj => c _ _ (M.x j hj), c _ _ M.s0, c _ _ M.g0, c _ _ M.g1, fun j => (World.frozen?_of_block (a := ⟨mb, j, none⟩) hb).trans (M.fz j), owns_blocks M.row (fun k hk => h k (.inr hk)), M.lb, M.ne, M.xb, Nat.le_trans M.bs hs⟩
theorem GAt.stays (M : GAt w base mb stb sb X p vi) (h : Below w.heap.size w w') : GAt w' base mb stb sb X p vi :=
  M.blocks h.size (fun k hk => h.block k (by
    rcases hk with rfl | hk
    · exact M.lt
    · exact (M.blk k hk).1))
theorem GAt.drewN (M : GAt w base mb stb sb X p vi) (n : Nat) : GAt (w.drewN n) base mb stb sb X p vi := ⟨M.x, M.s0, M.g0, M.g1, M.fz, M.row, M.lb, M.ne, M.xb, M.bs⟩
theorem GAt.turned {b c : Nat} (M : GAt w base mb stb sb X p vi) (t : Turned w w' b c) (hb : b < base) (hc : c < base) : GAt w' base mb stb sb X p vi :=
  M.blocks t.size (fun k hk => t.block k (by
    rcases hk with rfl | hk
    · exact M.lt
    · exact (M.blk k hk).1) (by
    rcases hk with rfl | hk
    · have := M.lb; omega
    · have := M.blk k hk; omega) (by
    rcases hk with rfl | hk
    · have := M.lb; omega
    · have := M.blk k hk; omega))
theorem GAt.pd (M : GAt w base mb stb sb X p vi) : PdIn w.heap.size w vi p := by
  rcases M.row.2 with ⟨rfl, h⟩ | ⟨g, cap, cur, rfl, hg, hh, hn, _⟩
  · exact .inl ⟨rfl, List.length_eq_zero_iff.1 h⟩
  · refine .inr ⟨g, 0, cap, rfl, (Array.getElem?_eq_some_iff.1 hh).1, fun j q hq => ?_⟩
    have c : ∀ i, i < 3 → ∀ u, (pdC q.1)[i]? = some u → w.cell? ⟨g, 0 + j * 3 + i, none⟩ = some u := by
      intro i hi u hu
      have := M.row.cells (g := g) rfl (j * 3 + i) u (by rw [pdL_get p j q i hq hi]; exact hu)
      rw [add_lit] at this
      rw [Nat.zero_add]; exact this
    exact ⟨c 0 (by omega) _ rfl, c 1 (by omega) _ rfl, c 2 (by omega) _ rfl⟩
end
theorem or_byte (v b : Int) (h0 : 0 ≤ v) (h1 : v < 16777216) (b0 : 0 ≤ b) (b1 : b < 256) : bits .or .u32 (v * 256) b = v * 256 + b := by
  obtain ⟨n, rfl⟩ : ∃ n : Nat, v = n := ⟨v.toNat, by omega⟩
  obtain ⟨k, rfl⟩ : ∃ n : Nat, b = n := ⟨b.toNat, by omega⟩
  have e : (n : Int) * 256 = ((n * 256 : Nat) : Int) := by rw [Int.natCast_mul]; rfl
  rw [e, u32_or_nat _ _ (by omega) (by omega), nat_join 8 (n * 256) k (by omega) (by omega), Int.natCast_add]
theorem byV_bd (f : Int → Int) (a : Int) (hf : ∀ x, 0 ≤ f x ∧ f x < 256) : ∀ n, 0 ≤ byV f a n ∧ byV f a n < 256 ^ n
  | 0 => by simp [byV]
  | n + 1 => by
    have := byV_bd f a hf n
    have h := hf (a + n)
    rw [byV, Int.pow_succ]
    omega
section
variable {w : World} {base mb stb sb bp bw bh N : Nat} {X : Nat → Int} {p : List Pq} {vi : Value} {m : Nat → Int} {wt ht : Int → Bool}
theorem pq_ok (p : List Pq) : ∀ q ∈ pqs p, q.ok := by
  intro q hq
  obtain ⟨r, _, rfl⟩ := List.mem_map.1 hq
  exact r.2
theorem byte_is (R : RamIs w sb bp bw bh N m wt ht) (x : Int) (h0 : 0 ≤ x) : lastB m x (pqs p).reverse = ld (vw m (pqs p)) x 1 false := by
  have := vw_byte R.mb x h0 (pqs p).reverse (fun q hq => pq_ok p q (List.mem_reverse.1 hq))
  rw [List.reverse_reverse] at this
  exact this.symm
set_option maxRecDepth 100000 in
set_option maxHeartbeats 4000000 in
theorem gload_ok (R : RamIs w sb bp bw bh N m wt ht) (G : GAt w base mb stb sb X p vi) (hp : p.length ≤ 1000000) (a s : Int) (sg : Bool) (h0 : 0 ≤ a) (h1 : a < 4294967296) (hc : chk a s = 0) :
    Calls Tryd.prog 29 #[.pointer (some ⟨mb, 65, none⟩), .int .u32 a, .int .i64 s, .bool sg] w fun e w' => e = .returned (.tuple #[.int .u32 (ld (vw m (pqs p)) a s sg), .bool true]) ∧ Below w.heap.size w w' := by
  obtain ⟨hs, hm, hf⟩ := chk_ok hc
  have HF : Hid (ld (vw m (pqs p)) a s sg = wd (byV (fun x => ld (vw m (pqs p)) x 1 false) a s.toNat) (8 * s) sg) := ld_bytes _ a s sg hc h0 (vw_bd R.mb _ (pq_ok p))
  have hfb : ∀ x, 0 ≤ ld (vw m (pqs p)) x 1 false ∧ ld (vw m (pqs p)) x 1 false < 256 := fun x => ld1_bd _ x
  have hby : ∀ w', Below w.heap.size w w' → ∀ x, 0 ≤ x → x < 16384 → Calls Tryd.prog 42 #[.pointer (some ⟨mb, 65, none⟩), .int .u32 x] w' fun e w'' => e = .returned (.int .u32 (ld (vw m (pqs p)) x 1 false)) ∧ Below w'.heap.size w' w'' := by
    intro w' hb x x0 x1
    have R' := R.stays hb (Nat.le_refl _)
    have G' := G.stays hb
    have := byteAt_any R' mb 65 vi p hp G'.g0 G'.g1 G'.pd x x0 x1
    rw [byte_is R x x0] at this
    exact this
  have hld := load_ok R a s sg h0 h1 hc
  have g0 := G.g0
  have hs' : 1 ≤ s ∧ s ≤ 4 := by omega
  have hlim : ∀ k : Nat, (k : Int) < s → a + k < 16384 := by intro k hk; rcases hs with rfl | rfl | rfl <;> omega
  obtain ⟨s0, s1⟩ := hs'
  generalize vw m (pqs p) = M at *
  have hbv := byV_bd (fun x => ld M x 1 false) a hfb
  have HBV : Hid (∀ n, 0 ≤ byV (fun x => ld M x 1 false) a n ∧ byV (fun x => ld M x 1 false) a n < 256 ^ n) := hbv
  clear R G hs hm hc hbv
  go_enter Tryd.func29, Tryd.ntmps29
  go_wp2_with (go_at_call 41; refine hld.mono ?_; rintro e w' ⟨rfl, nq, rfl⟩)
  clear hld
  go_loopw [12, 29] (fun v i wr => ∃ k : Nat, (k : Int) ≤ s ∧ i = .int .u32 k ∧ v = .int .u32 (byV (fun x => ld M x 1 false) a k) ∧ Below w.heap.size w wr) (fun _ i _ => s.toNat - (intOf i).toNat)
  case atStart => exact ⟨0, by omega, rfl, rfl, below_drewN (Below.refl _ _) _⟩
  case round =>
    obtain ⟨k, hk, rfl, rfl, hB⟩ := hrel
    have hv := HBV.out k
    by_cases hlt : (k : Int) < s
    · have hk3 : k ≤ 3 := by omega
      have hv1 : byV (fun x => ld M x 1 false) a k < 16777216 := by
        have : (256 : Int) ^ k ≤ 256 ^ 3 := by
          have : k = 0 ∨ k = 1 ∨ k = 2 ∨ k = 3 := by omega
          rcases this with rfl | rfl | rfl | rfl <;> decide
        have e : (256 : Int) ^ 3 = 16777216 := by decide
        omega
      have hv0 := hv.1
      have hbb := hfb (a + k)
      have HE : Hid (byV (fun x => ld M x 1 false) a (k + 1) = byV (fun x => ld M x 1 false) a k * 256 + ld M (a + k) 1 false) := rfl
      have hcl := hby wr hB (a + k) (by omega) (hlim k hlt)
      have hor := or_byte (byV (fun x => ld M x 1 false) a k) (ld M (a + k) 1 false) hv0 hv1 hbb.1 hbb.2
      have hlm := hlim k hlt
      generalize byV (fun x => ld M x 1 false) a k = V at *
      clear hby hlim hv
      go_wp2_with fail
      refine hcl.mono ?_
      rintro e w2 ⟨rfl, hb2⟩
      have hz2 := hb2.size
      go_wp2
      go_roundw
      case rel => exact ⟨k + 1, by omega, by go_num, by rw [HE.out], hB.trans (hb2.mono (by have := hB.size; omega))⟩
      case measure => simp [intOf]; omega
    · have hks : (k : Int) = s := by omega
      have hk4 : byV (fun x => ld M x 1 false) a k < 4294967296 := by
        have : (256 : Int) ^ k ≤ 256 ^ 4 := by
          have : k = 1 ∨ k = 2 ∨ k = 4 ∨ k = 3 := by omega
          rcases this with rfl | rfl | rfl | rfl <;> decide
        have e : (256 : Int) ^ 4 = 4294967296 := by decide
        omega
      have HK : Hid (k = s.toNat) := by show _ = _; omega
      have hv0 := hv.1
      have hwd := wide_any (byV (fun x => ld M x 1 false) a k) (8 * s) sg hv0 hk4
      clear hby hlim hfb hks hv
      have hlt' : ¬ (k : Int) < s := hlt
      go_wp2_with (go_at_call 43; refine (hwd _).mono ?_; rintro e w' ⟨rfl, rfl⟩)
      go_ret2
      exact ⟨by rw [HF.out, ← HK.out]; rfl, hB⟩
set_option maxRecDepth 100000 in
set_option maxHeartbeats 1000000 in
theorem gload_no (pe : Nat → Addr) (E : Eg pe w) (G : GAt w base mb stb sb X p vi) (a s : Int) (sg : Bool) (h0 : 0 ≤ a) (h1 : a < 4294967296) (s0 : -9223372036854775808 ≤ s) (s1 : s ≤ 9223372036854775807) (hc : chk a s ≠ 0) :
    Calls Tryd.prog 29 #[.pointer (some ⟨mb, 65, none⟩), .int .u32 a, .int .i64 s, .bool sg] w fun e w' => e = .returned (.tuple #[.int .u32 0, .bool false]) ∧ Below w.heap.size w w' := by
  have hld := load_no _ _ _ E.er (.pointer (some ⟨sb, 0, none⟩)) a s sg h0 h1 s0 s1 hc
  have g0 := G.g0
  clear G hc
  go_enter Tryd.func29, Tryd.ntmps29
  go_wp2_with (go_at_call 41; refine hld.mono ?_; rintro e w' ⟨rfl, rfl⟩)
  go_ret2
  exact ⟨rfl, Below.refl _ _⟩
/-- w' is w but for the run's own blocks, and new ones -/
structure Kx (w w' : World) (mb : Nat) (vi : Value) : Prop where
  os : w'.os = w.os
  tape : w'.tape = w.tape
  output : w'.output = w.output
  size : w.heap.size ≤ w'.heap.size
  block : ∀ k, k < w.heap.size → k ≠ mb → vi.ownBlock ≠ some k → w'.heap[k]? = w.heap[k]?
theorem Kx.alloc (w : World) (o : Obj) (mb : Nat) (vi : Value) : Kx w (w.alloc o) mb vi := ⟨rfl, rfl, rfl, by simp, fun k hk _ _ => Below.heap_alloc w o k hk⟩
theorem Kx.drew {w w' : World} {mb : Nat} {vi : Value} (h : Kx w w' mb vi) : Kx w w'.drew mb vi := ⟨h.os, h.tape, h.output, h.size, h.block⟩
theorem Kx.setCell {w w' : World} {mb : Nat} {vi : Value} (h : Kx w w' mb vi) (j : Nat) (v : Value) : Kx w (w'.setCell ⟨mb, j, none⟩ v) mb vi :=
  ⟨h.os, h.tape, h.output, by simp; exact h.size, fun k hk k1 k2 => (Below.heap_setCell w' ⟨mb, j, none⟩ v k k1).trans (h.block k hk k1 k2)⟩
theorem Kx.trans {w w1 w2 : World} {mb : Nat} {vi : Value} (h : Kx w w1 mb vi) (g : Kx w1 w2 mb vi) : Kx w w2 mb vi :=
  ⟨g.os.trans h.os, g.tape.trans h.tape, g.output.trans h.output, Nat.le_trans h.size g.size, fun k hk k1 k2 => (g.block k (Nat.lt_of_lt_of_le hk h.size) k1 k2).trans (h.block k hk k1 k2)⟩
theorem Kx.below {w w1 w2 : World} {mb : Nat} {vi : Value} (h : Kx w w1 mb vi) (g : Below w1.heap.size w1 w2) : Kx w w2 mb vi :=
  ⟨g.os.trans h.os, g.tape.trans h.tape, g.output.trans h.output, Nat.le_trans h.size g.size, fun k hk k1 k2 => (g.block k (Nat.lt_of_lt_of_le hk h.size)).trans (h.block k hk k1 k2)⟩
theorem infoPd : (Tryd.prog.info? 60).map (fun i => (i.zero, i.size, i.bytes)) = some (some (.agg #[.int .u32 0, .int .i64 0, .int .u32 0]), 3, 24) := by kernel_rfl
theorem GAt.wait {w w1 : World} {v' : Value} (M : GAt w base mb stb sb X p vi) (q : Pq) (hg : w.grownBy w1 vi.ownBlock) (hr : w1.ownsRow base 60 3 v' (p.length + 1) (pdL p ++ pdC q.1)) (hm : Moved w vi v') : GAt (w1.setCell ⟨mb, 66, none⟩ v') base mb stb sb X (p ++ [q]) v' := by
  have hb : w1.heap[mb]? = w.heap[mb]? := hg.block mb M.lt (fun e => M.ne mb e.symm rfl)
  have c : ∀ (j : Nat) (v : Value), w.cell? ⟨mb, j, none⟩ = some v → w1.cell? ⟨mb, j, none⟩ = some v := fun j v e => (World.cell?_of_block (a := ⟨mb, j, none⟩) hb).trans e
  have o : ∀ (j : Nat) (v : Value), j ≠ 66 → w1.cell? ⟨mb, j, none⟩ = some v → (w1.setCell ⟨mb, 66, none⟩ v').cell? ⟨mb, j, none⟩ = some v := fun j v hj e => by
    rw [World.cell?_setCell_other _ _ _ _ (by intro e'; injection e' with e1 e2; exact hj e2.symm)]; exact e
  have hne : ∀ k, v'.ownBlock = some k → k ≠ mb := by
    intro k hk
    rcases hm k hk with h | h
    · exact M.ne k h
    · have := M.lt; omega
  refine ⟨fun j hj => o _ _ (by omega) (c _ _ (M.x j hj)), o _ _ (by omega) (c _ _ M.s0), o _ _ (by omega) (c _ _ M.g0), World.cell?_setCell_same _ _ _ (c _ _ M.g1), fun j => by rw [World.frozen?_setCell]; exact (World.frozen?_of_block (a := ⟨mb, j, none⟩) hb).trans (M.fz j), ?_, M.lb, hne, M.xb, by simp; exact Nat.le_trans M.bs hg.size⟩
  rw [pdL_snoc, List.length_append]
  exact owns_blocks hr (fun k hk => Below.heap_setCell w1 ⟨mb, 66, none⟩ v' k (fun e => hne k hk e))
set_option maxRecDepth 100000 in
set_option maxHeartbeats 1000000 in
theorem admits_any (pe : Nat → Addr) (E : Eg pe w) (R : RamIs w sb bp bw bh N m wt ht) (G : GAt w base mb stb sb X p vi) (a s v : Int) (h0 : 0 ≤ a) (h1 : a < 4294967296) (s0 : -9223372036854775808 ≤ s) (s1 : s ≤ 9223372036854775807) :
    Calls Tryd.prog 30 #[.pointer (some ⟨mb, 65, none⟩), .agg #[.int .u32 a, .int .i64 s, .int .u32 v]] w fun e w' => e = .returned (.bool (decide (chk a s = 0) && !wt (a / 256))) ∧ Below w.heap.size w w' := by
  have B0 : Below w.heap.size w (w.alloc (.cells #[.int .u32 a, .int .i64 s, .int .u32 v] 60)) := (Below.refl _ _).alloc (Nat.le_refl _) _
  have k0 : (w.alloc (.cells #[.int .u32 a, .int .i64 s, .int .u32 v] 60)).cell? ⟨w.heap.size, 0, none⟩ = some (.int .u32 a) := by simp
  have k1 : (w.alloc (.cells #[.int .u32 a, .int .i64 s, .int .u32 v] 60)).cell? ⟨w.heap.size, 1, none⟩ = some (.int .i64 s) := by simp
  have g0 := (G.stays B0).g0
  have hzw := G.lt
  have HR : Hid (∀ W, Below w.heap.size w W → RamIs W sb bp bw bh N m wt ht) := fun W hW => R.stays hW (Nat.le_refl _)
  have HE : Hid (∀ W, Below w.heap.size w W → Eg pe W) := fun W hW => E.stays hW
  have HB0 : Hid (Below w.heap.size w (w.alloc (.cells #[.int .u32 a, .int .i64 s, .int .u32 v] 60))) := B0
  have hVs : w.heap.size < (w.alloc (.cells #[.int .u32 a, .int .i64 s, .int .u32 v] 60)).heap.size := by simp
  clear G R E B0
  by_cases hk : chk a s = 0
  · rw [decide_eq_true hk, Bool.true_and]
    go_enter Tryd.func30, Tryd.ntmps30
    go_upto_region 1 with fail
    generalize w.alloc (.cells #[.int .u32 a, .int .i64 s, .int .u32 v] 60) = V at *
    refine wp_region_phase 14 [(0, 0), (1, 0), (2, 0), (3, 1), (4, 0), (5, 1), (6, 0), (7, 1), (8, 2), (9, 0), (10, 0), (11, 0), (12, 0), (13, 0)] (fun W => W.cell? ⟨mb, 65, none⟩ = some (.pointer (some ⟨sb, 0, none⟩)) ∧ W.cell? ⟨w.heap.size, 0, none⟩ = some (.int .u32 a) ∧ W.cell? ⟨w.heap.size, 1, none⟩ = some (.int .i64 s)) (by kernel_rfl) (by kernel_rfl) (fun _ _ _ d _ h => by cases d <;> exact h) ⟨by simpa using g0, by simpa using k0, by simpa using k1⟩ ?_
    repeat (first | (refine wpPlanZ_free (by rfl) (by rfl) (fun W => by (go_simp; try with_reducible rfl)) (fun K hK => ?_); go_simp; refine hK _ ?_; clear hK K) | (refine wpPlanZ_quiet (by rfl) (by rfl) (fun W hW => by (obtain ⟨z0, z1, z2⟩ := hW; go_simp; try with_reducible rfl)) (fun K hK => ?_); go_simp; refine hK _ ?_; clear hK K))
    refine wpPlanZ_serial (by rfl) (by rfl) (fun K hK => ?_)
    go_simp
    have B1 : Below w.heap.size w V.drew := HB0.out.drew
    refine (load_ok (HR.out _ B1) a s false h0 h1 hk).mono ?_
    rintro e w1 ⟨rfl, n, rfl⟩
    refine hK _ _ (fun _ => ⟨g0, k0, k1⟩) ?_
    clear hK K
    repeat (first | (refine wpPlanZ_free (by rfl) (by rfl) (fun W => by (go_simp; try with_reducible rfl)) (fun K hK => ?_); go_simp; refine hK _ ?_; clear hK K) | (refine wpPlanZ_quiet (by rfl) (by rfl) (fun W hW => by (obtain ⟨z0, z1, z2⟩ := hW; go_simp; try with_reducible rfl)) (fun K hK => ?_); go_simp; refine hK _ ?_; clear hK K))
    refine wpPlanZ_nil ?_
    have c0 : (V.drew.drewN n).cell? ⟨mb, 65, none⟩ = some (.pointer (some ⟨sb, 0, none⟩)) := g0
    have c1 : (V.drew.drewN n).cell? ⟨w.heap.size, 0, none⟩ = some (.int .u32 a) := k0
    have c2 : (V.drew.drewN n).cell? ⟨w.heap.size, 1, none⟩ = some (.int .i64 s) := k1
    have B2 : Hid (Below w.heap.size w (V.drew.drewN n)) := below_drewN B1 n
    generalize V.drew.drewN n = U at *
    clear g0 k0 k1 HB0 B1
    go_upto_region 2 with fail
    refine wp_region_phase 13 [(0, 0), (1, 0), (2, 0), (3, 0), (4, 0), (5, 0), (6, 1), (7, 0), (8, 1), (9, 2), (10, 0), (11, 0), (12, 0)] (fun W => W.cell? ⟨mb, 65, none⟩ = some (.pointer (some ⟨sb, 0, none⟩)) ∧ W.cell? ⟨w.heap.size, 0, none⟩ = some (.int .u32 a) ∧ W.cell? ⟨w.heap.size, 1, none⟩ = some (.int .i64 s)) (by kernel_rfl) (by kernel_rfl) (fun _ _ _ d _ h => by cases d <;> exact h) ⟨c0, c1, c2⟩ ?_
    repeat (first | (refine wpPlanZ_free (by rfl) (by rfl) (fun W => by (go_simp; try with_reducible rfl)) (fun K hK => ?_); go_simp; refine hK _ ?_; clear hK K) | (refine wpPlanZ_quiet (by rfl) (by rfl) (fun W hW => by (obtain ⟨z0, z1, z2⟩ := hW; go_simp; try with_reducible rfl)) (fun K hK => ?_); go_simp; refine hK _ ?_; clear hK K))
    refine wpPlanZ_serial (by rfl) (by rfl) (fun K hK => ?_)
    go_simp
    have B3 : Below w.heap.size w U.drew := B2.out.drew
    refine (watched_any (HR.out _ B3) a h0 h1).mono ?_
    rintro e w3 ⟨rfl, hb3⟩
    have hmz : mb < U.drew.heap.size := World.block_lt_of_cell? U _ c0
    have hwz : w.heap.size < U.drew.heap.size := World.block_lt_of_cell? U _ c1
    refine hK _ _ (fun _ => ⟨(hb3.cell (p := ⟨mb, 65, none⟩) hmz).trans c0, (hb3.cell (p := ⟨w.heap.size, 0, none⟩) hwz).trans c1, (hb3.cell (p := ⟨w.heap.size, 1, none⟩) hwz).trans c2⟩) ?_
    have B4 : Hid (Below w.heap.size w w3) := B3.trans (hb3.mono B3.size)
    clear hK K c0 c1 c2 B2 B3 hb3 hmz hwz
    repeat (first | (refine wpPlanZ_free (by rfl) (by rfl) (fun W => by (go_simp; try with_reducible rfl)) (fun K hK => ?_); go_simp; refine hK _ ?_; clear hK K) | (refine wpPlanZ_quiet (by rfl) (by rfl) (fun W hW => by (obtain ⟨z0, z1, z2⟩ := hW; go_simp; try with_reducible rfl)) (fun K hK => ?_); go_simp; refine hK _ ?_; clear hK K))
    refine wpPlanZ_nil ?_
    go_wp2
    go_ret
    exact ⟨rfl, B4.out⟩
  · rw [decide_eq_false hk, Bool.false_and]
    go_enter Tryd.func30, Tryd.ntmps30
    go_upto_region 1 with fail
    generalize w.alloc (.cells #[.int .u32 a, .int .i64 s, .int .u32 v] 60) = V at *
    refine wp_region_phase 14 [(0, 0), (1, 0), (2, 0), (3, 1), (4, 0), (5, 1), (6, 0), (7, 1), (8, 2), (9, 0), (10, 0), (11, 0), (12, 0), (13, 0)] (fun W => W.cell? ⟨mb, 65, none⟩ = some (.pointer (some ⟨sb, 0, none⟩)) ∧ W.cell? ⟨w.heap.size, 0, none⟩ = some (.int .u32 a) ∧ W.cell? ⟨w.heap.size, 1, none⟩ = some (.int .i64 s)) (by kernel_rfl) (by kernel_rfl) (fun _ _ _ d _ h => by cases d <;> exact h) ⟨by simpa using g0, by simpa using k0, by simpa using k1⟩ ?_
    repeat (first | (refine wpPlanZ_free (by rfl) (by rfl) (fun W => by (go_simp; try with_reducible rfl)) (fun K hK => ?_); go_simp; refine hK _ ?_; clear hK K) | (refine wpPlanZ_quiet (by rfl) (by rfl) (fun W hW => by (obtain ⟨z0, z1, z2⟩ := hW; go_simp; try with_reducible rfl)) (fun K hK => ?_); go_simp; refine hK _ ?_; clear hK K))
    refine wpPlanZ_serial (by rfl) (by rfl) (fun K hK => ?_)
    go_simp
    have B1 : Below w.heap.size w V.drew := HB0.out.drew
    refine (load_no _ _ _ (HE.out _ B1).er (.pointer (some ⟨sb, 0, none⟩)) a s false h0 h1 s0 s1 hk).mono ?_
    rintro e w1 ⟨rfl, rfl⟩
    refine hK _ _ (fun _ => ⟨g0, k0, k1⟩) ?_
    clear hK K
    repeat (first | (refine wpPlanZ_free (by rfl) (by rfl) (fun W => by (go_simp; try with_reducible rfl)) (fun K hK => ?_); go_simp; refine hK _ ?_; clear hK K) | (refine wpPlanZ_quiet (by rfl) (by rfl) (fun W hW => by (obtain ⟨z0, z1, z2⟩ := hW; go_simp; try with_reducible rfl)) (fun K hK => ?_); go_simp; refine hK _ ?_; clear hK K))
    refine wpPlanZ_nil ?_
    have B2 : Hid (Below w.heap.size w V.drew) := B1
    generalize V.drew = U at *
    clear g0 k0 k1 HB0 B1
    go_upto_region 2 with fail
    refine wp_region_phase 13 [(0, 0), (1, 0), (2, 0), (3, 0), (4, 0), (5, 0), (6, 1), (7, 0), (8, 1), (9, 2), (10, 0), (11, 0), (12, 0)] (fun W => True) (by kernel_rfl) (by kernel_rfl) (fun _ _ _ d _ h => by cases d <;> exact h) trivial ?_
    repeat (first | (refine wpPlanZ_free (by rfl) (by rfl) (fun W => by (go_simp; try with_reducible rfl)) (fun K hK => ?_); go_simp; refine hK _ ?_; clear hK K) | (refine wpPlanZ_skipG (by rfl) (by rfl) (fun K hK => ?_); go_simp; refine hK _ ?_; clear hK K))
    refine wpPlanZ_nil ?_
    go_wp2
    go_ret
    exact ⟨rfl, B2.out.drew⟩
set_option maxRecDepth 100000 in
set_option maxHeartbeats 1000000 in
theorem hold_any (G : GAt w base mb stb sb X p vi) (hp : p.length ≤ 1000) (q : Pq) :
    Calls Tryd.prog 32 #[.pointer (some ⟨mb, 65, none⟩), .agg #[.int .u32 q.1.a, .int .i64 q.1.s, .int .u32 q.1.v]] w fun e w' => e = .returned (.tuple #[]) ∧ ∃ vi', GAt w' base mb stb sb X (p ++ [q]) vi' ∧ Moved w vi vi' ∧ Kx w w' mb vi := by
  obtain ⟨⟨qa, qs, qv⟩, hq⟩ := q
  have B0 : Below w.heap.size w (w.alloc (.cells #[.int .u32 qa, .int .i64 qs, .int .u32 qv] 60)) := (Below.refl _ _).alloc (Nat.le_refl _) _
  have k0 : (w.alloc (.cells #[.int .u32 qa, .int .i64 qs, .int .u32 qv] 60)).cell? ⟨w.heap.size, 0, none⟩ = some (.int .u32 qa) := by simp
  have k1 : (w.alloc (.cells #[.int .u32 qa, .int .i64 qs, .int .u32 qv] 60)).cell? ⟨w.heap.size, 1, none⟩ = some (.int .i64 qs) := by simp
  have k2 : (w.alloc (.cells #[.int .u32 qa, .int .i64 qs, .int .u32 qv] 60)).cell? ⟨w.heap.size, 2, none⟩ = some (.int .u32 qv) := by simp
  have G0 : Hid (GAt (w.alloc (.cells #[.int .u32 qa, .int .i64 qs, .int .u32 qv] 60)) base mb stb sb X p vi) := G.stays B0
  have hvb : ∀ k, vi.ownBlock = some k → k < w.heap.size := fun k hk => (G.blk k hk).1
  have hbs := G.bs
  have hmw := G.lt
  have HB0 : Hid (Below w.heap.size w (w.alloc (.cells #[.int .u32 qa, .int .i64 qs, .int .u32 qv] 60))) := B0
  have hVs : (w.alloc (.cells #[.int .u32 qa, .int .i64 qs, .int .u32 qv] 60)).heap.size = w.heap.size + 1 := by simp
  obtain ⟨i0, hi, hz0, hz1, hz2⟩ := info_parts infoPd
  clear G B0
  go_enter Tryd.func32, Tryd.ntmps32
  go_upto_region 1 with fail
  generalize w.alloc (.cells #[.int .u32 qa, .int .i64 qs, .int .u32 qv] 60) = V at *
  have g1 := G0.out.g1
  refine wp_region_phase 10 [(0, 0), (1, 0), (2, 0), (3, 0), (4, 1), (5, 1), (6, 2), (7, 2), (8, 0), (9, 0), (10, 2)] (fun W => W.cell? ⟨mb, 66, none⟩ = some vi ∧ W.cell? ⟨w.heap.size, 0, none⟩ = some (.int .u32 qa) ∧ W.cell? ⟨w.heap.size, 1, none⟩ = some (.int .i64 qs) ∧ W.cell? ⟨w.heap.size, 2, none⟩ = some (.int .u32 qv)) (by kernel_rfl) (by kernel_rfl) (fun _ _ _ d _ h => by cases d <;> exact h) ⟨g1, k0, k1, k2⟩ ?_
  repeat (first | (refine wpPlanZ_free (by rfl) (by rfl) (fun W => by (go_simp; try with_reducible rfl)) (fun K hK => ?_); go_simp; refine hK _ ?_; clear hK K) | (refine wpPlanZ_quiet (by rfl) (by rfl) (fun W hW => by (obtain ⟨z0, z1, z2, z3⟩ := hW; go_simp; try with_reducible rfl)) (fun K hK => ?_); go_simp; refine hK _ ?_; clear hK K))
  refine wpPlanZ_serial (by rfl) (by rfl) (fun K hK => ?_)
  go_simp
  have hmV : mb < V.heap.size := by omega
  have cU : ∀ (b j : Nat) (u : Value), V.cell? ⟨b, j, none⟩ = some u → ((V.alloc (.cells #[.int .u32 qa, .int .i64 qs, .int .u32 qv] 60)).drew).cell? ⟨b, j, none⟩ = some u := fun b j u h => (World.grownBy_alloc V _ none).cell h (by simp)
  refine hK _ _ (fun _ => ⟨cU _ _ _ g1, cU _ _ _ k0, cU _ _ _ k1, cU _ _ _ k2⟩) ?_
  clear hK K
  have G1 : Hid (GAt ((V.alloc (.cells #[.int .u32 qa, .int .i64 qs, .int .u32 qv] 60)).drew) base mb stb sb X p vi) := (G0.out.stays ((Below.refl _ _).alloc (Nat.le_refl _) _)).drewN 1
  have HB1 : Hid (Below w.heap.size w ((V.alloc (.cells #[.int .u32 qa, .int .i64 qs, .int .u32 qv] 60)).drew)) := (HB0.out.alloc (by omega) _).drew
  have hnews : ∀ (j : Nat) (u : Value), (pdC ⟨qa, qs, qv⟩)[j]? = some u → ((V.alloc (.cells #[.int .u32 qa, .int .i64 qs, .int .u32 qv] 60)).drew).cell? ((⟨V.heap.size, 0, none⟩ : Addr).add j) = some u := by
    intro j u hj
    show (V.alloc (.cells #[.int .u32 qa, .int .i64 qs, .int .u32 qv] 60)).cell? _ = _
    rw [add_lit, cell_of_row _ _ _ _ _ _ (heap_alloc_new V _)]
    simpa [pdC] using hj
  rw [hVs] at hnews
  have hU0 := cU _ _ _ k0
  have hU1 := cU _ _ _ k1
  have hU2 := cU _ _ _ k2
  have hUs : ((V.alloc (.cells #[.int .u32 qa, .int .i64 qs, .int .u32 qv] 60)).drew).heap.size = w.heap.size + 2 := by simp [hVs]
  generalize (V.alloc (.cells #[.int .u32 qa, .int .i64 qs, .int .u32 qv] 60)).drew = U at *
  refine wpPlanZ_serial (by rfl) (by rfl) (fun K hK => ?_)
  refine oper_append_movedG _ _ 85 rfl base 60 i0 (.agg #[.int .u32 0, .int .i64 0, .int .u32 0]) 3 24 Tryd.underlying85 hi hz0 hz1 hz2 rfl (by decide) vi p.length (pdL p) (by rfl) G1.out.row ⟨w.heap.size + 1, 0, none⟩ 1 1 (pdC ⟨qa, qs, qv⟩) (by rfl) rfl hnews (by simp [pdC, Value.oneCell']) (by unfold maxLen; omega) (by omega) (by omega) ?_
  intro v' w3 ho hg hm
  obtain ⟨g', cap', rfl⟩ := own_pos ho
  have hbk : w3.heap[mb]? = U.heap[mb]? := hg.block mb (by omega) (fun e => G1.out.ne mb e.symm rfl)
  have hbw : w3.heap[w.heap.size]? = U.heap[w.heap.size]? := hg.block w.heap.size (by omega) (fun e => by have := hvb _ e.symm; omega)
  have hc1 : w3.cell? ⟨mb, 66, none⟩ = some vi := (World.cell?_of_block (a := ⟨mb, 66, none⟩) hbk).trans G1.out.g1
  have hf1 : w3.frozen? ⟨mb, 66, none⟩ = false := (World.frozen?_of_block (a := ⟨mb, 66, none⟩) hbk).trans (G1.out.fz 66)
  refine hK _ _ (fun _ => ⟨hc1, (World.cell?_of_block (a := ⟨w.heap.size, 0, none⟩) hbw).trans hU0, (World.cell?_of_block (a := ⟨w.heap.size, 1, none⟩) hbw).trans hU1, (World.cell?_of_block (a := ⟨w.heap.size, 2, none⟩) hbw).trans hU2⟩) ?_
  clear hK K
  refine wpPlanZ_free (by rfl) (by rfl) (fun W => by (go_simp; try with_reducible rfl)) (fun K hK => ?_); go_simp; refine hK _ ?_; clear hK K
  refine wpPlanZ_free (by rfl) (by rfl) (fun W => by (go_simp; try with_reducible rfl)) (fun K hK => ?_); go_simp; refine hK _ ?_; clear hK K
  refine wpPlanZ_serial (by rfl) (by rfl) (fun K hK => ?_)
  go_simp
  refine hK _ _ (fun h => absurd h (by decide)) ?_
  clear hK K
  refine wpPlanZ_nil ?_
  go_wp2
  go_end0
  refine ⟨rfl, _, G1.out.wait ⟨⟨qa, qs, qv⟩, hq⟩ hg ho hm, ?_, ?_⟩
  · intro k hk
    rcases hm k hk with h | h
    · exact .inl h
    · exact .inr (by omega)
  · refine ⟨hg.os.trans HB1.out.os, hg.tape.trans HB1.out.tape, hg.output.trans HB1.out.output, ?_, fun k hk hm1 hv1 => ?_⟩
    · have := HB1.out.size; have := hg.size; simp; omega
    · rw [Below.heap_setCell w3 ⟨mb, 66, none⟩ _ k hm1, hg.block k (by omega) (fun e => hv1 e.symm)]
      exact HB1.out.block k hk
end
end Go.Proofs.YtkehhlibkebomaaDoor
