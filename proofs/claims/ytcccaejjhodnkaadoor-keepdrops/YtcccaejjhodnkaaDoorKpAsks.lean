/-
  What a keep is asked for, as it came in.
-/
import Derived.Test.YtcccaejjhodnkaaDoorKpInts
import Derived.Test.YtcccaejjhodnkaaDoorRowsI
import Derived.Deep.Slices
import Derived.ProofKit
import Derived.OpenShut
namespace Go.Proofs.YtcccaejjhodnkaaDoor
open Go.ChangeShapes Go.WideShapes Go.ChangeAt Go.RowKit
set_option linter.unusedVariables false
theorem kbd_i64 {n : Int} (h : (Lit.int .i64 n).wf = true) : -9223372036854775808 ≤ n ∧ n ≤ 9223372036854775807 := by
  simp [Lit.wf, IntKind.min, IntKind.max, IntKind.signed, IntKind.bits] at h; omega
theorem kbd_u32 {n : Int} (h : (Lit.int .u32 n).wf = true) : 0 ≤ n ∧ n < 4294967296 := by
  simp [Lit.wf, IntKind.min, IntKind.max, IntKind.signed, IntKind.bits] at h; omega
theorem kadd_plain (b o k : Nat) : (⟨b, o, none⟩ : Addr).add k = ⟨b, o + k, none⟩ := by unfold Addr.add; split <;> simp_all
theorem kOp6 : Tryd.prog.cellsOf 60 = 6 := by kernel_rfl
theorem kI3 : Tryd.prog.cellsOf 3 = 1 := by kernel_rfl
theorem kS9 : Tryd.prog.cellsOf 9 = 1 := by kernel_rfl
theorem kU23 : Tryd.prog.cellsOf 23 = 1 := by kernel_rfl
theorem kSl : Tryd.prog.cellsOf 22 = 1 := by kernel_rfl
theorem kSl2 : Tryd.prog.cellsOf 69 = 1 := by kernel_rfl
theorem kSlI : Tryd.prog.cellsOf 49 = 1 := by kernel_rfl
theorem kAsk : Tryd.prog.cellsOf 71 = 6 := by kernel_rfl
set_option maxRecDepth 100000 in
theorem kops_cells {H : Type} {enc : TypeId × Value → H} {W : World} {v : Value} {x : DataW H × List MemPlace} {fuel : Nat} (hf : DataW.trod enc Tryd.prog W 0 (fun _ => true) true fuel 22 [v] = some x) :
    ∃ l : List Opx, OpsIn W v l ∧ (l.length : Int) ≤ 9223372036854775807 ∧ ∀ o ∈ l, (o.s.size : Int) ≤ 9223372036854775807 := by
  rcases Go.Deep.open_slice Tryd.underlying22 hf with ⟨hcs, hx⟩ | ⟨a, len, cap, m, n, D, Pl, hcs, _, hl, hm, hmm, _, hx⟩
  · obtain rfl : v = .slice none 0 0 := by simpa using hcs
    exact ⟨[], ⟨⟨none, 0, rfl, Nat.le_refl _, fun h => absurd h (by simp)⟩, fun o ho => by cases ho⟩, by simp, fun o ho => by cases ho⟩
  · obtain rfl : v = .slice (some a) len cap := by simpa using hcs
    simp only [if_true] at hmm
    subst hmm
    have each : ∀ i, ∃ x : Opx, i < len → (x.ok ∧ (x.s.size : Int) ≤ 9223372036854775807) ∧ ∀ (j : Nat) (u : Value), (opC x)[j]? = some u → W.cell? ((a.add (i * 6)).add j) = some u := by
      intro i
      by_cases hi : i < len
      · obtain ⟨cs', h1, h2⟩ := hx i (by omega)
        rw [kOp6] at h1
        obtain ⟨_, hlen, hcell⟩ := World.cells?_some h1
        obtain ⟨xs, k, hk, hxy, _, hxl, hg⟩ := DataW.trod_struct Tryd.underlying60 h2
        match xs, hxl, cs', hlen with
        | [y0, y1, y2, y3, y4, y5], _, [c0, c1, c2, c3, c4, c5], _ =>
          have g0 := hg 0 _ rfl
          have g1 := hg 1 _ rfl
          have g2 := hg 2 _ rfl
          have g3 := hg 3 _ rfl
          have g4 := hg 4 _ rfl
          have g5 := hg 5 _ rfl
          simp [kI3, kS9, kU23] at g0 g1 g2 g3 g4 g5
          obtain ⟨s0, e0, rfl, w0⟩ := DataW.trod_string Tryd.underlying9 g0
          obtain ⟨a1, e1, rfl, w1⟩ := DataW.trod_int Tryd.underlying3 g1
          obtain ⟨a2, e2, rfl, w2⟩ := DataW.trod_int Tryd.underlying3 g2
          obtain ⟨a3, e3, rfl, w3⟩ := DataW.trod_int Tryd.underlying3 g3
          obtain ⟨a4, e4, rfl, w4⟩ := DataW.trod_int Tryd.underlying23 g4
          obtain ⟨a5, e5, rfl, w5⟩ := DataW.trod_int Tryd.underlying3 g5
          simp at e0 e1 e2 e3 e4 e5
          subst e0 e1 e2 e3 e4 e5
          refine ⟨⟨s0, a1, a2, a3, a4, a5⟩, fun _ => ⟨⟨⟨(kbd_i64 w1).1, (kbd_i64 w1).2, (kbd_i64 w2).1, (kbd_i64 w2).2, (kbd_i64 w3).1, (kbd_i64 w3).2, (kbd_u32 w4).1, (kbd_u32 w4).2, (kbd_i64 w5).1, (kbd_i64 w5).2⟩, by unfold maxLen at w0; show (s0.size : Int) ≤ _; omega⟩, fun j u hj => ?_⟩⟩
          have hj6 : j < 6 := by
            rcases Nat.lt_or_ge j 6 with h | h
            · exact h
            · rw [List.getElem?_eq_none (by simpa [opC] using h)] at hj; cases hj
          rw [hcell j hj6]
          exact hj
      · exact ⟨⟨ByteArray.empty, 0, 0, 0, 0, 0⟩, fun h => absurd h hi⟩
    have hch := Classical.axiomOfChoice each
    obtain ⟨x, hxx⟩ := hch
    have hll : ((List.range len).map x).length = len := by simp
    have hget : ∀ (i : Nat) (o : Opx), ((List.range len).map x)[i]? = some o → i < len ∧ o = x i := by
      intro i o ho
      have hi : i < len := by have := (List.getElem?_eq_some_iff.1 ho).1; simpa using this
      rw [List.getElem?_map, List.getElem?_range hi] at ho
      exact ⟨hi, (Option.some.inj ho).symm⟩
    refine ⟨(List.range len).map x, ⟨⟨some a, _, by rw [hll], by rw [hll]; exact hl, fun hp => ?_⟩, fun o ho => ?_⟩, by rw [hll]; unfold maxLen at hm; omega, fun o ho => ?_⟩
    · obtain ⟨b, off, spot⟩ := a
      have hp' : 0 < len := by omega
      have hspot : spot = none := by
        have := (hxx 0 hp').2 0 _ rfl
        simpa [Addr.add] using World.cell?_spot this
      subst hspot
      refine ⟨b, off, rfl, fun i o ho j u hj => ?_⟩
      obtain ⟨hi, rfl⟩ := hget i o ho
      have := (hxx i hi).2 j u hj
      rwa [kadd_plain, kadd_plain] at this
    · obtain ⟨i, hi, rfl⟩ := List.mem_map.1 ho
      exact (hxx i (List.mem_range.1 hi)).1.1
    · obtain ⟨i, hi, rfl⟩ := List.mem_map.1 ho
      exact (hxx i (List.mem_range.1 hi)).1.2
set_option maxRecDepth 100000 in
theorem krows_cells {H : Type} {enc : TypeId × Value → H} {W : World} {v : Value} {x : DataW H × List MemPlace} {fuel : Nat} (hf : DataW.trod enc Tryd.prog W 0 (fun _ => true) true fuel 69 [v] = some x) :
    ∃ rs : List (List Opx), RowsI W v rs ∧ (∃ ra rn rc, v = .slice ra rn rc) ∧ (rs.length : Int) ≤ 9223372036854775807 ∧ ∀ r ∈ rs, (r.length : Int) ≤ 9223372036854775807 ∧ ∀ o ∈ r, (o.s.size : Int) ≤ 9223372036854775807 := by
  rcases Go.Deep.open_slice1 Tryd.underlying69 kSl hf with ⟨hcs, hx⟩ | ⟨a, len, cap, m, n, V, D, Pl, hcs, _, hl, hm, hmm, _, hx⟩
  · obtain rfl : v = .slice none 0 0 := by simpa using hcs
    exact ⟨[], ⟨none, 0, rfl, Nat.le_refl _, fun h => absurd h (by simp)⟩, ⟨_, _, _, rfl⟩, by simp, fun r hr => by cases hr⟩
  · obtain rfl : v = .slice (some a) len cap := by simpa using hcs
    simp only [if_true] at hmm
    subst hmm
    have each : ∀ i, ∃ r : List Opx, i < len → W.cell? (a.add i) = some (V i) ∧ OpsIn W (V i) r ∧ (r.length : Int) ≤ 9223372036854775807 ∧ ∀ o ∈ r, (o.s.size : Int) ≤ 9223372036854775807 := by
      intro i
      by_cases hi : i < len
      · obtain ⟨h1, h2⟩ := hx i (by omega)
        obtain ⟨r, hr⟩ := kops_cells h2
        exact ⟨r, fun _ => ⟨h1, hr⟩⟩
      · exact ⟨[], fun h => absurd h hi⟩
    have hch := Classical.axiomOfChoice each
    obtain ⟨x, hxx⟩ := hch
    have hll : ((List.range len).map x).length = len := by simp
    have hget : ∀ (i : Nat) (r : List Opx), ((List.range len).map x)[i]? = some r → i < len ∧ r = x i := by
      intro i r hr
      have hi : i < len := by have := (List.getElem?_eq_some_iff.1 hr).1; simpa using this
      rw [List.getElem?_map, List.getElem?_range hi] at hr
      exact ⟨hi, (Option.some.inj hr).symm⟩
    refine ⟨(List.range len).map x, ⟨some a, _, by rw [hll], by rw [hll]; exact hl, fun hp => ?_⟩, ⟨_, _, _, rfl⟩, by rw [hll]; unfold maxLen at hm; omega, fun r hr => ?_⟩
    · obtain ⟨b, off, spot⟩ := a
      have hp' : 0 < len := by omega
      have hspot : spot = none := by
        have := (hxx 0 hp').1
        simpa [Addr.add] using World.cell?_spot this
      subst hspot
      refine ⟨b, off, rfl, fun i r hr => ?_⟩
      obtain ⟨hi, rfl⟩ := hget i r hr
      have := (hxx i hi).1
      rw [kadd_plain] at this
      exact ⟨V i, this, (hxx i hi).2.1⟩
    · obtain ⟨i, hi, rfl⟩ := List.mem_map.1 hr
      exact (hxx i (List.mem_range.1 hi)).2.2
/-- a row of int that came in -/
def IntsRd (w : World) (v : Value) (zs : List Int) : Prop := ∃ ao cap, v = .slice ao zs.length cap ∧ zs.length ≤ cap ∧ (ao = none → zs = [] ∧ cap = 0) ∧ (0 < zs.length → ∃ b off : Nat, ao = some ⟨b, off, none⟩ ∧ ∀ j, j < zs.length → w.cell? ⟨b, off + j, none⟩ = some (.int .i64 (zs.getD j 0)))
theorem IntsRd.stays {w w' : World} {v : Value} {zs : List Int} (A : IntsRd w v zs) (h : Below w.heap.size w w') : IntsRd w' v zs := by
  obtain ⟨ao, cap, e, hc, hn, hh⟩ := A
  refine ⟨ao, cap, e, hc, hn, fun hp => ?_⟩
  obtain ⟨b, off, eb, hj⟩ := hh hp
  exact ⟨b, off, eb, fun j hlt => (h.cell (p := ⟨b, off + j, none⟩) (World.block_lt_of_cell? _ _ (hj j hlt))).trans (hj j hlt)⟩
set_option maxRecDepth 100000 in
theorem kints_cells {H : Type} {enc : TypeId × Value → H} {W : World} {v : Value} {x : DataW H × List MemPlace} {fuel : Nat} (hf : DataW.trod enc Tryd.prog W 0 (fun _ => true) true fuel 49 [v] = some x) :
    ∃ zs : List Int, IntsRd W v zs ∧ (∃ ga gn gc, v = .slice ga gn gc) ∧ (zs.length : Int) ≤ 9223372036854775807 := by
  rcases Go.Deep.open_slice1 Tryd.underlying49 kI3 hf with ⟨hcs, hx⟩ | ⟨a, len, cap, m, n, V, D, Pl, hcs, _, hl, hm, hmm, _, hx⟩
  · obtain rfl : v = .slice none 0 0 := by simpa using hcs
    exact ⟨[], ⟨none, 0, rfl, Nat.le_refl _, fun _ => ⟨rfl, rfl⟩, fun h => absurd h (by simp)⟩, ⟨_, _, _, rfl⟩, by simp⟩
  · obtain rfl : v = .slice (some a) len cap := by simpa using hcs
    simp only [if_true] at hmm
    subst hmm
    have each : ∀ i, ∃ z : Int, i < len → W.cell? (a.add i) = some (.int .i64 z) := by
      intro i
      by_cases hi : i < len
      · obtain ⟨h1, h2⟩ := hx i (by omega)
        obtain ⟨z, e, _, _⟩ := DataW.trod_int Tryd.underlying3 h2
        have e' : V i = .int .i64 z := by simpa using e
        exact ⟨z, fun _ => by rw [h1, e']⟩
      · exact ⟨0, fun h => absurd h hi⟩
    obtain ⟨x, hxx⟩ := Classical.axiomOfChoice each
    have hll : ((List.range len).map x).length = len := by simp
    refine ⟨(List.range len).map x, ⟨some a, _, by rw [hll], by rw [hll]; exact hl, (fun h => by simp at h), fun hp => ?_⟩, ⟨_, _, _, rfl⟩, by rw [hll]; unfold maxLen at hm; omega⟩
    obtain ⟨b, off, spot⟩ := a
    have hp' : 0 < len := by omega
    have hspot : spot = none := by
      have := hxx 0 hp'
      simpa [Addr.add] using World.cell?_spot this
    subst hspot
    refine ⟨b, off, rfl, fun j hj => ?_⟩
    have hjl : j < len := by omega
    have := hxx j hjl
    rw [kadd_plain] at this
    rw [this]
    simp [List.getD, hjl]
/-- one that was asked -/
structure Ax where
  kind : ByteArray
  pc : Int
  many : Int
  ra : Option Addr
  rn : Nat
  rc : Nat
  rs : List (List Opx)
  ga : Option Addr
  gn : Nat
  gc : Nat
  zs : List Int
  page : Int
def axC (x : Ax) : List Value := [.string x.kind, .int .u32 x.pc, .int .i64 x.many, .slice x.ra x.rn x.rc, .slice x.ga x.gn x.gc, .int .i64 x.page]
structure AxOk (W : World) (x : Ax) : Prop where
  rows : RowsI W (.slice x.ra x.rn x.rc) x.rs
  rl : (x.rs.length : Int) ≤ 9223372036854775807 ∧ ∀ r ∈ x.rs, (r.length : Int) ≤ 9223372036854775807 ∧ ∀ o ∈ r, (o.s.size : Int) ≤ 9223372036854775807
  ints : IntsRd W (.slice x.ga x.gn x.gc) x.zs
  il : (x.zs.length : Int) ≤ 9223372036854775807
  pc : 0 ≤ x.pc ∧ x.pc < 4294967296
  many : -9223372036854775808 ≤ x.many ∧ x.many ≤ 9223372036854775807
  kind : (x.kind.size : Int) ≤ 9223372036854775807
theorem AxOk.stays {W W' : World} {x : Ax} (A : AxOk W x) (h : Below W.heap.size W W') : AxOk W' x := ⟨A.rows.stays h, A.rl, A.ints.stays h, A.il, A.pc, A.many, A.kind⟩
structure AsksIn (W : World) (v : Value) (l : List Ax) : Prop where
  sh : ∃ ao cap, v = .slice ao l.length cap ∧ l.length ≤ cap ∧ (0 < l.length → ∃ b off : Nat, ao = some ⟨b, off, none⟩ ∧ ∀ (i : Nat) (o : Ax), l[i]? = some o → ∀ (j : Nat) (u : Value), (axC o)[j]? = some u → W.cell? ⟨b, off + i * 6 + j, none⟩ = some u)
  ok : ∀ o ∈ l, AxOk W o
set_option maxRecDepth 100000 in
set_option maxHeartbeats 2000000 in
theorem asks_of {H : Type} {enc : TypeId × Value → H} {W : World} {base : Nat} {v : Value} {d : DataW H} {p : List MemPlace} (hv : Value.okWide Tryd.prog W .any base 65 v) (h : DataW.Trod enc Tryd.prog W 0 (fun _ => true) true 65 v d p) :
    ∃ l : List Ax, AsksIn W v l ∧ (l.length : Int) ≤ 9223372036854775807 := by
  obtain ⟨a0, len, cap, rfl⟩ := okWide_slice Tryd.underlying65 hv
  obtain ⟨fuel, hf⟩ := h
  rcases Go.Deep.open_slice Tryd.underlying65 hf with ⟨hcs, hx⟩ | ⟨a, len', cap', m, n, D, Pl, hcs, _, hl, hm, hmm, _, hx⟩
  · simp [Value.cells] at hcs
    obtain ⟨rfl, rfl, rfl⟩ := hcs
    exact ⟨[], ⟨⟨none, 0, rfl, Nat.le_refl _, fun h => absurd h (by simp)⟩, fun o ho => by cases ho⟩, by simp⟩
  · simp [Value.cells] at hcs
    obtain ⟨rfl, rfl, rfl⟩ := hcs
    simp only [if_true] at hmm
    subst hmm
    have each : ∀ i, ∃ x : Ax, i < len → AxOk W x ∧ ∀ (j : Nat) (u : Value), (axC x)[j]? = some u → W.cell? ((a.add (i * 6)).add j) = some u := by
      intro i
      by_cases hi : i < len
      · obtain ⟨cs', h1, h2⟩ := hx i (by omega)
        rw [kAsk] at h1
        obtain ⟨_, hlen, hcell⟩ := World.cells?_some h1
        obtain ⟨xs, k, hk, hxy, _, hxl, hg⟩ := DataW.trod_struct Tryd.underlying71 h2
        match xs, hxl, cs', hlen with
        | [y0, y1, y2, y3, y4, y5], _, [c0, c1, c2, c3, c4, c5], _ =>
          have g0 := hg 0 _ rfl
          have g1 := hg 1 _ rfl
          have g2 := hg 2 _ rfl
          have g3 := hg 3 _ rfl
          have g4 := hg 4 _ rfl
          have g5 := hg 5 _ rfl
          simp [kI3, kS9, kU23, kSl2, kSlI] at g0 g1 g2 g3 g4 g5
          obtain ⟨s0, e0, _, w0⟩ := DataW.trod_string Tryd.underlying9 g0
          obtain ⟨a1, e1, _, w1⟩ := DataW.trod_int Tryd.underlying23 g1
          obtain ⟨a2, e2, _, w2⟩ := DataW.trod_int Tryd.underlying3 g2
          obtain ⟨rs, hR, ⟨ra, rn, rc, e3⟩, hrl⟩ := krows_cells g3
          obtain ⟨zs, hZ, ⟨ga, gn, gc, e4⟩, hzl⟩ := kints_cells g4
          obtain ⟨a5, e5, _, w5⟩ := DataW.trod_int Tryd.underlying3 g5
          simp at e0 e1 e2 e5
          subst e0 e1 e2 e3 e4 e5
          refine ⟨⟨s0, a1, a2, ra, rn, rc, rs, ga, gn, gc, zs, a5⟩, fun _ => ⟨⟨hR, hrl, hZ, hzl, kbd_u32 w1, kbd_i64 w2, by unfold maxLen at w0; show (s0.size : Int) ≤ _; omega⟩, fun j u hj => ?_⟩⟩
          have hj6 : j < 6 := by
            rcases Nat.lt_or_ge j 6 with h | h
            · exact h
            · rw [List.getElem?_eq_none (by simpa [axC] using h)] at hj; cases hj
          rw [hcell j hj6]
          exact hj
      · exact ⟨⟨ByteArray.empty, 0, 0, none, 0, 0, [], none, 0, 0, [], 0⟩, fun h => absurd h hi⟩
    obtain ⟨x, hxx⟩ := Classical.axiomOfChoice each
    have hll : ((List.range len).map x).length = len := by simp
    have hget : ∀ (i : Nat) (o : Ax), ((List.range len).map x)[i]? = some o → i < len ∧ o = x i := by
      intro i o ho
      have hi : i < len := by have := (List.getElem?_eq_some_iff.1 ho).1; simpa using this
      rw [List.getElem?_map, List.getElem?_range hi] at ho
      exact ⟨hi, (Option.some.inj ho).symm⟩
    refine ⟨(List.range len).map x, ⟨⟨some a, _, by rw [hll], by rw [hll]; exact hl, fun hp => ?_⟩, fun o ho => ?_⟩, by rw [hll]; unfold maxLen at hm; omega⟩
    · obtain ⟨b, off, spot⟩ := a
      have hp' : 0 < len := by omega
      have hspot : spot = none := by
        have := (hxx 0 hp').2 0 _ rfl
        simpa [Addr.add] using World.cell?_spot this
      subst hspot
      refine ⟨b, off, rfl, fun i o ho j u hj => ?_⟩
      obtain ⟨hi, rfl⟩ := hget i o ho
      have := (hxx i hi).2 j u hj
      rwa [kadd_plain, kadd_plain] at this
    · obtain ⟨i, hi, rfl⟩ := List.mem_map.1 ho
      exact (hxx i (List.mem_range.1 hi)).1
end Go.Proofs.YtcccaejjhodnkaaDoor
