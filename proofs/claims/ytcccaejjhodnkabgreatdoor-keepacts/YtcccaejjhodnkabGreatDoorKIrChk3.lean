/-
  Package ir: Check.
-/
import Derived.Deep.Slices
import Derived.ProofKit
import Derived.OpenShut
import Derived.Test.YtcccaejjhodnkabGreatDoorQIrChk2
import Derived.Test.YtcccaejjhodnkabGreatDoorQKpInts
namespace Go.Proofs.YtcccaejjhodnkabGreatDoor
open Go.RowKit Go.Maps
open Num
set_option linter.unusedVariables false
/-- an error that is handed back: bare, or with a place -/
def CErr (pe : Nat → Addr) (w : World) (f : Int × Int) (v : Value) : Prop :=
  (f.2 = -1 ∧ v = erV pe f.1) ∨ (0 ≤ f.2 ∧ f.1 ≠ 0 ∧ ∃ fb : Nat, v = .iface 87 (.pointer (some ⟨fb, 0, none⟩)) ∧ w.cell? ⟨fb, 0, none⟩ = some (.int .i64 f.2) ∧ w.cell? ⟨fb, 1, none⟩ = some (erV pe f.1))
theorem erV_some {pe : Nat → Addr} {n : Int} (h : n ≠ 0) : erV pe n = .iface 171 (.pointer (some (pe n.toNat))) := by unfold erV; rw [if_neg h]
theorem checkOp_bad (pe : Nat → Addr) {w : World} (E : Eg pe w) (o : Opx) (ok : o.ok) (many : Int) (h : opE o many ≠ 0) :
    Calls Tryz.prog 62 #[opV o, .int .i64 many] w fun e w' => e = .returned (.iface 171 (.pointer (some (pe (opE o many).toNat)))) ∧ Below w.heap.size w w' := by
  have := checkOp_any pe E o ok many
  rw [erV_some h] at this
  exact this
theorem checkOp_ok (pe : Nat → Addr) {w : World} (E : Eg pe w) (o : Opx) (ok : o.ok) (many : Int) (h : opE o many = 0) :
    Calls Tryz.prog 62 #[opV o, .int .i64 many] w fun e w' => e = .returned .nilIface ∧ Below w.heap.size w w' := by
  have := checkOp_any pe E o ok many
  rw [h] at this
  exact this
/-- what the loop of Check holds of the world -/
structure CkAt (pe : Nat → Addr) (w wr : World) (ao : Option Addr) (l : List Opx) (pc many : Int) (v : Value) : Prop where
  b : Below w.heap.size w wr
  c1 : wr.cell? ⟨w.heap.size, 1, none⟩ = some (.int .i64 many)
  c2 : wr.cell? ⟨w.heap.size, 2, none⟩ = some v
theorem CkAt.stays {pe : Nat → Addr} {w wr w' : World} {ao : Option Addr} {l : List Opx} {pc many : Int} {v : Value} (C : CkAt pe w wr ao l pc many v) (h : Below wr.heap.size wr w') : CkAt pe w w' ao l pc many v :=
  ⟨C.b.trans (h.mono C.b.size), by rw [h.cell (World.block_lt_of_cell? _ _ C.c1)]; exact C.c1, by rw [h.cell (World.block_lt_of_cell? _ _ C.c2)]; exact C.c2⟩
end Go.Proofs.YtcccaejjhodnkabGreatDoor
/-
  Rows of ops.
-/
namespace Go.Proofs.YtcccaejjhodnkabGreatDoor
open Go.RowKit Go.Maps
set_option linter.unusedVariables false
/-- rows of ops -/
def RowsI (w : World) (v : Value) (rs : List (List Opx)) : Prop :=
  ∃ ao cap, v = .slice ao rs.length cap ∧ rs.length ≤ cap ∧ (0 < rs.length → ∃ b off : Nat, ao = some ⟨b, off, none⟩ ∧ ∀ (i : Nat) (row : List Opx), rs[i]? = some row → ∃ u, w.cell? ⟨b, off + i, none⟩ = some u ∧ OpsIn w u row)
theorem RowsI.stays {w w' : World} {v : Value} {rs : List (List Opx)} (R : RowsI w v rs) (h : Below w.heap.size w w') : RowsI w' v rs := by
  obtain ⟨ao, cap, e, hc, hh⟩ := R
  refine ⟨ao, cap, e, hc, fun hp => ?_⟩
  obtain ⟨b, off, eb, hcell⟩ := hh hp
  refine ⟨b, off, eb, fun i row hi => ?_⟩
  obtain ⟨u, hu, hO⟩ := hcell i row hi
  exact ⟨u, (h.cell (p := ⟨b, off + i, none⟩) (World.block_lt_of_cell? _ _ hu)).trans hu, hO.stays h⟩
/-- few rows, none too long -/
def Few (rs : List (List Opx)) : Prop := rs.length ≤ 1000 ∧ ∀ r ∈ rs, r.length ≤ 1000
end Go.Proofs.YtcccaejjhodnkabGreatDoor
/-
  What a keep is asked for, as it came in.
-/
namespace Go.Proofs.YtcccaejjhodnkabGreatDoor
open Go.ChangeShapes Go.WideShapes Go.ChangeAt Go.RowKit
set_option linter.unusedVariables false
theorem kbd_i64 {n : Int} (h : (Lit.int .i64 n).wf = true) : -9223372036854775808 ≤ n ∧ n ≤ 9223372036854775807 := by
  simp [Lit.wf, IntKind.min, IntKind.max, IntKind.signed, IntKind.bits] at h; omega
theorem kbd_u32 {n : Int} (h : (Lit.int .u32 n).wf = true) : 0 ≤ n ∧ n < 4294967296 := by
  simp [Lit.wf, IntKind.min, IntKind.max, IntKind.signed, IntKind.bits] at h; omega
theorem kadd_plain (b o k : Nat) : (⟨b, o, none⟩ : Addr).add k = ⟨b, o + k, none⟩ := by unfold Addr.add; split <;> simp_all
theorem kOp6 : Tryz.prog.cellsOf 64 = 6 := by kernel_rfl
theorem kI3 : Tryz.prog.cellsOf 3 = 1 := by kernel_rfl
theorem kS9 : Tryz.prog.cellsOf 9 = 1 := by kernel_rfl
theorem kU23 : Tryz.prog.cellsOf 34 = 1 := by kernel_rfl
theorem kSl : Tryz.prog.cellsOf 40 = 1 := by kernel_rfl
theorem kSl2 : Tryz.prog.cellsOf 35 = 1 := by kernel_rfl
theorem kSlI : Tryz.prog.cellsOf 36 = 1 := by kernel_rfl
theorem kAsk : Tryz.prog.cellsOf 38 = 6 := by kernel_rfl
set_option maxRecDepth 100000 in
theorem kops_cells {H : Type} {enc : TypeId × Value → H} {W : World} {v : Value} {x : DataW H × List MemPlace} {fuel : Nat} (hf : DataW.trod enc Tryz.prog W 0 (fun _ => true) true fuel 40 [v] = some x) :
    ∃ l : List Opx, OpsIn W v l ∧ (l.length : Int) ≤ 9223372036854775807 ∧ ∀ o ∈ l, (o.s.size : Int) ≤ 9223372036854775807 := by
  rcases Go.Deep.open_slice Tryz.underlying40 hf with ⟨hcs, hx⟩ | ⟨a, len, cap, m, n, D, Pl, hcs, _, hl, hm, hmm, _, hx⟩
  · obtain rfl : v = .slice none 0 0 := by simpa using hcs
    exact ⟨[], ⟨⟨none, 0, rfl, Nat.le_refl _, fun h => absurd h (by simp)⟩, fun o ho => by cases ho⟩, by simp, fun o ho => by cases ho⟩
  · obtain rfl : v = .slice (some a) len cap := by simpa using hcs
    simp only [if_true] at hmm
    subst hmm
    have each : ∀ i, ∃ x : Opx, i < len → (x.ok ∧ (x.s.size : Int) ≤ 9223372036854775807) ∧ ∀ (j : Nat) (u : Value), (opC x)[j]? = some u → W.cell? ((a.add (i * 6)).add j) = some u := by
      intro i
      by_cases hi : i < len
      · obtain ⟨cs', h1, h2⟩ := hx i (by omega)
        rw [kOp6] at h1
        obtain ⟨_, hlen, hcell⟩ := World.cells?_some h1
        obtain ⟨xs, k, hk, hxy, _, hxl, hg⟩ := DataW.trod_struct Tryz.underlying64 h2
        match xs, hxl, cs', hlen with
        | [y0, y1, y2, y3, y4, y5], _, [c0, c1, c2, c3, c4, c5], _ =>
          have g0 := hg 0 _ rfl
          have g1 := hg 1 _ rfl
          have g2 := hg 2 _ rfl
          have g3 := hg 3 _ rfl
          have g4 := hg 4 _ rfl
          have g5 := hg 5 _ rfl
          simp [kI3, kS9, kU23] at g0 g1 g2 g3 g4 g5
          obtain ⟨s0, e0, rfl, w0⟩ := DataW.trod_string Tryz.underlying9 g0
          obtain ⟨a1, e1, rfl, w1⟩ := DataW.trod_int Tryz.underlying3 g1
          obtain ⟨a2, e2, rfl, w2⟩ := DataW.trod_int Tryz.underlying3 g2
          obtain ⟨a3, e3, rfl, w3⟩ := DataW.trod_int Tryz.underlying3 g3
          obtain ⟨a4, e4, rfl, w4⟩ := DataW.trod_int Tryz.underlying34 g4
          obtain ⟨a5, e5, rfl, w5⟩ := DataW.trod_int Tryz.underlying3 g5
          simp at e0 e1 e2 e3 e4 e5
          subst e0 e1 e2 e3 e4 e5
          refine ⟨⟨s0, a1, a2, a3, a4, a5⟩, fun _ => ⟨⟨⟨(kbd_i64 w1).1, (kbd_i64 w1).2, (kbd_i64 w2).1, (kbd_i64 w2).2, (kbd_i64 w3).1, (kbd_i64 w3).2, (kbd_u32 w4).1, (kbd_u32 w4).2, (kbd_i64 w5).1, (kbd_i64 w5).2⟩, by unfold maxLen at w0; show (s0.size : Int) ≤ _; omega⟩, fun j u hj => ?_⟩⟩
          have hj6 : j < 6 := by
            rcases Nat.lt_or_ge j 6 with h | h
            · exact h
            · rw [List.getElem?_eq_none (by simpa [opC] using h)] at hj; cases hj
          rw [hcell j hj6]
          exact hj
      · exact ⟨⟨ByteArray.empty, 0, 0, 0, 0, 0⟩, fun h => absurd h hi⟩
    have hch := Classical.axiomOfChoice each
    obtain ⟨x, hxx⟩ := hch
    have hll : ((List.range len).map x).length = len := by simp
    have hget : ∀ (i : Nat) (o : Opx), ((List.range len).map x)[i]? = some o → i < len ∧ o = x i := by
      intro i o ho
      have hi : i < len := by have := (List.getElem?_eq_some_iff.1 ho).1; simpa using this
      rw [List.getElem?_map, List.getElem?_range hi] at ho
      exact ⟨hi, (Option.some.inj ho).symm⟩
    refine ⟨(List.range len).map x, ⟨⟨some a, _, by rw [hll], by rw [hll]; exact hl, fun hp => ?_⟩, fun o ho => ?_⟩, by rw [hll]; unfold maxLen at hm; omega, fun o ho => ?_⟩
    · obtain ⟨b, off, spot⟩ := a
      have hp' : 0 < len := by omega
      have hspot : spot = none := by
        have := (hxx 0 hp').2 0 _ rfl
        simpa [Addr.add] using World.cell?_spot this
      subst hspot
      refine ⟨b, off, rfl, fun i o ho j u hj => ?_⟩
      obtain ⟨hi, rfl⟩ := hget i o ho
      have := (hxx i hi).2 j u hj
      rwa [kadd_plain, kadd_plain] at this
    · obtain ⟨i, hi, rfl⟩ := List.mem_map.1 ho
      exact (hxx i (List.mem_range.1 hi)).1.1
    · obtain ⟨i, hi, rfl⟩ := List.mem_map.1 ho
      exact (hxx i (List.mem_range.1 hi)).1.2
set_option maxRecDepth 100000 in
theorem krows_cells {H : Type} {enc : TypeId × Value → H} {W : World} {v : Value} {x : DataW H × List MemPlace} {fuel : Nat} (hf : DataW.trod enc Tryz.prog W 0 (fun _ => true) true fuel 35 [v] = some x) :
    ∃ rs : List (List Opx), RowsI W v rs ∧ (∃ ra rn rc, v = .slice ra rn rc) ∧ (rs.length : Int) ≤ 9223372036854775807 ∧ ∀ r ∈ rs, (r.length : Int) ≤ 9223372036854775807 ∧ ∀ o ∈ r, (o.s.size : Int) ≤ 9223372036854775807 := by
  rcases Go.Deep.open_slice1 Tryz.underlying35 kSl hf with ⟨hcs, hx⟩ | ⟨a, len, cap, m, n, V, D, Pl, hcs, _, hl, hm, hmm, _, hx⟩
  · obtain rfl : v = .slice none 0 0 := by simpa using hcs
    exact ⟨[], ⟨none, 0, rfl, Nat.le_refl _, fun h => absurd h (by simp)⟩, ⟨_, _, _, rfl⟩, by simp, fun r hr => by cases hr⟩
  · obtain rfl : v = .slice (some a) len cap := by simpa using hcs
    simp only [if_true] at hmm
    subst hmm
    have each : ∀ i, ∃ r : List Opx, i < len → W.cell? (a.add i) = some (V i) ∧ OpsIn W (V i) r ∧ (r.length : Int) ≤ 9223372036854775807 ∧ ∀ o ∈ r, (o.s.size : Int) ≤ 9223372036854775807 := by
      intro i
      by_cases hi : i < len
      · obtain ⟨h1, h2⟩ := hx i (by omega)
        obtain ⟨r, hr⟩ := kops_cells h2
        exact ⟨r, fun _ => ⟨h1, hr⟩⟩
      · exact ⟨[], fun h => absurd h hi⟩
    have hch := Classical.axiomOfChoice each
    obtain ⟨x, hxx⟩ := hch
    have hll : ((List.range len).map x).length = len := by simp
    have hget : ∀ (i : Nat) (r : List Opx), ((List.range len).map x)[i]? = some r → i < len ∧ r = x i := by
      intro i r hr
      have hi : i < len := by have := (List.getElem?_eq_some_iff.1 hr).1; simpa using this
      rw [List.getElem?_map, List.getElem?_range hi] at hr
      exact ⟨hi, (Option.some.inj hr).symm⟩
    refine ⟨(List.range len).map x, ⟨some a, _, by rw [hll], by rw [hll]; exact hl, fun hp => ?_⟩, ⟨_, _, _, rfl⟩, by rw [hll]; unfold maxLen at hm; omega, fun r hr => ?_⟩
    · obtain ⟨b, off, spot⟩ := a
      have hp' : 0 < len := by omega
      have hspot : spot = none := by
        have := (hxx 0 hp').1
        simpa [Addr.add] using World.cell?_spot this
      subst hspot
      refine ⟨b, off, rfl, fun i r hr => ?_⟩
      obtain ⟨hi, rfl⟩ := hget i r hr
      have := (hxx i hi).1
      rw [kadd_plain] at this
      exact ⟨V i, this, (hxx i hi).2.1⟩
    · obtain ⟨i, hi, rfl⟩ := List.mem_map.1 hr
      exact (hxx i (List.mem_range.1 hi)).2.2
/-- a row of int that came in -/
def IntsRd (w : World) (v : Value) (zs : List Int) : Prop := ∃ ao cap, v = .slice ao zs.length cap ∧ zs.length ≤ cap ∧ (ao = none → zs = [] ∧ cap = 0) ∧ (0 < zs.length → ∃ b off : Nat, ao = some ⟨b, off, none⟩ ∧ ∀ j, j < zs.length → w.cell? ⟨b, off + j, none⟩ = some (.int .i64 (zs.getD j 0)))
theorem IntsRd.stays {w w' : World} {v : Value} {zs : List Int} (A : IntsRd w v zs) (h : Below w.heap.size w w') : IntsRd w' v zs := by
  obtain ⟨ao, cap, e, hc, hn, hh⟩ := A
  refine ⟨ao, cap, e, hc, hn, fun hp => ?_⟩
  obtain ⟨b, off, eb, hj⟩ := hh hp
  exact ⟨b, off, eb, fun j hlt => (h.cell (p := ⟨b, off + j, none⟩) (World.block_lt_of_cell? _ _ (hj j hlt))).trans (hj j hlt)⟩
set_option maxRecDepth 100000 in
theorem kints_cells {H : Type} {enc : TypeId × Value → H} {W : World} {v : Value} {x : DataW H × List MemPlace} {fuel : Nat} (hf : DataW.trod enc Tryz.prog W 0 (fun _ => true) true fuel 36 [v] = some x) :
    ∃ zs : List Int, IntsRd W v zs ∧ (∃ ga gn gc, v = .slice ga gn gc) ∧ (zs.length : Int) ≤ 9223372036854775807 := by
  rcases Go.Deep.open_slice1 Tryz.underlying36 kI3 hf with ⟨hcs, hx⟩ | ⟨a, len, cap, m, n, V, D, Pl, hcs, _, hl, hm, hmm, _, hx⟩
  · obtain rfl : v = .slice none 0 0 := by simpa using hcs
    exact ⟨[], ⟨none, 0, rfl, Nat.le_refl _, fun _ => ⟨rfl, rfl⟩, fun h => absurd h (by simp)⟩, ⟨_, _, _, rfl⟩, by simp⟩
  · obtain rfl : v = .slice (some a) len cap := by simpa using hcs
    simp only [if_true] at hmm
    subst hmm
    have each : ∀ i, ∃ z : Int, i < len → W.cell? (a.add i) = some (.int .i64 z) := by
      intro i
      by_cases hi : i < len
      · obtain ⟨h1, h2⟩ := hx i (by omega)
        obtain ⟨z, e, _, _⟩ := DataW.trod_int Tryz.underlying3 h2
        have e' : V i = .int .i64 z := by simpa using e
        exact ⟨z, fun _ => by rw [h1, e']⟩
      · exact ⟨0, fun h => absurd h hi⟩
    obtain ⟨x, hxx⟩ := Classical.axiomOfChoice each
    have hll : ((List.range len).map x).length = len := by simp
    refine ⟨(List.range len).map x, ⟨some a, _, by rw [hll], by rw [hll]; exact hl, (fun h => by simp at h), fun hp => ?_⟩, ⟨_, _, _, rfl⟩, by rw [hll]; unfold maxLen at hm; omega⟩
    obtain ⟨b, off, spot⟩ := a
    have hp' : 0 < len := by omega
    have hspot : spot = none := by
      have := hxx 0 hp'
      simpa [Addr.add] using World.cell?_spot this
    subst hspot
    refine ⟨b, off, rfl, fun j hj => ?_⟩
    have hjl : j < len := by omega
    have := hxx j hjl
    rw [kadd_plain] at this
    rw [this]
    simp [List.getD, hjl]
/-- one that was asked -/
structure Ax where
  kind : ByteArray
  pc : Int
  many : Int
  ra : Option Addr
  rn : Nat
  rc : Nat
  rs : List (List Opx)
  ga : Option Addr
  gn : Nat
  gc : Nat
  zs : List Int
  page : Int
def axC (x : Ax) : List Value := [.string x.kind, .int .u32 x.pc, .int .i64 x.many, .slice x.ra x.rn x.rc, .slice x.ga x.gn x.gc, .int .i64 x.page]
structure AxOk (W : World) (x : Ax) : Prop where
  rows : RowsI W (.slice x.ra x.rn x.rc) x.rs
  rl : (x.rs.length : Int) ≤ 9223372036854775807 ∧ ∀ r ∈ x.rs, (r.length : Int) ≤ 9223372036854775807 ∧ ∀ o ∈ r, (o.s.size : Int) ≤ 9223372036854775807
  ints : IntsRd W (.slice x.ga x.gn x.gc) x.zs
  il : (x.zs.length : Int) ≤ 9223372036854775807
  pc : 0 ≤ x.pc ∧ x.pc < 4294967296
  many : -9223372036854775808 ≤ x.many ∧ x.many ≤ 9223372036854775807
  kind : (x.kind.size : Int) ≤ 9223372036854775807
theorem AxOk.stays {W W' : World} {x : Ax} (A : AxOk W x) (h : Below W.heap.size W W') : AxOk W' x := ⟨A.rows.stays h, A.rl, A.ints.stays h, A.il, A.pc, A.many, A.kind⟩
structure AsksIn (W : World) (v : Value) (l : List Ax) : Prop where
  sh : ∃ ao cap, v = .slice ao l.length cap ∧ l.length ≤ cap ∧ (0 < l.length → ∃ b off : Nat, ao = some ⟨b, off, none⟩ ∧ ∀ (i : Nat) (o : Ax), l[i]? = some o → ∀ (j : Nat) (u : Value), (axC o)[j]? = some u → W.cell? ⟨b, off + i * 6 + j, none⟩ = some u)
  ok : ∀ o ∈ l, AxOk W o
set_option maxRecDepth 100000 in
set_option maxHeartbeats 2000000 in
theorem asks_of {H : Type} {enc : TypeId × Value → H} {W : World} {base : Nat} {v : Value} {d : DataW H} {p : List MemPlace} (hv : Value.okWide Tryz.prog W .any base 22 v) (h : DataW.Trod enc Tryz.prog W 0 (fun _ => true) true 22 v d p) :
    ∃ l : List Ax, AsksIn W v l ∧ (l.length : Int) ≤ 9223372036854775807 := by
  obtain ⟨a0, len, cap, rfl⟩ := okWide_slice Tryz.underlying22 hv
  obtain ⟨fuel, hf⟩ := h
  rcases Go.Deep.open_slice Tryz.underlying22 hf with ⟨hcs, hx⟩ | ⟨a, len', cap', m, n, D, Pl, hcs, _, hl, hm, hmm, _, hx⟩
  · simp [Value.cells] at hcs
    obtain ⟨rfl, rfl, rfl⟩ := hcs
    exact ⟨[], ⟨⟨none, 0, rfl, Nat.le_refl _, fun h => absurd h (by simp)⟩, fun o ho => by cases ho⟩, by simp⟩
  · simp [Value.cells] at hcs
    obtain ⟨rfl, rfl, rfl⟩ := hcs
    simp only [if_true] at hmm
    subst hmm
    have each : ∀ i, ∃ x : Ax, i < len → AxOk W x ∧ ∀ (j : Nat) (u : Value), (axC x)[j]? = some u → W.cell? ((a.add (i * 6)).add j) = some u := by
      intro i
      by_cases hi : i < len
      · obtain ⟨cs', h1, h2⟩ := hx i (by omega)
        rw [kAsk] at h1
        obtain ⟨_, hlen, hcell⟩ := World.cells?_some h1
        obtain ⟨xs, k, hk, hxy, _, hxl, hg⟩ := DataW.trod_struct Tryz.underlying38 h2
        match xs, hxl, cs', hlen with
        | [y0, y1, y2, y3, y4, y5], _, [c0, c1, c2, c3, c4, c5], _ =>
          have g0 := hg 0 _ rfl
          have g1 := hg 1 _ rfl
          have g2 := hg 2 _ rfl
          have g3 := hg 3 _ rfl
          have g4 := hg 4 _ rfl
          have g5 := hg 5 _ rfl
          simp [kI3, kS9, kU23, kSl2, kSlI] at g0 g1 g2 g3 g4 g5
          obtain ⟨s0, e0, _, w0⟩ := DataW.trod_string Tryz.underlying9 g0
          obtain ⟨a1, e1, _, w1⟩ := DataW.trod_int Tryz.underlying34 g1
          obtain ⟨a2, e2, _, w2⟩ := DataW.trod_int Tryz.underlying3 g2
          obtain ⟨rs, hR, ⟨ra, rn, rc, e3⟩, hrl⟩ := krows_cells g3
          obtain ⟨zs, hZ, ⟨ga, gn, gc, e4⟩, hzl⟩ := kints_cells g4
          obtain ⟨a5, e5, _, w5⟩ := DataW.trod_int Tryz.underlying3 g5
          simp at e0 e1 e2 e5
          subst e0 e1 e2 e3 e4 e5
          refine ⟨⟨s0, a1, a2, ra, rn, rc, rs, ga, gn, gc, zs, a5⟩, fun _ => ⟨⟨hR, hrl, hZ, hzl, kbd_u32 w1, kbd_i64 w2, by unfold maxLen at w0; show (s0.size : Int) ≤ _; omega⟩, fun j u hj => ?_⟩⟩
          have hj6 : j < 6 := by
            rcases Nat.lt_or_ge j 6 with h | h
            · exact h
            · rw [List.getElem?_eq_none (by simpa [axC] using h)] at hj; cases hj
          rw [hcell j hj6]
          exact hj
      · exact ⟨⟨ByteArray.empty, 0, 0, none, 0, 0, [], none, 0, 0, [], 0⟩, fun h => absurd h hi⟩
    obtain ⟨x, hxx⟩ := Classical.axiomOfChoice each
    have hll : ((List.range len).map x).length = len := by simp
    have hget : ∀ (i : Nat) (o : Ax), ((List.range len).map x)[i]? = some o → i < len ∧ o = x i := by
      intro i o ho
      have hi : i < len := by have := (List.getElem?_eq_some_iff.1 ho).1; simpa using this
      rw [List.getElem?_map, List.getElem?_range hi] at ho
      exact ⟨hi, (Option.some.inj ho).symm⟩
    refine ⟨(List.range len).map x, ⟨⟨some a, _, by rw [hll], by rw [hll]; exact hl, fun hp => ?_⟩, fun o ho => ?_⟩, by rw [hll]; unfold maxLen at hm; omega⟩
    · obtain ⟨b, off, spot⟩ := a
      have hp' : 0 < len := by omega
      have hspot : spot = none := by
        have := (hxx 0 hp').2 0 _ rfl
        simpa [Addr.add] using World.cell?_spot this
      subst hspot
      refine ⟨b, off, rfl, fun i o ho j u hj => ?_⟩
      obtain ⟨hi, rfl⟩ := hget i o ho
      have := (hxx i hi).2 j u hj
      rwa [kadd_plain, kadd_plain] at this
    · obtain ⟨i, hi, rfl⟩ := List.mem_map.1 ho
      exact (hxx i (List.mem_range.1 hi)).1
end Go.Proofs.YtcccaejjhodnkabGreatDoor
