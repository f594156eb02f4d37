/-
  The document's keep: its room, and the row of what it has; Find, Put.
-/
import Derived.Test.YtcccaejjhodnkabGreatDoorQKpPut
namespace Go.Proofs.YtcccaejjhodnkabGreatDoor
open Go.RowKit Go.Maps
open Num
set_option linter.unusedVariables false
theorem infoKeptM : (Tryz.prog.info? 51).map (fun i => (i.zero, i.size, i.bytes)) = some (some (.agg #[.int .u32 0, .int .i64 0, .slice none 0 0, .slice none 0 0]), 4, 64) := by kernel_rfl
/-- a row of what the document keeps, as it is read -/
def KeptIn (w : World) (mb : Nat) (v : Value) (l : List Kx) : Prop := ∃ ao cap, v = .slice ao l.length cap ∧ l.length ≤ cap ∧ (0 < l.length → ∃ g off : Nat, ao = some ⟨g, off, none⟩ ∧ g ≠ mb ∧ ∀ (i : Nat) (x : Kx), l[i]? = some x → ∀ (j : Nat) (u : Value), (kC x)[j]? = some u → w.cell? ⟨g, off + i * 4 + j, none⟩ = some u)
structure MRow (w : World) (mb : Nat) (many : Int) (v : Value) (l : List Kx) : Prop where
  st : RowIs w mb 33 2 (fun j => if j = 0 then .int .i64 many else v)
  l : KeptIn w mb v l
theorem MRow.c0 {w : World} {mb : Nat} {many : Int} {v : Value} {l : List Kx} (M : MRow w mb many v l) : w.cell? ⟨mb, 0, none⟩ = some (.int .i64 many) := M.st.cell (j := 0) (by omega)
theorem MRow.c1 {w : World} {mb : Nat} {many : Int} {v : Value} {l : List Kx} (M : MRow w mb many v l) : w.cell? ⟨mb, 1, none⟩ = some v := M.st.cell (j := 1) (by omega)
theorem MRow.lt {w : World} {mb : Nat} {many : Int} {v : Value} {l : List Kx} (M : MRow w mb many v l) : mb < w.heap.size := M.st.lt
theorem MRow.fz {w : World} {mb : Nat} {many : Int} {v : Value} {l : List Kx} (M : MRow w mb many v l) (j : Nat) : w.frozen? ⟨mb, j, none⟩ = false := M.st.fz j
theorem KeptIn.blocks {w w' : World} {mb : Nat} {v : Value} {l : List Kx} (A : KeptIn w mb v l) (h : ∀ k, k < w.heap.size → v.ownBlock = some k → w'.heap[k]? = w.heap[k]?) : KeptIn w' mb v l := by
  obtain ⟨ao, cap, rfl, hc, hh⟩ := A
  refine ⟨ao, cap, rfl, hc, fun hp => ?_⟩
  obtain ⟨g, off, rfl, hg, hcell⟩ := hh hp
  refine ⟨g, off, rfl, hg, fun i x hx j u hu => ?_⟩
  have h1 := hcell i x hx j u hu
  exact (World.cell?_of_block (a := ⟨g, off + i * 4 + j, none⟩) (h g (World.block_lt_of_cell? _ _ h1) rfl)).trans h1
theorem MRow.stays {w w' : World} {mb : Nat} {many : Int} {v : Value} {l : List Kx} (M : MRow w mb many v l) (h : Below w.heap.size w w') : MRow w' mb many v l := ⟨M.st.stays h, M.l.blocks fun k hk _ => h.block k hk⟩
/-- another block is turned -/
theorem MRow.other {w w' : World} {mb kb : Nat} {many : Int} {v : Value} {l : List Kx} (M : MRow w mb many v l) (h : w.grownBy w' (some kb)) (h1 : mb ≠ kb) (h2 : v.ownBlock ≠ some kb) : MRow w' mb many v l :=
  ⟨M.st.block (h.block mb M.lt (fun e => by injection e with e; exact h1 e)), M.l.blocks fun k hk e => h.block k hk (fun e' => by injection e' with e'; rw [e'] at e; exact h2 e)⟩
theorem MRow.form {w : World} {mb : Nat} {many : Int} {v : Value} {l : List Kx} (M : MRow w mb many v l) : ∃ ao cap, v = .slice ao l.length cap := let ⟨ao, cap, e, _⟩ := M.l; ⟨ao, cap, e⟩
theorem kept_cells {w : World} {g off i : Nat} {x : Kx} (h : ∀ (j : Nat) (u : Value), (kC x)[j]? = some u → w.cell? ⟨g, off + i * 4 + j, none⟩ = some u) :
    w.cell? ⟨g, off + i * 4, none⟩ = some (.int .u32 x.pc) ∧ w.cell? ⟨g, off + i * 4 + 1, none⟩ = some (.int .i64 x.many) ∧ w.cell? ⟨g, off + i * 4 + 2, none⟩ = some (.slice x.ra x.rn x.rc) ∧ w.cell? ⟨g, off + i * 4 + 3, none⟩ = some (.slice x.ga x.gn x.gc) :=
  ⟨h 0 _ rfl, h 1 _ rfl, h 2 _ rfl, h 3 _ rfl⟩
/-- a row of one's own is read -/
theorem kept_of_own {w : World} {base mb : Nat} {v : Value} {l : List Kx} (h : w.ownsRow base 51 4 v l.length (kL l)) (hm : mb < base) : KeptIn w mb v l := by
  rcases h.2 with ⟨rfl, h0⟩ | ⟨g, cap, cur, rfl, hbg, hg, hnc, _⟩
  · exact ⟨none, 0, by rw [h0], by omega, fun hp => by omega⟩
  · refine ⟨_, cap, rfl, hnc, fun _ => ⟨g, 0, rfl, by omega, fun i x hx j u hu => ?_⟩⟩
    have hj : j < 4 := by have := (List.getElem?_eq_some_iff.1 hu).1; simpa [kC] using this
    have := h.cells (g := g) rfl (i * 4 + j) u (by rw [kL_get l i x j hx hj]; exact hu)
    rw [add_lit] at this
    rw [Nat.zero_add]; exact this
/-- .. all but the first -/
theorem kept_tail {w : World} {base mb g cap : Nat} {y : Kx} {r : List Kx} (h : w.ownsRow base 51 4 (.slice (some ⟨g, 0, none⟩) (r.length + 1) cap) (r.length + 1) (kL (y :: r))) (hm : mb < base) {ad : Addr} (had : (if cap = 1 then some (⟨g, 0, none⟩ : Addr) else some ⟨g, 4, none⟩) = some ad) : KeptIn w mb (.slice (some ad) r.length (cap - 1)) r := by
  have hc := own_cap h
  have hb := (own_lt h g rfl).2
  refine ⟨_, cap - 1, rfl, by omega, fun hp => ?_⟩
  have h1 : cap ≠ 1 := by omega
  rw [if_neg h1] at had
  injection had with had
  subst had
  refine ⟨g, 4, rfl, by omega, fun i x hx j u hu => ?_⟩
  have hj : j < 4 := by have := (List.getElem?_eq_some_iff.1 hu).1; simpa [kC] using this
  have := h.cells (g := g) rfl ((i + 1) * 4 + j) u (by rw [kL_get (y :: r) (i + 1) x j (by simpa using hx) hj]; exact hu)
  rw [add_lit] at this
  rw [show 4 + i * 4 + j = (i + 1) * 4 + j by omega]; exact this
theorem MRow.mk2 {w : World} {mb : Nat} {many : Int} {v v' : Value} {l' : List Kx} (st : RowIs w mb 33 2 (fun j => if j = 0 then .int .i64 many else v)) (h : KeptIn w mb v' l') (hv : v'.ownBlock ≠ some mb) : MRow (w.setCell ⟨mb, 1, none⟩ v') mb many v' l' :=
  ⟨st.put 1 v' _ rfl (fun j hj hne => by obtain rfl : j = 0 := by omega
                                         rfl), h.blocks fun k _ e => Below.heap_setCell _ _ _ _ (by intro e'; have e2 : k = mb := e'; rw [e2] at e; exact hv e)⟩
/-- where a place is, -1 else -/
def findM (pc : Int) (l : List Kx) : Int := if l.findIdx (fun x => decide (x.pc = pc)) < l.length then (l.findIdx (fun x => decide (x.pc = pc)) : Int) else -1
set_option maxRecDepth 100000 in
set_option maxHeartbeats 2000000 in
theorem find_any {w : World} {mb : Nat} {many : Int} {v : Value} {l : List Kx} (M : MRow w mb many v l) (hl : l.length ≤ 1000) (pc : Int) :
    Calls Tryz.prog 14 #[.pointer (some ⟨mb, 0, none⟩), .int .u32 pc] w fun e w' => e = .returned (.int .i64 (findM pc l)) ∧ w' = w := by
  obtain ⟨ao, cap, rfl, hc, hh⟩ := M.l
  have HH : Hid (0 < l.length → ∃ g off : Nat, ao = some ⟨g, off, none⟩ ∧ g ≠ mb ∧ ∀ (i : Nat) (x : Kx), l[i]? = some x → ∀ (j : Nat) (u : Value), (kC x)[j]? = some u → w.cell? ⟨g, off + i * 4 + j, none⟩ = some u) := hh
  have k1 := M.c1
  have zk := M.lt
  obtain ⟨R, hR⟩ : ∃ R, findM pc l = R := ⟨_, rfl⟩
  have HR : Hid (findM pc l = R) := hR
  rw [hR]
  clear M hh hR
  go_enter Tryz.func14, Tryz.ntmps14
  go_wp2
  go_loop [5] (fun i => ∃ j : Nat, j ≤ l.length ∧ i = .int .i64 j ∧ Hid (∀ k x, k < j → l[k]? = some x → x.pc ≠ pc)) (fun i => l.length - (intOf i).toNat)
  case atStart => exact ⟨0, Nat.zero_le _, rfl, (by intro k x hk; omega)⟩
  case round =>
    obtain ⟨j, hj, rfl, HN⟩ := hrel
    by_cases hlt : j < l.length
    · obtain ⟨x, hx⟩ : ∃ x, l[j]? = some x := ⟨_, List.getElem?_eq_getElem hlt⟩
      obtain ⟨g, off, rfl, _, hcell⟩ := HH.out (by omega)
      obtain ⟨x0, x1, x2, x3⟩ := kept_cells (hcell j x hx)
      have zb := World.block_lt_of_cell? _ _ x0
      have hlt' : (j : Int) < l.length := by omega
      have HX : Hid (l[j]? = some x) := hx
      clear hcell hx
      by_cases hp : x.pc = pc
      · have hp' : (x.pc == pc) = true := by simpa using hp
        have HT : Hid (R = (j : Int)) := by
          show _ = _
          rw [← HR.out]; unfold findM
          have hf : l.findIdx (fun x => decide (x.pc = pc)) = j := by
            rw [List.findIdx_eq hlt]
            have e1 : l[j] = x := by have := HX.out; rw [List.getElem?_eq_getElem hlt] at this; exact Option.some.inj this
            refine ⟨by rw [e1]; simpa using hp, fun k hk => ?_⟩
            have := HN.out k l[k] hk (List.getElem?_eq_getElem (by omega))
            simpa using this
          rw [hf, if_pos hlt]
        clear HN HR
        go_wp2
        go_ret
        exact ⟨by rw [HT.out]; rfl, rfl⟩
      · have hp' : (x.pc == pc) = false := by simpa using hp
        have HN2 : Hid (∀ k x, k < j + 1 → l[k]? = some x → x.pc ≠ pc) := by
          intro k y hk hy
          by_cases e : k = j
          · subst e
            rw [HX.out] at hy
            obtain rfl := Option.some.inj hy
            exact hp
          · exact HN.out k y (by omega) hy
        clear HN
        go_wp2
        go_round
        case rel => exact ⟨j + 1, by omega, by go_num, HN2.out⟩
        case measure => simp [intOf]; omega
    · obtain rfl : j = l.length := by omega
      have HT : Hid (R = -1) := by
        show _ = _
        rw [← HR.out]; unfold findM
        rw [if_neg]
        intro h
        have h1 := List.findIdx_getElem (xs := l) (p := fun x => decide (x.pc = pc)) (w := h)
        have := HN.out _ _ h (List.getElem?_eq_getElem h)
        simp at h1
        exact this h1
      clear HN HR
      go_wp2
      go_ret
      exact ⟨by rw [HT.out]; rfl, rfl⟩
end Go.Proofs.YtcccaejjhodnkabGreatDoor
