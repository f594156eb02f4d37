/-
  Texts that came in; the document's rows while it assembles: names, places, words.
-/
import Derived.Test.YtccnliihdhnckaaGreatDoorKDA3
import Derived.Test.YtccnliihdhnckaaGreatDoorQAsmH
import Derived.Test.YtccnliihdhnckaaGreatDoorQDecodeOf
import Derived.Test.YtccnliihdhnckaaGreatDoorQEOa
import Derived.Test.YtccnliihdhnckaaGreatDoorQEOb
namespace Go.Proofs.YtccnliihdhnckaaGreatDoor
open Go.RowKit Go.Shelf Go.Joins Go.Maps
open Num Tab Fm Txt
set_option linter.unusedVariables false
/-- texts that lie in a slice -/
structure TIn (w : World) (ao : Option Addr) (ls : List (List UInt8)) : Prop where
  sh : 0 < ls.length → ∃ b off, ao = some ⟨b, off, none⟩ ∧ ∀ i x, ls[i]? = some x → w.cell? ⟨b, off + i, none⟩ = some (.string ⟨x.toArray⟩)
theorem TIn.stays {w w' : World} {ao : Option Addr} {ls : List (List UInt8)} (X : TIn w ao ls) (h : Below w.heap.size w w') : TIn w' ao ls :=
  ⟨fun hp => by
    obtain ⟨b, off, e, hc⟩ := X.sh hp
    exact ⟨b, off, e, fun i x hx => cell_stays h (Nat.le_refl _) (hc i x hx)⟩⟩
/-- is one of them too long? -/
def loT (ls : List (List UInt8)) (many most : Int) : Int := if many < (ls.length : Int) then 1 else if ls.any (fun l => decide (most < (l.length : Int))) then 1 else 0
theorem any_take {ls : List (List UInt8)} {p : List UInt8 → Bool} {j : Nat} (h : j < ls.length) : (ls.take (j + 1)).any p = ((ls.take j).any p || p ls[j]) := by
  rw [List.take_succ_eq_append_getElem h, List.any_append]; simp
set_option maxRecDepth 10000 in
set_option maxHeartbeats 2000000 in
theorem longT_any (w : World) {ao : Option Addr} {ls : List (List UInt8)} (A : TIn w ao ls) (ca : Nat) (hs : ∀ l ∈ ls, (l.length : Int) ≤ 9223372036854775807) (hn : (ls.length : Int) ≤ 9223372036854775807) (many most : Int) :
    Calls Tryz.prog 14 #[.slice ao ls.length ca, .int .i64 many, .int .i64 most] w fun e w' => e = .returned (.int .i64 (loT ls many most)) ∧ Below w.heap.size w w' := by
  have HA : Hid (TIn w ao ls) := A
  have HS : Hid (∀ l ∈ ls, (l.length : Int) ≤ 9223372036854775807) := hs
  have HV : Hid (loT ls many most = if many < (ls.length : Int) then 1 else if ls.any (fun l => decide (most < (l.length : Int))) then 1 else 0) := rfl
  generalize hR : loT ls many most = R at HV
  have HLO : Hid (loT ls many most = R) := hR
  clear hR
  clear A hs
  by_cases h0 : many < (ls.length : Int)
  · have HR : Hid (R = 1) := by show R = 1; rw [HV.out, if_pos h0]
    rw [HR.out]
    go_enter Tryz.func14, Tryz.ntmps14
    go_wp2
    go_ret
    exact ⟨rfl, Below.refl _ _⟩
  have HV2 : Hid (R = if ls.any (fun l => decide (most < (l.length : Int))) then 1 else 0) := by show R = if ls.any (fun l => decide (most < (l.length : Int))) then 1 else 0; rw [HV.out, if_neg h0]
  clear HV
  go_enter Tryz.func14, Tryz.ntmps14
  go_wp2
  go_loopw [7] (fun i wr => ∃ j q : Nat, j ≤ ls.length ∧ i = .int .i64 j ∧ wr = w.drewN q ∧ Hid ((ls.take j).any (fun l => decide (most < (l.length : Int))) = false)) (fun i _ => ls.length - (intOf i).toNat)
  case atStart => exact ⟨0, 0, Nat.zero_le _, rfl, rfl, rfl⟩
  case round =>
    obtain ⟨j, q, hj, rfl, rfl, HJ⟩ := hrel
    by_cases hlt : j < ls.length
    · obtain ⟨ba, oa, rfl, ha⟩ := HA.out.sh (by omega)
      have a1 := ha j _ (List.getElem?_eq_getElem hlt)
      have hls := HS.out _ (List.getElem_mem hlt)
      have HT := any_take (p := fun l => decide (most < (l.length : Int))) hlt
      have HTH : Hid ((ls.take (j + 1)).any (fun l => decide (most < (l.length : Int))) = ((ls.take j).any (fun l => decide (most < (l.length : Int))) || decide (most < (ls[j].length : Int)))) := HT
      clear HT
      have HM : Hid (∀ h : decide (most < (ls[j].length : Int)) = true, ls.any (fun l => decide (most < (l.length : Int))) = true) := fun h => List.any_eq_true.2 ⟨_, List.getElem_mem hlt, h⟩
      have hlt' : (j : Int) < ls.length := by omega
      clear ha
      generalize ls[j] = l at *
      by_cases hm : most < (l.length : Int)
      · have HR : Hid (R = 1) := by show R = 1; rw [HV2.out, if_pos (HM.out (decide_eq_true hm))]
        clear HV2 HTH HM
        go_wp2
        go_ret
        exact ⟨ret_int (by rw [HR.out]), below_drewN (Below.refl _ _) _⟩
      · have HJ2 : Hid ((ls.take (j + 1)).any (fun l => decide (most < (l.length : Int))) = false) := by show _ = false; rw [HTH.out, HJ.out, decide_eq_false hm]; rfl
        clear HTH HM
        go_wp2
        go_roundw
        case rel => exact ⟨j + 1, q, by omega, by go_num, rfl, HJ2⟩
        case measure => simp [intOf]; omega
    · have HR : Hid (R = 0) := by
        show R = 0
        rw [HV2.out]
        have h := HJ.out
        rw [List.take_of_length_le (by omega)] at h
        rw [if_neg (by rw [h]; decide)]
      go_wp2
      go_ret
      exact ⟨ret_int (by rw [HR.out]), below_drewN (Below.refl _ _) _⟩
/-! ### rows apart -/
def Ap2 (r v : Value) : Prop := ∀ k, r.ownBlock = some k → v.ownBlock ≠ some k
theorem Ap2.symm {r v : Value} (h : Ap2 r v) : Ap2 v r := fun k e g => h k g e
theorem Ap2.kept {w w' : World} {b e n s : Nat} {r v : Value} {xs : List Value} (h : w.ownsRow b e s v n xs) (g : w.grownBy w' r.ownBlock) (d : Ap2 r v) : w'.ownsRow b e s v n xs := by
  refine h.kept g ?_
  cases hv : v.ownBlock with
  | none => exact Or.inl rfl
  | some k => exact Or.inr (fun e => d k e.symm hv)
theorem Ap2.moved {w : World} {r r' v : Value} (d : Ap2 r v) (m : Moved w r r') (h : ∀ k, v.ownBlock = some k → k < w.heap.size) : Ap2 r' v := fun k e g => by
  rcases m k e with h1 | h1
  · exact d k h1 g
  · have := h k g; omega
structure DS (w wr : World) (vn vp vo : Value) (nm : List (List UInt8)) (pl ou : List Int) : Prop where
  bel : Below w.heap.size w wr
  f0 : wr.cell? ⟨w.heap.size, 0, none⟩ = some (.int .i64 0)
  f1 : wr.cell? ⟨w.heap.size, 1, none⟩ = some (.int .i64 0)
  ff : ∀ j, wr.frozen? ⟨w.heap.size, j, none⟩ = false
  rn : wr.ownsRow (w.heap.size + 1) 9 1 vn nm.length (nm.map strV)
  rp : wr.ownsRow (w.heap.size + 1) 22 1 vp pl.length (pl.map u32V)
  ro : wr.ownsRow (w.heap.size + 1) 22 1 vo ou.length (ou.map u32V)
  d1 : Ap2 vn vp
  d2 : Ap2 vn vo
  d3 : Ap2 vp vo
section
variable {w wr w' : World} {vn vp vo : Value} {nm : List (List UInt8)} {pl ou : List Int}
theorem DS.flt (D : DS w wr vn vp vo nm pl ou) : w.heap.size < wr.heap.size := cell_lt D.f0
theorem DS.blocks (D : DS w wr vn vp vo nm pl ou) (r : Option Nat) (hr : ∀ k, r = some k → w.heap.size + 1 ≤ k) (g : wr.grownBy w' r) : Below w.heap.size w w' ∧ w'.cell? ⟨w.heap.size, 0, none⟩ = some (.int .i64 0) ∧ w'.cell? ⟨w.heap.size, 1, none⟩ = some (.int .i64 0) ∧ ∀ j, w'.frozen? ⟨w.heap.size, j, none⟩ = false := by
  have hb : w'.heap[w.heap.size]? = wr.heap[w.heap.size]? := g.block _ D.flt (fun e => by have := hr _ e.symm; omega)
  refine ⟨⟨g.os.trans D.bel.os, g.tape.trans D.bel.tape, g.output.trans D.bel.output, Nat.le_trans D.bel.size g.size, fun k hk => (g.block k (by have := D.bel.size; omega) (fun e => by have := hr _ e.symm; omega)).trans (D.bel.block k hk)⟩, ?_, ?_, fun j => ?_⟩
  · rw [World.cell?_of_block (a := ⟨w.heap.size, 0, none⟩) hb]; exact D.f0
  · rw [World.cell?_of_block (a := ⟨w.heap.size, 1, none⟩) hb]; exact D.f1
  · rw [World.frozen?_of_block (a := ⟨w.heap.size, j, none⟩) hb]; exact D.ff j
theorem DS.stays (D : DS w wr vn vp vo nm pl ou) (h : Below wr.heap.size wr w') : DS w w' vn vp vo nm pl ou := by
  obtain ⟨a, b, c, d⟩ := D.blocks none (fun k e => by cases e) ⟨h.os, h.tape, h.output, h.size, fun k hk _ => h.block k hk⟩
  exact ⟨a, b, c, d, owns_blocks D.rn (fun k e => h.block k (D.rn.lt k e).2), owns_blocks D.rp (fun k e => h.block k (D.rp.lt k e).2), owns_blocks D.ro (fun k e => h.block k (D.ro.lt k e).2), D.d1, D.d2, D.d3⟩
theorem DS.more (D : DS w wr vn vp vo nm pl ou) (o : Obj) : DS w (wr.alloc o) vn vp vo nm pl ou := D.stays ((Below.refl _ _).alloc (Nat.le_refl _) o)
theorem DS.addN (D : DS w wr vn vp vo nm pl ou) {vn' : Value} (x : List UInt8) (h1 : w'.ownsRow (w.heap.size + 1) 9 1 vn' (nm.length + 1) (nm.map strV ++ [strV x])) (h2 : wr.grownBy w' vn.ownBlock) (h3 : Moved wr vn vn') : DS w w' vn' vp vo (nm ++ [x]) pl ou := by
  obtain ⟨a, b, c, d⟩ := D.blocks vn.ownBlock (fun k e => (D.rn.lt k e).1) h2
  exact ⟨a, b, c, d, by rw [List.length_append, List.map_append]; exact h1, Ap2.kept D.rp h2 D.d1, Ap2.kept D.ro h2 D.d2, D.d1.moved h3 (fun k e => (D.rp.lt k e).2), D.d2.moved h3 (fun k e => (D.ro.lt k e).2), D.d3⟩
theorem DS.addP (D : DS w wr vn vp vo nm pl ou) {vp' : Value} (x : Int) (h1 : w'.ownsRow (w.heap.size + 1) 22 1 vp' (pl.length + 1) (pl.map u32V ++ [u32V x])) (h2 : wr.grownBy w' vp.ownBlock) (h3 : Moved wr vp vp') : DS w w' vn vp' vo nm (pl ++ [x]) ou := by
  obtain ⟨a, b, c, d⟩ := D.blocks vp.ownBlock (fun k e => (D.rp.lt k e).1) h2
  exact ⟨a, b, c, d, Ap2.kept D.rn h2 D.d1.symm, by rw [List.length_append, List.map_append]; exact h1, Ap2.kept D.ro h2 D.d3, (D.d1.symm.moved h3 (fun k e => (D.rn.lt k e).2)).symm, D.d2, D.d3.moved h3 (fun k e => (D.ro.lt k e).2)⟩
theorem DS.addO (D : DS w wr vn vp vo nm pl ou) {vo' : Value} (x : Int) (h1 : w'.ownsRow (w.heap.size + 1) 22 1 vo' (ou.length + 1) (ou.map u32V ++ [u32V x])) (h2 : wr.grownBy w' vo.ownBlock) (h3 : Moved wr vo vo') : DS w w' vn vp vo' nm pl (ou ++ [x]) := by
  obtain ⟨a, b, c, d⟩ := D.blocks vo.ownBlock (fun k e => (D.ro.lt k e).1) h2
  exact ⟨a, b, c, d, Ap2.kept D.rn h2 D.d2.symm, Ap2.kept D.rp h2 D.d3.symm, by rw [List.length_append, List.map_append]; exact h1, D.d1, (D.d2.symm.moved h3 (fun k e => (D.rn.lt k e).2)).symm, (D.d3.symm.moved h3 (fun k e => (D.rp.lt k e).2)).symm⟩
theorem DS.setO {g n cap : Nat} (D : DS w wr vn vp (.slice (some ⟨g, 0, none⟩) n cap) nm pl ou) (hn : n = ou.length) (j : Nat) (x : Int) : DS w (wr.setCell ⟨g, j, none⟩ (.int .u32 x)) vn vp (.slice (some ⟨g, 0, none⟩) n cap) nm pl (ou.set j x) := by
  subst hn
  obtain ⟨h1, h2⟩ := D.ro.stored j (.int .u32 x)
  have h2' : wr.grownBy (wr.setCell ⟨g, j, none⟩ (.int .u32 x)) (Value.slice (some ⟨g, 0, none⟩) ou.length cap).ownBlock := h2
  obtain ⟨a, b, c, d⟩ := D.blocks _ (fun k e => (D.ro.lt k e).1) h2'
  refine ⟨a, b, c, d, Ap2.kept D.rn h2' D.d2.symm, Ap2.kept D.rp h2' D.d3.symm, ?_, D.d1, D.d2, D.d3⟩
  rw [List.length_set, List.map_set]; exact h1
end
theorem DS.start (w : World) : DS w (w.alloc (.cells #[.int .i64 0, .int .i64 0] 46)) (.slice none 0 0) (.slice none 0 0) (.slice none 0 0) [] [] [] :=
  ⟨(Below.refl _ _).alloc (Nat.le_refl _) _, by simp, by simp, fun j => by simp, World.ownsRow_nil _ _ _ _, World.ownsRow_nil _ _ _ _, World.ownsRow_nil _ _ _ _, (fun k e => by cases e), (fun k e => by cases e), (fun k e => by cases e)⟩
/-- the shape of a row's value -/
theorem row_shape {w : World} {b e n : Nat} {v : Value} {xs : List Value} (h : w.ownsRow b e 1 v n xs) : ∃ ao cap, v = .slice ao n cap ∧ (0 < n → ∃ q, ao = some ⟨q, 0, none⟩) := by
  rcases h.2 with ⟨e, h⟩ | ⟨q, cap, cur, e, _⟩
  · exact ⟨none, 0, by rw [e, h], fun h2 => by omega⟩
  · exact ⟨_, cap, e, fun _ => ⟨q, rfl⟩⟩
end Go.Proofs.YtccnliihdhnckaaGreatDoor
/-
  What the verifier's EncodeOf answers of any instruction.
-/
namespace Go.Proofs.YtccnliihdhnckaaGreatDoor
open Go.RowKit Go.Extern.Stop Go.Stop Go.Extern
open Num Tab Fm
set_option linter.unusedVariables false
theorem encodeOf_in (k : Nat) (h1 : 1 ≤ k) (hk : k < 54) (s t d m : Int) (m0 : 0 ≤ m) (m1 : m < 4294967296) (w : World) :
    Calls Tryz.prog 9 #[ins k s t d m] w fun e w' => e = .returned (encO k s t d m) ∧ Below w.heap.size w w' := by
  have hf := fit_all k hk
  have hn := sh_all k hk
  have h45 := sh_45 k hk
  have hm := mn_0 k hk
  unfold fitB at hf
  obtain ⟨n, hsh⟩ : ∃ n, sh k = n := ⟨_, rfl⟩
  rw [hsh] at hf hn h45 hm
  have hc : n = 0 ∨ n = 1 ∨ n = 2 ∨ n = 3 ∨ n = 4 ∨ n = 5 ∨ n = 6 ∨ n = 7 ∨ n = 8 ∨ n = 9 ∨ n = 10 ∨ n = 11 := by omega
  clear hn
  rcases hc with rfl | rfl | rfl | rfl | rfl | rfl | rfl | rfl | rfl | rfl | rfl | rfl
  · by_cases e45 : k = 45
    · simp [hasI, hasJ, lt, ltL, e45] at hf
      subst e45
      exact encodeOf_e 45 h1 hk hsh hf.1 hf.2.2.2.1 hf.2.2.2.2 s t d m m0 m1 w
    · simp [hasI, hasJ, lt, ltL, e45] at hf
      exact encodeOf_0 k h1 hk hsh hf.1 hf.2.1 hf.2.2.1 hf.2.2.2 s t d m m0 m1 w
  · have e45 : ¬ k = 45 := fun e => by have := h45 e; omega
    simp [hasI, hasJ, lt, ltL, e45] at hf
    exact encodeOf_1 k h1 hk hsh hf.1 hf.2.1 hf.2.2.1 hf.2.2.2 s t d m m0 m1 w
  · have e45 : ¬ k = 45 := fun e => by have := h45 e; omega
    simp [hasI, hasJ, lt, ltL, e45] at hf
    exact encodeOf_2 k h1 hk hsh hf.1 hf.2.1 hf.2.2.1 hf.2.2.2 s t d m m0 m1 w
  · have e45 : ¬ k = 45 := fun e => by have := h45 e; omega
    simp [hasI, hasJ, lt, ltL, e45] at hf
    exact encodeOf_3 k h1 hk hsh hf.1 hf.2.1 hf.2.2.1 hf.2.2.2 s t d m m0 m1 w
  · have e45 : ¬ k = 45 := fun e => by have := h45 e; omega
    simp [hasI, hasJ, lt, ltL, e45] at hf
    exact encodeOf_4 k h1 hk hsh hf.1 hf.2.1 hf.2.2.1 hf.2.2.2 s t d m m0 m1 w
  · have e45 : ¬ k = 45 := fun e => by have := h45 e; omega
    simp [hasI, hasJ, lt, ltL, e45] at hf
    exact encodeOf_5 k h1 hk hsh hf.1 hf.2.1 hf.2.2.1 hf.2.2.2 s t d m m0 m1 w
  · have e45 : ¬ k = 45 := fun e => by have := h45 e; omega
    simp [hasI, hasJ, lt, ltL, e45] at hf
    exact encodeOf_6 k h1 hk hsh hf.1 hf.2.1 hf.2.2.1 hf.2.2.2 s t d m m0 m1 w
  · have hN : mn k = 0 := hm (by decide)
    simp [hasI, hasJ, lt, ltL] at hf
    exact encodeOf_7 k h1 hk hsh hf.2.1 hf.2.2.1 hf.2.2.2 hN hf.1 s t d m m0 m1 w
  · have hN : mn k = 0 := hm (by decide)
    simp [hasI, hasJ, lt, ltL] at hf
    exact encodeOf_8 k h1 hk hsh hf.2.1 hf.2.2.1 hf.2.2.2 hN hf.1 s t d m m0 m1 w
  · have hN : mn k = 0 := hm (by decide)
    simp [hasI, hasJ, lt, ltL] at hf
    exact encodeOf_9 k h1 hk hsh hf.2.1 hf.2.2.1 hf.2.2.2 hN hf.1 s t d m m0 m1 w
  · have hN : mn k = 0 := hm (by decide)
    simp [hasI, hasJ, lt, ltL] at hf
    exact encodeOf_10 k h1 hk hsh hf.2.1 hf.2.2.1 hf.2.2.2 hN hf.1 s t d m m0 m1 w
  · have e45 : ¬ k = 45 := fun e => by have := h45 e; omega
    simp [hasI, hasJ, lt, ltL, e45] at hf
    exact encodeOf_11 k h1 hk hsh hf.1 hf.2.1 hf.2.2.1 hf.2.2.2.1 hf.2.2.2.2 s t d m m0 m1 w
end Go.Proofs.YtccnliihdhnckaaGreatDoor
/-
  What the document has at each line, and what the program has there.
-/
namespace Go.Proofs.YtccnliihdhnckaaGreatDoor
open Go.RowKit Go.Shelf Go.Joins Go.Maps
open Num Tab Fm Txt
set_option linter.unusedVariables false
/-- the part of a line -/
def ptO (i : Nat) (l : List UInt8) : Option Pt :=
  if lkOf l = 108 then none
  else if lkOf l = 119 then (match wordS l with | some n => some ⟨i, n, 0, ⟨0, 0, 0, 0⟩, []⟩ | none => none)
  else (match parseS (cutT l) with | .ok k f => some ⟨i, 0, k, f, cutN l⟩ | _ => none)
def ptsF : List (List UInt8) → Nat → List Pt
  | [], _ => []
  | l :: ls, i => (ptO i l).toList ++ ptsF ls (i + 1)
theorem ptsF_snoc (l : List UInt8) : ∀ (a : List (List UInt8)) (i : Nat), ptsF (a ++ [l]) i = ptsF a i ++ (ptO (i + a.length) l).toList
  | [], i => by simp [ptsF]
  | x :: a, i => by
    rw [List.cons_append, ptsF, ptsF, ptsF_snoc l a (i + 1), List.append_assoc, List.length_cons, show i + 1 + a.length = i + (a.length + 1) by omega]
theorem ptsF_app : ∀ (a b : List (List UInt8)) (i : Nat), ptsF (a ++ b) i = ptsF a i ++ ptsF b (i + a.length)
  | [], b, i => by simp [ptsF]
  | x :: a, b, i => by
    rw [List.cons_append, ptsF, ptsF, ptsF_app a b (i + 1), List.append_assoc, List.length_cons, show i + 1 + a.length = i + (a.length + 1) by omega]
/-- lines that were read: their parts -/
structure P1 (ls : List (List UInt8)) (j : Nat) (ps : List Pt) : Prop where
  ps : ps = ptsF (ls.take j) 0
  all : ∀ i l, i < j → ls[i]? = some l → lkOf l = 108 ∨ ∃ p, ptO i l = some p
theorem P1.nil (ls : List (List UInt8)) : P1 ls 0 [] := ⟨rfl, fun i l h => by omega⟩
theorem P1.next {ls : List (List UInt8)} {j : Nat} {ps : List Pt} (P : P1 ls j ps) {l : List UInt8} (hl : ls[j]? = some l) (hj : j < ls.length) (ho : lkOf l = 108 ∨ ∃ p, ptO j l = some p) : P1 ls (j + 1) (ps ++ (ptO j l).toList) := by
  have e : ls.take (j + 1) = ls.take j ++ [l] := by
    rw [List.take_succ_eq_append_getElem hj]; rw [List.getElem?_eq_getElem hj] at hl; injection hl with hl; rw [hl]
  refine ⟨?_, fun i x hi hx => ?_⟩
  · rw [e, ptsF_snoc, ← P.ps]; simp [Nat.min_eq_left (Nat.le_of_lt hj)]
  · by_cases h : i = j
    · subst h; rw [hl] at hx; injection hx with hx; subst hx; exact ho
    · exact P.all i x (by omega) hx
/-- where a label is -/
def plc (org n : Int) : Int := (org + 4 * n) % 4294967296
structure LG (org : Int) (g : Lbs) (nm : List (List UInt8)) (pl : List Int) : Prop where
  len : pl.length = nm.length
  no : ∀ s, s ∉ nm → g s = none
  at' : ∀ (i : Nat) s, nm[i]? = some s → ∃ n, g s = some n ∧ pl[i]? = some (plc org n)
theorem LG.nil (org : Int) : LG org lNone [] [] := ⟨rfl, fun s _ => rfl, fun i s h => by simp at h⟩
theorem LG.isSome {org : Int} {g : Lbs} {nm : List (List UInt8)} {pl : List Int} (L : LG org g nm pl) (s : List UInt8) : (g s).isSome = true ↔ s ∈ nm := by
  constructor
  · intro h
    by_cases hm : s ∈ nm
    · exact hm
    · rw [L.no s hm] at h; cases h
  · intro hm
    obtain ⟨i, hi⟩ := List.mem_iff_getElem?.1 hm
    obtain ⟨n, h, _⟩ := L.at' i s hi
    rw [h]; rfl
theorem LG.put {org : Int} {g : Lbs} {nm : List (List UInt8)} {pl : List Int} (L : LG org g nm pl) {s : List UInt8} (hs : s ∉ nm) (n : Int) : LG org (lPut g s n) (nm ++ [s]) (pl ++ [plc org n]) := by
  refine ⟨by simp [L.len], fun t ht => ?_, fun i t ht => ?_⟩
  · simp at ht
    unfold lPut
    rw [if_neg ht.2]; exact L.no t ht.1
  · rcases Nat.lt_or_ge i nm.length with h | h
    · rw [List.getElem?_append_left h] at ht
      obtain ⟨m, h1, h2⟩ := L.at' i t ht
      refine ⟨m, ?_, by rw [List.getElem?_append_left (by rw [L.len]; exact h)]; exact h2⟩
      unfold lPut
      rw [if_neg (fun e : t = s => hs (by rw [← e]; exact List.mem_of_getElem? ht))]; exact h1
    · rw [List.getElem?_append_right h] at ht
      have hz : i = nm.length := by
        rcases Nat.eq_zero_or_pos (i - nm.length) with z | z
        · omega
        · obtain ⟨d, hd⟩ : ∃ d, i - nm.length = d + 1 := ⟨i - nm.length - 1, by omega⟩
          rw [hd] at ht; simp at ht
      subst hz
      simp at ht
      subst ht
      refine ⟨n, by unfold lPut; rw [if_pos rfl], ?_⟩
      rw [List.getElem?_append_right (by rw [L.len]; exact Nat.le_refl _), L.len]; simp
/-- the word that the document has of a part at first -/
def wP (p : Pt) : Int := if p.k = 0 then p.word else enc p.k p.f.s p.f.t p.f.d p.f.m
theorem top_br : ∀ k, k < 54 → (29 ≤ k ∧ k ≤ 34) → top (sh k) = if k = 29 ∨ k = 30 then 67108863 else 65535 := by decide
theorem ok_re {n : Nat} {s t d m m' : Int} (h : okB n s t d m = true) (hm : m' ≤ top n) : okB n s t d m' = true := by
  unfold okB at h ⊢
  simp only [Bool.and_eq_true] at h ⊢
  exact ⟨h.1, decide_eq_true hm⟩
theorem decodeOf_back (k : Nat) (hk : k < 54) (h1 : 1 ≤ k) (s t d m : Int) (hm : 0 ≤ m) (ok : okB (sh k) s t d m = true) (w : World) :
    Calls Tryz.prog 50 #[.int .u32 (enc k s t d m)] w fun e w' => e = .returned (ins k s t d m) ∧ Below w.heap.size w w' := by
  have e := enc_of k hk h1 s t d m hm ok
  refine (decodeOf_any _ e.1 e.2.1 w).mono ?_
  rintro e w' ⟨j, D, rfl, hb⟩
  obtain ⟨rfl, h2, h3, h4, h5⟩ := ins_back k hk h1 s t d m hm ok j _ _ _ _ ⟨D, rfl, rfl, rfl, rfl⟩
  exact ⟨by unfold decR; rw [h2, h3, h4, h5], hb⟩
theorem encodeOf_ok (k : Nat) (hk : k < 54) (h1 : 1 ≤ k) (s t d m : Int) (hm : 0 ≤ m) (hm1 : m < 4294967296) (ok : okB (sh k) s t d m = true) (w : World) :
    Calls Tryz.prog 9 #[ins k s t d m] w fun e w' => e = .returned (.tuple #[.int .u32 (enc k s t d m), .int .i64 0]) ∧ Below w.heap.size w w' := by
  refine (encodeOf_in k h1 hk s t d m hm hm1 w).mono ?_
  rintro e w' ⟨rfl, hb⟩
  exact ⟨by rw [encO_ok ok], hb⟩
theorem top_lt : ∀ k, k < 54 → top (sh k) < 4294967296 := by decide
theorem ok_m {k : Nat} {f : F} (h : okF k f) (hk : k < 54) : 0 ≤ f.m ∧ f.m < 4294967296 := by
  refine ⟨h.2, ?_⟩
  have h1 := h.1
  unfold okB at h1
  simp only [Bool.and_eq_true] at h1
  have := of_decide_eq_true h1.2
  have := top_lt k hk
  omega
/-- what is left of the document's words, some of them done -/
def ouF (vs : List Int) (ps : List Pt) : List Int := vs ++ ps.map wP
theorem ou_len (vs : List Int) (ps : List Pt) : (ouF vs ps).length = vs.length + ps.length := by simp [ouF]
theorem ou_at (vs : List Int) (p : Pt) (ps : List Pt) : (ouF vs (p :: ps))[vs.length]? = some (wP p) := by simp [ouF]
theorem ou_set (vs : List Int) (p : Pt) (ps : List Pt) (x : Int) : (ouF vs (p :: ps)).set vs.length x = ouF (vs ++ [x]) ps := by simp [ouF]
theorem ou_keep {vs : List Int} {p : Pt} {ps : List Pt} {x : Int} (h : wP p = x) : ouF vs (p :: ps) = ouF (vs ++ [x]) ps := by simp [ouF, h]
theorem fin_word {org : Int} {g : Lbs} {n : Nat} {p : Pt} (h : p.k = 0) : finP org g n p = .ok (wP p) := by
  unfold finP wP; rw [if_pos h, if_pos h]
theorem fin_bare {org : Int} {g : Lbs} {n : Nat} {p : Pt} (h : ¬ p.k = 0) (hn : p.name = []) (ok : okB (sh p.k) p.f.s p.f.t p.f.d p.f.m = true) : finP org g n p = .ok (wP p) := by
  unfold finP wP encP; rw [if_neg h, if_neg h, if_pos hn, if_pos ok]
/-- the Imm of a branch -/
def immB (org tg : Int) (n : Nat) (k : Nat) : Int := if k = 29 ∨ k = 30 then plc org tg / 4 % 67108864 else (tg - (n + 1)) % 65536
theorem fin_none {org : Int} {g : Lbs} {n : Nat} {p : Pt} (h : ¬ p.k = 0) (hn : p.name ≠ []) (hg : g p.name = none) : finP org g n p = .error 5 := by
  unfold finP reachP; rw [if_neg h, if_neg hn, hg]
theorem fin_far {org : Int} {g : Lbs} {n : Nat} {p : Pt} {tg : Int} (h : ¬ p.k = 0) (hn : p.name ≠ []) (hg : g p.name = some tg) (hk : p.k = 29 ∨ p.k = 30) (hf : plc org tg / 268435456 ≠ plc org (n + 1) / 268435456) : finP org g n p = .error 9 := by
  unfold finP reachP; rw [if_neg h, if_neg hn, hg]; simp only
  unfold plc at hf
  rw [if_pos hk, if_neg hf]
theorem fin_to {org : Int} {g : Lbs} {n : Nat} {p : Pt} {tg : Int} (h : ¬ p.k = 0) (hn : p.name ≠ []) (hg : g p.name = some tg) (hf : (p.k = 29 ∨ p.k = 30) → plc org tg / 268435456 = plc org (n + 1) / 268435456) (ok : okB (sh p.k) p.f.s p.f.t p.f.d (immB org tg n p.k) = true) : finP org g n p = .ok (enc p.k p.f.s p.f.t p.f.d (immB org tg n p.k)) := by
  unfold finP reachP; rw [if_neg h, if_neg hn, hg]; simp only
  unfold immB at ok ⊢
  by_cases hk : p.k = 29 ∨ p.k = 30
  · rw [if_pos hk] at ok ⊢
    have hf' := hf hk
    unfold plc at hf'
    rw [if_pos hk, if_pos hf']
    unfold encP
    have ok' : okB (sh p.k) p.f.s p.f.t p.f.d ((org + 4 * tg) % 4294967296 / 4 % 67108864) = true := ok
    simp only
    rw [if_pos ok']; rfl
  · rw [if_neg hk] at ok ⊢
    rw [if_neg hk]
    unfold encP
    simp only
    rw [if_pos ok]
end Go.Proofs.YtccnliihdhnckaaGreatDoor
