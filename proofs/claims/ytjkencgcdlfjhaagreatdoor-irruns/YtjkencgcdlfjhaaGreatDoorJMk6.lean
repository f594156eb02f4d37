/-
  Package plan: Make of a code that is well.
-/
import Derived.Test.YtjkencgcdlfjhaaGreatDoorQCode
import Derived.Test.YtjkencgcdlfjhaaGreatDoorJMk3
namespace Go.Proofs.YtjkencgcdlfjhaaGreatDoor
open Go.RowKit Go.Maps
open Num
set_option linter.unusedVariables false
theorem maker_lit : Tryz.zeroCells146 = (Array.replicate 132 (Value.int .i64 0)).setIfInBounds 0 (.slice none 0 0) := by kernel_rfl
theorem MkC.new (w : World) : MkC (w.alloc (.cells Tryz.zeroCells146 146)) w.heap.size mk0 (.slice none 0 0) := by
  refine ⟨Tryz.zeroCells146, heap_alloc_new w _, by rw [maker_lit]; simp, fun j hj => ?_⟩
  rw [maker_lit]
  by_cases h0 : j = 0
  · subst h0; rw [Array.getElem?_setIfInBounds_self, if_pos (by simp)]; rfl
  · rw [Array.getElem?_setIfInBounds_ne (by omega)]
    have : (Array.replicate 132 (Value.int .i64 0))[j]? = some (.int .i64 0) := by simp [hj]
    rw [this]
    have hc : (1 ≤ j ∧ j < 65) ∨ (65 ≤ j ∧ j < 129) ∨ j = 129 ∨ j = 130 ∨ j = 131 := by omega
    rcases hc with hc | hc | hc | hc | hc
    · rw [mkF_r hc.1 hc.2]; rfl
    · rw [mkF_a hc.1 hc.2]; rfl
    · subst hc; rfl
    · subst hc; rfl
    · subst hc; rfl
structure CkM (W : World) (cb mb : Nat) (pc many : Int) (vr : Value) : Prop where
  a : W.cell? ⟨cb, 0, none⟩ = some (.int .u32 pc)
  b : W.cell? ⟨cb, 1, none⟩ = some (.int .i64 many)
  c : W.cell? ⟨mb, 0, none⟩ = some vr
end Go.Proofs.YtjkencgcdlfjhaaGreatDoor
/-
  The closed fact of chapter 10.
-/
namespace Go.Proofs.YtjkencgcdlfjhaaGreatDoor
open Go.RowKit Go.Maps
open Num
set_option linter.unusedVariables false
end Go.Proofs.YtjkencgcdlfjhaaGreatDoor
/-
  faulted; OwnRows.
-/
namespace Go.Proofs.YtjkencgcdlfjhaaGreatDoor
open Go.RowKit Go.Maps
open Num
set_option linter.unusedVariables false
/-- the errors as the program's variables have them, by their numbers -/
def peS (S : Nat → Addr) (n : Nat) : Addr := S (n - 1)
theorem num_is (n : Nat) (h1 : 1 ≤ n) (h2 : n ≤ 10) : num (n - 1) = (n : Int) := by unfold num; rw [if_pos (by omega)]; omega
set_option maxRecDepth 100000 in
set_option maxHeartbeats 1000000 in
theorem faulted_any (S : Nat → Addr) {w : World} (EE : Errs S w) (f : Int × Int) (x : Value) (C : CErr (peS S) w f x) (hv : f = (0, -1) ∨ (1 ≤ f.1 ∧ f.1 ≤ 10)) :
    Calls Tryz.prog 14 #[x, .agg #[.int .i64 f.1, .int .i64 f.2]] w fun e w' => e = .returned (.bool true) ∧ Below w.heap.size w w' := by
  obtain ⟨a, b⟩ := f
  have B0 : Below w.heap.size w (w.alloc (.cells #[.int .i64 a, .int .i64 b] 37)) := (Below.refl _ _).alloc (Nat.le_refl _) _
  have c0 : (w.alloc (.cells #[.int .i64 a, .int .i64 b] 37)).cell? ⟨w.heap.size, 0, none⟩ = some (.int .i64 a) := by simp
  have c1 : (w.alloc (.cells #[.int .i64 a, .int .i64 b] 37)).cell? ⟨w.heap.size, 1, none⟩ = some (.int .i64 b) := by simp
  have E1 := EE.stays B0
  have hcode : ∃ y : Int, Calls Tryz.prog 46 #[x] (w.alloc (.cells #[.int .i64 a, .int .i64 b] 37)) (fun e w' => e = .returned (.tuple #[.int .i64 a, .int .i64 y]) ∧ Below (w.alloc (.cells #[.int .i64 a, .int .i64 b] 37)).heap.size (w.alloc (.cells #[.int .i64 a, .int .i64 b] 37)) w') ∧ (a = 0 ∨ y = b) := by
    rcases C with ⟨h1, h2⟩ | ⟨h1, h2, fb, h3, h4, h5⟩
    · have h1 : b = -1 := h1
      have h2 : x = erV (peS S) a := h2
      by_cases ha : a = 0
      · subst ha
        rw [show erV (peS S) 0 = .nilIface from rfl] at h2
        subst h2
        refine ⟨-1, (code_nil _).mono ?_, .inl rfl⟩
        rintro e w' ⟨rfl, hw⟩
        rw [hw]
        exact ⟨rfl, Below.refl _ _⟩
      · have hpos : 1 ≤ a := hv.elim (fun h => absurd (congrArg Prod.fst h) ha) (fun h => h.1)
        obtain ⟨n, rfl⟩ : ∃ n : Nat, a = n := ⟨a.toNat, by omega⟩
        have hn : 1 ≤ n ∧ n ≤ 10 := by
          rcases hv with hv | hv
          · injection hv with hv; exact absurd hv ha
          · have h5 : (1 : Int) ≤ (n : Int) := hv.1
            have h6 : (n : Int) ≤ 10 := hv.2
            omega
        rw [erV_some ha] at h2
        have hcb := code_bare S (S (n - 1)) (n - 1) _ E1 (.inl ⟨by omega, rfl⟩) (E1.row (n - 1) (by omega))
        rw [num_is n hn.1 hn.2] at hcb
        subst h2
        exact ⟨-1, hcb, .inr h1.symm⟩
    · have h2 : a ≠ 0 := h2
      have hpos : 1 ≤ a := hv.elim (fun h => absurd (congrArg Prod.fst h) h2) (fun h => h.1)
      obtain ⟨n, rfl⟩ : ∃ n : Nat, a = n := ⟨a.toNat, by omega⟩
      have hn : 1 ≤ n ∧ n ≤ 10 := by
        rcases hv with hv | hv
        · injection hv with hv; exact absurd hv h2
        · have h5 : (1 : Int) ≤ (n : Int) := hv.1
          have h6 : (n : Int) ≤ 10 := hv.2
          omega
      have h5' : w.cell? ⟨fb, 0 + 1, none⟩ = some (.iface 311 (.pointer (some (S (n - 1))))) := by rw [h5]; show some (erV (peS S) (n : Int)) = _; rw [erV_some h2]; rfl
      have hcf := code_fault S (S (n - 1)) (n - 1) fb 0 b _ E1 (.inl ⟨by omega, rfl⟩) (E1.row (n - 1) (by omega)) ((B0.cell (p := ⟨fb, 0, none⟩) (World.block_lt_of_cell? _ _ h4)).trans h4) ((B0.cell (p := ⟨fb, 0 + 1, none⟩) (World.block_lt_of_cell? _ _ h5')).trans h5')
      rw [num_is n hn.1 hn.2] at hcf
      subst h3
      exact ⟨b, hcf, .inr rfl⟩
  obtain ⟨y, hco, hay⟩ := hcode
  have hx : ∃ X, x = X := ⟨_, rfl⟩
  clear C E1 EE hv
  go_enter Tryz.func14, Tryz.ntmps14
  go_upto_region 1 with fail
  generalize w.alloc (.cells #[.int .i64 a, .int .i64 b] 37) = V at *
  have HB : Hid (Below w.heap.size w V) := B0
  have z0 := World.block_lt_of_cell? _ _ c0
  clear B0
  go_wp2_with fail
  refine hco.mono ?_
  rintro e w2 ⟨rfl, hb2⟩
  have HB2 : Hid (Below w.heap.size w w2) := HB.out.trans (hb2.mono HB.out.size)
  have d0 := (hb2.cell (p := ⟨w.heap.size, 0, none⟩) z0).trans c0
  have d1 := (hb2.cell (p := ⟨w.heap.size, 1, none⟩) z0).trans c1
  have z2 := World.block_lt_of_cell? _ _ d0
  clear hco hb2 HB c0 c1 z0
  by_cases ha : a = 0
  · subst ha
    go_wp2
    go_ret
    exact ⟨rfl, HB2.out⟩
  · have hy : y = b := hay.resolve_left ha
    subst hy
    have hab : (a == 0) = false := by simpa using ha
    clear hay ha
    go_wp2
    go_ret
    exact ⟨by first | rfl | simp, HB2.out⟩
set_option maxRecDepth 100000 in
set_option maxHeartbeats 2000000 in
theorem ownOps_own {w : World} {v : Value} {l : List Opx} (A : OpsIn w v l) (hl : l.length ≤ 1000) :
    Calls Tryz.prog 11 #[v] w fun e w' => ∃ v', e = .returned v' ∧ w'.ownsRow w.heap.size 92 6 v' l.length (opL l) ∧ Below w.heap.size w w' := by
  have A0 := A
  obtain ⟨ao, cap, rfl, hc, hh⟩ := A.sh
  have OK : Hid (∀ o ∈ l, o.ok) := A.ok
  obtain ⟨i0, hi, hz0, hz1, hz2⟩ := info_parts infoOp
  clear A
  cases ao with
  | none =>
    have hl0 : l = [] := by
      rcases Nat.eq_zero_or_pos l.length with h | h
      · exact List.length_eq_zero_iff.1 h
      · obtain ⟨b, off, e, _⟩ := hh h; cases e
    subst hl0
    clear hh A0
    go_enter Tryz.func11, Tryz.ntmps11
    go_wp2
    go_ret
    exact ⟨_, rfl, World.ownsRow_nil _ _ _ _, Below.refl _ _⟩
  | some ad =>
    have hnews : ∀ j u, (opL l)[j]? = some u → w.cell? (ad.add j) = some u := by
      rcases Nat.eq_zero_or_pos l.length with h | h
      · have : l = [] := List.length_eq_zero_iff.1 h
        subst this; intro j u hj; simp [opL] at hj
      · obtain ⟨b, off, e, hcl⟩ := hh h
        injection e with e; subst e
        exact opL_at hcl
    clear hh A0
    go_enter Tryz.func11, Tryz.ntmps11
    go_wp2_with (at_builtin; refine wpList_append_moved rfl _ _ 23 rfl w.heap.size 92 i0 (.agg #[.string ⟨#[]⟩, .int .i64 0, .int .i64 0, .int .i64 0, .int .u32 0, .int .i64 0]) 6 56 Tryz.underlying23 hi hz0 hz1 hz2 rfl (by decide) (.slice none 0 0) 0 [] rfl (World.ownsRow_nil _ _ _ _) ad l.length cap (opL l) rfl (opL_len l) hnews (opL_one l) (by unfold maxLen; omega) (by omega) (Nat.le_refl _) ?_; intro v' w3 ho hg hm)
    go_ret
    rw [Nat.zero_add, List.nil_append] at ho
    exact ⟨_, rfl, ho, ⟨hg.os, hg.tape, hg.output, hg.size, fun k hk => hg.block k hk (by intro e; cases e)⟩⟩
theorem RwAt.snocU {W1 W' : World} {base : Nat} {vr v' u' : Value} {us : List Value} {rs : List (List Opx)} {row : List Opx} (R : RwAt W1 base vr us rs) (hU : W1.ownsRow base 92 6 u' row.length (opL row)) (hf : ∀ g, u'.ownBlock = some g → vr.ownBlock ≠ some g ∧ ∀ (k : Nat) (u : Value), us[k]? = some u → u.ownBlock ≠ some g) (ok : ∀ o ∈ row, o.ok)
    (ho : W'.ownsRow base 23 1 v' (rs.length + 1) (us ++ [u'])) (hg : W1.grownBy W' vr.ownBlock) (hm : Moved W1 vr v') : RwAt W' base v' (us ++ [u']) (rs ++ [row]) := by
  have hl := R.len
  have at_ : ∀ k u, (us ++ [u'])[k]? = some u → (k < us.length ∧ us[k]? = some u) ∨ (k = us.length ∧ u = u') := by
    intro k u h
    by_cases hk : k < us.length
    · rw [List.getElem?_append_left hk] at h; exact .inl ⟨hk, h⟩
    · rw [List.getElem?_append_right (by omega)] at h
      have h0 : k - us.length = 0 := by
        rcases Nat.eq_zero_or_pos (k - us.length) with h' | h'
        · exact h'
        · rw [List.getElem?_eq_none (by simp; omega)] at h; cases h
      rw [h0] at h
      exact .inr ⟨by omega, by simpa using h.symm⟩
  refine ⟨by rw [List.length_append]; exact ho, fun k u row' hu hr => ?_, fun k k' u q g hu hu' hne hg' => ?_, fun row' hr => ?_⟩
  · rcases at_ k u hu with ⟨hk, hu⟩ | ⟨hk, rfl⟩
    · rw [List.getElem?_append_left (by omega)] at hr
      obtain ⟨h1, h2⟩ := R.each k u row' hu hr
      refine ⟨h1.kept hg ?_, fun g hgu hv => ?_⟩
      · cases hob : u.ownBlock with
        | none => exact .inl rfl
        | some g => exact .inr (Ne.symm (h2 g hob))
      · rcases hm g hv with h | h
        · exact h2 g hgu h
        · have := (R.ult hu g hgu).2; omega
    · rw [List.getElem?_append_right (by omega), show k - rs.length = 0 by omega] at hr
      obtain rfl : row = row' := by simpa using hr
      refine ⟨hU.kept hg ?_, fun g hgu hv => ?_⟩
      · cases hob : u.ownBlock with
        | none => exact .inl rfl
        | some g => exact .inr (Ne.symm (hf g hob).1)
      · rcases hm g hv with h | h
        · exact (hf g hgu).1 h
        · have := (hU.lt g hgu).2; omega
  · rcases at_ k u hu with ⟨hk, hu1⟩ | ⟨hk, rfl⟩
    · rcases at_ k' q hu' with ⟨hk', hu2⟩ | ⟨hk', rfl⟩
      · exact R.apart k k' u q g hu1 hu2 hne hg'
      · intro h; exact (hf g h).2 k u hu1 hg'
    · rcases at_ k' q hu' with ⟨hk', hu2⟩ | ⟨hk', rfl⟩
      · exact (hf g hg').2 k' q hu2
      · omega
  · rcases List.mem_append.1 hr with h | h
    · exact R.ok row' h
    · simp at h; subst h; exact ok
set_option maxRecDepth 100000 in
set_option maxHeartbeats 2000000 in
theorem ownRows_any {w : World} {v : Value} {rs : List (List Opx)} (R : RowsI w v rs) (F : Few rs) :
    Calls Tryz.prog 39 #[v] w fun e w' => ∃ u, e = .returned u ∧ RowsI w' u rs ∧ Below w.heap.size w w' := by
  obtain ⟨ao, cap, rfl, hc, hh⟩ := R
  have HH : Hid (0 < rs.length → ∃ b off : Nat, ao = some ⟨b, off, none⟩ ∧ ∀ (i : Nat) (row : List Opx), rs[i]? = some row → ∃ u, w.cell? ⟨b, off + i, none⟩ = some u ∧ OpsIn w u row) := hh
  have FH : Hid (Few rs) := F
  have hF := F.1
  obtain ⟨i1, hj, hy0, hy1, hy2⟩ := info_parts infoOpsP
  clear hh F
  go_enter Tryz.func39, Tryz.ntmps39
  go_wp2
  go_loopw [3, 4] (fun out i wr => ∃ (j : Nat) (us : List Value), j ≤ rs.length ∧ i = .int .i64 j ∧ RwAt wr w.heap.size out us (rs.take j) ∧ Below w.heap.size w wr) (fun _ i _ => rs.length - (intOf i).toNat)
  case atStart => exact ⟨0, [], Nat.zero_le _, rfl, ⟨World.ownsRow_nil _ _ _ _, fun k u row h => by simp at h, fun k k' u u' g h => by simp at h, fun row h => by simp at h⟩, Below.refl _ _⟩
  case round =>
    obtain ⟨j, us, hj1, rfl, hR, hB⟩ := hrel
    by_cases hlt : j < rs.length
    · obtain ⟨row, hrow⟩ : ∃ r, rs[j]? = some r := ⟨_, List.getElem?_eq_getElem hlt⟩
      obtain ⟨b, off, rfl, hcell⟩ := HH.out (by omega)
      obtain ⟨u, hu, hO⟩ := hcell j row hrow
      have hr1 := FH.out.2 row (List.mem_of_getElem? hrow)
      have hu2 : wr.cell? ⟨b, off + j, none⟩ = some u := (hB.cell (p := ⟨b, off + j, none⟩) (World.block_lt_of_cell? _ _ hu)).trans hu
      have hoo := ownOps_own (hO.stays hB) hr1
      have zb : b < wr.heap.size := World.block_lt_of_cell? _ _ hu2
      have hlt' : (j : Int) < rs.length := by omega
      have HOK : Hid (∀ o ∈ row, o.ok) := hO.ok
      have HTL : Hid ((rs.take j).length = j) := by show _ = _; rw [List.length_take]; omega
      have HTS : Hid (rs.take (j + 1) = rs.take j ++ [row]) := take_snoc' hrow
      obtain ⟨a1, k1, rfl, _, _⟩ := hO.sh
      have HR : Hid (RwAt wr w.heap.size u3 us (rs.take j)) := hR
      have HB : Hid (Below w.heap.size w wr) := hB
      have hsz := hB.size
      clear hrow hcell hu hO hB hR
      go_wp2_with fail
      refine hoo.mono ?_
      rintro e w1 ⟨u', rfl, hown, hb1⟩
      have B1 : Hid (Below w.heap.size w w1) := HB.out.trans (hb1.mono hsz)
      have R1 := HR.out.stays hb1
      have hu'b : ∀ g, u'.ownBlock = some g → wr.heap.size ≤ g ∧ g < w1.heap.size := fun g hg => hown.lt g hg
      have hs1 := hb1.size
      have BA : Below w1.heap.size w1 (w1.alloc (.cells #[u'] 23)) := (Below.refl _ _).alloc (Nat.le_refl _) _
      have hszA : (w1.alloc (.cells #[u'] 23)).heap.size = w1.heap.size + 1 := World.size_alloc _ _
      have RA := R1.stays BA
      have HOW : Hid ((w1.alloc (.cells #[u'] 23)).ownsRow w.heap.size 23 1 u3 j us) := by have := RA.own; rw [HTL.out] at this; exact this
      have hn1 : ∀ (k : Nat) (x : Value), [u'][k]? = some x → (w1.alloc (.cells #[u'] 23)).cell? ((⟨w1.heap.size, 0, none⟩ : Addr).add k) = some x := by
        intro k x hk
        rw [add_lit, World.cell?_alloc_at _ _ _ _ rfl]
        simpa using hk
      have HA : Hid (∀ v1 w3, w3.ownsRow w.heap.size 23 1 v1 (j + 1) (us ++ [u']) → (w1.alloc (.cells #[u'] 23)).grownBy w3 u3.ownBlock → Moved (w1.alloc (.cells #[u'] 23)) u3 v1 → RwAt w3 w.heap.size v1 (us ++ [u']) (rs.take (j + 1)) ∧ Below w.heap.size w w3) := by
        intro v1 w3 ho3 hg3 hm3
        rw [HTS.out]
        refine ⟨RA.snocU ((own_mono hown hsz).alloc _) (fun g hg => ⟨fun e => ?_, fun k x hx e => ?_⟩) HOK.out (by rw [HTL.out]; exact ho3) hg3 hm3, ?_⟩
        · have h1 := hu'b g hg; have h2 := (HR.out.vlt g e).2; omega
        · have h1 := hu'b g hg; have h2 := (HR.out.ult hx g e).2; omega
        · exact (B1.out.trans (BA.mono B1.out.size)).grown hg3 (by rw [hszA]; have := B1.out.size; omega) (fun k hk => (RA.vlt k hk).1)
      have hone : u'.oneCell' = true := by obtain ⟨a, c, e, _⟩ := (ops_of_row (n := 0) hown HOK.out).sh; rw [e]; rfl
      have hbb : w.heap.size ≤ (w1.alloc (.cells #[u'] 23)).heap.size := by rw [hszA]; have := B1.out.size; omega
      obtain ⟨au, cu, rfl⟩ : ∃ a c, u' = .slice a row.length c := by obtain ⟨a, c, e, _⟩ := (ops_of_row (n := 0) hown HOK.out).sh; exact ⟨a, c, e⟩
      clear hoo hown hb1 R1 RA BA hszA hu2 zb HB HR hu'b
      go_wp2_with (at_builtin; refine wpList_append_moved rfl _ _ 73 rfl w.heap.size 23 i1 (.slice none 0 0) 1 24 Tryz.underlying73 hj hy0 hy1 hy2 rfl (by decide) u3 j us rfl HOW.out ⟨w1.heap.size, 0, none⟩ 1 1 [.slice au row.length cu] rfl rfl hn1 (by simp [Value.oneCell']) (by unfold maxLen; omega) (by omega) hbb ?_; intro v1 w3 ho3 hg3 hm3; have K1 := HA.out v1 w3 ho3 hg3 hm3; have HK1 : Hid _ := K1; clear ho3 hg3 hm3 K1 HA HOW hn1)
      go_roundw
      case rel => exact ⟨j + 1, _, by omega, by go_num, HK1.out.1, HK1.out.2⟩
      case measure => simp [intOf]; omega
    · obtain rfl : j = rs.length := by omega
      have HR : Hid (RowsI wr u3 rs) := by have := hR.rows; rwa [List.take_length] at this
      have HB : Hid (Below w.heap.size w wr) := hB
      clear hR hB HH
      go_wp2
      go_ret
      exact ⟨_, rfl, HR.out, HB.out⟩
end Go.Proofs.YtjkencgcdlfjhaaGreatDoor
