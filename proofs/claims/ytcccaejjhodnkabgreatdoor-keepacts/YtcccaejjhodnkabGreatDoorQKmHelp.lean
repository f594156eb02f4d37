/-
  What KeepActs asks besides.
-/
import Derived.Test.YtcccaejjhodnkabGreatDoorQPw1
import Derived.Test.YtcccaejjhodnkabGreatDoorKKpDrop
import Derived.Test.YtcccaejjhodnkabGreatDoorQKmPages
import Derived.Test.YtcccaejjhodnkabGreatDoorKSameOps
import Derived.Test.YtcccaejjhodnkabGreatDoorQPl8
namespace Go.Proofs.YtcccaejjhodnkabGreatDoor
open Go.RowKit Go.Maps
open Num
set_option linter.unusedVariables false
def OwnRowsDone (w : World) (rs : List (List Opx)) (e : Ending) (w' : World) : Prop := ∃ u us, e = .returned u ∧ RwAt w' w.heap.size u us rs ∧ Below w.heap.size w w'
set_option maxRecDepth 100000 in
set_option maxHeartbeats 2000000 in
theorem ownRowsK_any {w : World} {v : Value} {rs : List (List Opx)} (R : RowsI w v rs) (F : Few rs) :
    Calls Tryz.prog 11 #[v] w (OwnRowsDone w rs) := by
  obtain ⟨ao, cap, rfl, hc, hh⟩ := R
  have HH : Hid (0 < rs.length → ∃ b off : Nat, ao = some ⟨b, off, none⟩ ∧ ∀ (i : Nat) (row : List Opx), rs[i]? = some row → ∃ u, w.cell? ⟨b, off + i, none⟩ = some u ∧ OpsIn w u row) := hh
  have FH : Hid (Few rs) := F
  have hF := F.1
  obtain ⟨i1, hj, hy0, hy1, hy2⟩ := info_parts infoOpsP
  clear hh F
  go_enter Tryz.func11, Tryz.ntmps11
  go_wp2
  go_loopw [3, 4] (fun out i wr => ∃ (j : Nat) (us : List Value), j ≤ rs.length ∧ i = .int .i64 j ∧ RwAt wr w.heap.size out us (rs.take j) ∧ Below w.heap.size w wr) (fun _ i _ => rs.length - (intOf i).toNat)
  case atStart => exact ⟨0, [], Nat.zero_le _, rfl, ⟨World.ownsRow_nil _ _ _ _, fun k u row h => by simp at h, fun k k' u u' g h => by simp at h, fun row h => by simp at h⟩, Below.refl _ _⟩
  case round =>
    obtain ⟨j, us, hj1, rfl, hR, hB⟩ := hrel
    by_cases hlt : j < rs.length
    · obtain ⟨row, hrow⟩ : ∃ r, rs[j]? = some r := ⟨_, List.getElem?_eq_getElem hlt⟩
      obtain ⟨b, off, rfl, hcell⟩ := HH.out (by omega)
      obtain ⟨u, hu, hO⟩ := hcell j row hrow
      have hr1 := FH.out.2 row (List.mem_of_getElem? hrow)
      have hu2 : wr.cell? ⟨b, off + j, none⟩ = some u := (hB.cell (p := ⟨b, off + j, none⟩) (World.block_lt_of_cell? _ _ hu)).trans hu
      have hoo := ownOps_own (hO.stays hB) hr1
      have zb : b < wr.heap.size := World.block_lt_of_cell? _ _ hu2
      have hlt' : (j : Int) < rs.length := by omega
      have HOK : Hid (∀ o ∈ row, o.ok) := hO.ok
      have HTL : Hid ((rs.take j).length = j) := by show _ = _; rw [List.length_take]; omega
      have HTS : Hid (rs.take (j + 1) = rs.take j ++ [row]) := take_snoc' hrow
      obtain ⟨a1, k1, rfl, _, _⟩ := hO.sh
      have HR : Hid (RwAt wr w.heap.size u3 us (rs.take j)) := hR
      have HB : Hid (Below w.heap.size w wr) := hB
      have hsz := hB.size
      clear hrow hcell hu hO hB hR
      go_wp2_with fail
      refine hoo.mono ?_
      rintro e w1 ⟨u', rfl, hown, hb1⟩
      have B1 : Hid (Below w.heap.size w w1) := HB.out.trans (hb1.mono hsz)
      have R1 := HR.out.stays hb1
      have hu'b : ∀ g, u'.ownBlock = some g → wr.heap.size ≤ g ∧ g < w1.heap.size := fun g hg => hown.lt g hg
      have hs1 := hb1.size
      have BA : Below w1.heap.size w1 (w1.alloc (.cells #[u'] 40)) := (Below.refl _ _).alloc (Nat.le_refl _) _
      have hszA : (w1.alloc (.cells #[u'] 40)).heap.size = w1.heap.size + 1 := World.size_alloc _ _
      have RA := R1.stays BA
      have HOW : Hid ((w1.alloc (.cells #[u'] 40)).ownsRow w.heap.size 40 1 u3 j us) := by have := RA.own; rw [HTL.out] at this; exact this
      have hn1 : ∀ (k : Nat) (x : Value), [u'][k]? = some x → (w1.alloc (.cells #[u'] 40)).cell? ((⟨w1.heap.size, 0, none⟩ : Addr).add k) = some x := by
        intro k x hk
        rw [add_lit, World.cell?_alloc_at _ _ _ _ rfl]
        simpa using hk
      have HA : Hid (∀ v1 w3, w3.ownsRow w.heap.size 40 1 v1 (j + 1) (us ++ [u']) → (w1.alloc (.cells #[u'] 40)).grownBy w3 u3.ownBlock → Moved (w1.alloc (.cells #[u'] 40)) u3 v1 → RwAt w3 w.heap.size v1 (us ++ [u']) (rs.take (j + 1)) ∧ Below w.heap.size w w3) := by
        intro v1 w3 ho3 hg3 hm3
        rw [HTS.out]
        refine ⟨RA.snocU ((own_mono hown hsz).alloc _) (fun g hg => ⟨fun e => ?_, fun k x hx e => ?_⟩) HOK.out (by rw [HTL.out]; exact ho3) hg3 hm3, ?_⟩
        · have h1 := hu'b g hg; have h2 := (HR.out.vlt g e).2; omega
        · have h1 := hu'b g hg; have h2 := (HR.out.ult hx g e).2; omega
        · exact (B1.out.trans (BA.mono B1.out.size)).grown hg3 (by rw [hszA]; have := B1.out.size; omega) (fun k hk => (RA.vlt k hk).1)
      have hone : u'.oneCell' = true := by obtain ⟨a, c, e, _⟩ := (ops_of_row (n := 0) hown HOK.out).sh; rw [e]; rfl
      have hbb : w.heap.size ≤ (w1.alloc (.cells #[u'] 40)).heap.size := by rw [hszA]; have := B1.out.size; omega
      obtain ⟨au, cu, rfl⟩ : ∃ a c, u' = .slice a row.length c := by obtain ⟨a, c, e, _⟩ := (ops_of_row (n := 0) hown HOK.out).sh; exact ⟨a, c, e⟩
      clear hoo hown hb1 R1 RA BA hszA hu2 zb HB HR hu'b
      go_wp2_with (at_builtin; refine wpList_append_moved rfl _ _ 35 rfl w.heap.size 40 i1 (.slice none 0 0) 1 24 Tryz.underlying35 hj hy0 hy1 hy2 rfl (by decide) u3 j us rfl HOW.out ⟨w1.heap.size, 0, none⟩ 1 1 [.slice au row.length cu] rfl rfl hn1 (by simp [Value.oneCell']) (by unfold maxLen; omega) (by omega) hbb ?_; intro v1 w3 ho3 hg3 hm3; have K1 := HA.out v1 w3 ho3 hg3 hm3; have HK1 : Hid _ := K1; clear ho3 hg3 hm3 K1 HA HOW hn1)
      go_roundw
      case rel => exact ⟨j + 1, _, by omega, by go_num, HK1.out.1, HK1.out.2⟩
      case measure => simp [intOf]; omega
    · obtain rfl : j = rs.length := by omega
      have HR : Hid (RwAt wr w.heap.size u3 us rs) := by show RwAt _ _ _ _ _; have := hR; rwa [List.take_length] at this
      have HB : Hid (Below w.heap.size w wr) := hB
      clear hR hB HH
      go_wp2
      go_ret
      exact ⟨_, us, rfl, HR.out, HB.out⟩
set_option maxRecDepth 100000 in
set_option maxHeartbeats 2000000 in
theorem codedK_any (S : Nat → Addr) {w : World} (EE : Errs S w) (n : Nat) (h1 : 1 ≤ n) (h2 : n ≤ 10) :
    Calls Tryz.prog 6 #[.iface 171 (.pointer (some (peS S n))), .int .i64 n] w fun e w' => e = .returned (.bool true) ∧ Below w.heap.size w w' := by
  have hcb := code_bare S (S (n - 1)) (n - 1) _ EE (.inl ⟨by omega, rfl⟩) (EE.row (n - 1) (by omega))
  rw [num_is n h1 h2] at hcb
  unfold peS
  clear EE
  generalize S (n - 1) = ad at *
  have hnn : ((n : Int) == (n : Int)) = true := by simp
  go_enter Tryz.func6, Tryz.ntmps6
  go_wp2_with fail
  refine hcb.mono ?_
  rintro e w1 ⟨rfl, hb⟩
  go_wp2
  go_ret
  exact ⟨rfl, hb⟩
set_option maxRecDepth 100000 in
set_option maxHeartbeats 2000000 in
theorem newK_bad (pe : Nat → Addr) {w : World} (E : Ep pe w) (many : Int) (h : many < 1 ∨ 40 < many) :
    Calls Tryz.prog 5 #[.int .i64 many] w fun e w' => e = .returned (.tuple #[.pointer none, .iface 171 (.pointer (some (pe 2)))]) ∧ Below w.heap.size w w' := by
  have e2 := E.e.e2
  have z2 := World.block_lt_of_cell? _ _ e2
  clear E
  have hcs : many < 1 ∨ (¬ many < 1 ∧ 40 < many) := by omega
  clear h
  rcases hcs with h1 | ⟨h1, h2⟩
  all_goals
    go_enter Tryz.func5, Tryz.ntmps5
    go_wp2
    go_quiet (fail)
    go_wp2
    go_ret2
    exact ⟨rfl, kbelow_drewN (Below.refl _ _) _⟩
/-- words of two rows that are the same -/
theorem wcells {w : World} {base : Nat} {v : Value} {L : List Int} (h : w.ownsRow base 34 1 v L.length (L.map (Value.int .u32))) : ∃ a c, v = .slice a L.length c ∧ (0 < L.length → ∃ g, a = some ⟨g, 0, none⟩ ∧ ∀ (i : Nat) (x : Int), L[i]? = some x → w.cell? ⟨g, i, none⟩ = some (.int .u32 x)) := by
  rcases h.2 with ⟨rfl, h0⟩ | ⟨g, cap, cur, rfl, _⟩
  · exact ⟨none, 0, by rw [h0], fun hp => by omega⟩
  · refine ⟨_, cap, rfl, fun _ => ⟨g, rfl, fun i x hx => ?_⟩⟩
    have := h.cells (g := g) rfl i (.int .u32 x) (by simp [hx])
    rwa [add_lit] at this
set_option maxRecDepth 100000 in
set_option maxHeartbeats 2000000 in
theorem alikeK_any {w : World} {b1 b2 : Nat} {va vb : Value} {L : List Int} (hA : w.ownsRow b1 34 1 va L.length (L.map (Value.int .u32))) (hB : w.ownsRow b2 34 1 vb L.length (L.map (Value.int .u32))) (hl : (L.length : Int) ≤ 1000000) :
    Calls Tryz.prog 16 #[va, vb] w fun e w' => e = .returned (.int .i64 1) ∧ Below w.heap.size w w' := by
  obtain ⟨ao, ca, rfl, ha⟩ := wcells hA
  obtain ⟨bo, cb, rfl, hb⟩ := wcells hB
  have HA : Hid (0 < L.length → ∃ g, ao = some ⟨g, 0, none⟩ ∧ ∀ (i : Nat) (x : Int), L[i]? = some x → w.cell? ⟨g, i, none⟩ = some (.int .u32 x)) := ha
  have HB : Hid (0 < L.length → ∃ g, bo = some ⟨g, 0, none⟩ ∧ ∀ (i : Nat) (x : Int), L[i]? = some x → w.cell? ⟨g, i, none⟩ = some (.int .u32 x)) := hb
  clear hA hB ha hb
  go_enter Tryz.func16, Tryz.ntmps16
  go_wp2
  go_loopw [5] (fun i wr => ∃ (j q : Nat), j ≤ L.length ∧ i = .int .i64 j ∧ wr = w.drewN q) (fun i _ => L.length - (intOf i).toNat)
  case atStart => exact ⟨0, 0, Nat.zero_le _, rfl, rfl⟩
  case round =>
    obtain ⟨j, q, hj, rfl, rfl⟩ := hrel
    by_cases hlt : j < L.length
    · obtain ⟨y, hy⟩ : ∃ y, L[j]? = some y := ⟨_, List.getElem?_eq_getElem hlt⟩
      obtain ⟨g, rfl, hg⟩ := HA.out (by omega)
      obtain ⟨h, rfl, hh⟩ := HB.out (by omega)
      have yg := hg j y hy
      have yh := hh j y hy
      have zg := World.block_lt_of_cell? _ _ yg
      have zh := World.block_lt_of_cell? _ _ yh
      have hlt' : (j : Int) < L.length := by omega
      clear hg hh hy HA HB
      go_wp2
      go_quiet (fail)
      go_wp2
      go_roundw
      case rel => exact ⟨j + 1, q + nq, by omega, by go_num, by first | rfl | (rw [World.drewN_drewN]; done) | (simp; done)⟩
      case measure => simp [intOf]; omega
    · obtain rfl : j = L.length := by omega
      go_wp2
      go_ret
      exact ⟨rfl, kbelow_drewN (Below.refl _ _) q⟩
set_option maxRecDepth 100000 in
set_option maxHeartbeats 2000000 in
theorem sameRowsK_any {w : World} {u v : Value} {rs : List (List Opx)} (A : RowsI w u rs) (B : RowsI w v rs) (F : Few rs) :
    Calls Tryz.prog 15 #[u, v] w fun e w' => e = .returned (.bool true) ∧ Below w.heap.size w w' := by
  obtain ⟨ao, ca, rfl, _, hA⟩ := A
  obtain ⟨bo, cb, rfl, _, hB⟩ := B
  have HA : Hid (0 < rs.length → ∃ b off : Nat, ao = some ⟨b, off, none⟩ ∧ ∀ (i : Nat) (row : List Opx), rs[i]? = some row → ∃ u, w.cell? ⟨b, off + i, none⟩ = some u ∧ OpsIn w u row) := hA
  have HB : Hid (0 < rs.length → ∃ b off : Nat, bo = some ⟨b, off, none⟩ ∧ ∀ (i : Nat) (row : List Opx), rs[i]? = some row → ∃ u, w.cell? ⟨b, off + i, none⟩ = some u ∧ OpsIn w u row) := hB
  have HF : Hid (Few rs) := F
  have hF := F.1
  clear hA hB F
  go_enter Tryz.func15, Tryz.ntmps15
  go_wp2
  go_loopw [5] (fun i wr => ∃ j : Nat, j ≤ rs.length ∧ i = .int .i64 j ∧ Below w.heap.size w wr) (fun i _ => rs.length - (intOf i).toNat)
  case atStart => exact ⟨0, Nat.zero_le _, rfl, Below.refl _ _⟩
  case round =>
    obtain ⟨j, hj, rfl, hB0⟩ := hrel
    by_cases hlt : j < rs.length
    · obtain ⟨row, hrow⟩ : ∃ r, rs[j]? = some r := ⟨_, List.getElem?_eq_getElem hlt⟩
      obtain ⟨g, go, rfl, hg⟩ := HA.out (by omega)
      obtain ⟨h, ho, rfl, hh⟩ := HB.out (by omega)
      obtain ⟨x, hx, hX⟩ := hg j row hrow
      obtain ⟨y, hy, hY⟩ := hh j row hrow
      have yg := (hB0.cell (p := ⟨g, go + j, none⟩) (World.block_lt_of_cell? _ _ hx)).trans hx
      have yh := (hB0.cell (p := ⟨h, ho + j, none⟩) (World.block_lt_of_cell? _ _ hy)).trans hy
      have zg := World.block_lt_of_cell? _ _ yg
      have zh := World.block_lt_of_cell? _ _ yh
      have hlt' : (j : Int) < rs.length := by omega
      have hr1 := HF.out.2 row (List.mem_of_getElem? hrow)
      have hdr : Below wr.heap.size wr wr.drew := (Below.refl _ _).drew
      have hso := sameOps_any ((hX.stays hB0).stays hdr) ((hY.stays hB0).stays hdr) (by omega)
      have ck : wr.drew.cell? ⟨g, go + j, none⟩ = some x ∧ wr.drew.cell? ⟨h, ho + j, none⟩ = some y := ⟨yg, yh⟩
      have HCK : Hid (wr.drew.cell? ⟨g, go + j, none⟩ = some x ∧ wr.drew.cell? ⟨h, ho + j, none⟩ = some y) := ck
      obtain ⟨xa, xc, rfl, _, _⟩ := hX.sh
      obtain ⟨ya, yc, rfl, _, _⟩ := hY.sh
      have HB0 : Hid (Below w.heap.size w wr) := hB0
      clear hg hh hx hy hX hY hrow HA HB hB0
      go_wp2
      refine wp_region_phase 10 [(0, 0), (1, 0), (2, 0), (3, 1), (4, 0), (5, 0), (6, 0), (7, 1), (8, 2), (9, 0)] (fun W => W.cell? ⟨g, go + j, none⟩ = some (.slice xa row.length xc) ∧ W.cell? ⟨h, ho + j, none⟩ = some (.slice ya row.length yc)) (by kernel_rfl) (by kernel_rfl) (fun _ _ _ d _ h => by cases d <;> exact h) HCK.out ?_
      repeat (first | (refine wpPlanZ_free (by rfl) (by rfl) (fun W => by (go_simp; try with_reducible rfl)) (fun K hK => ?_); go_simp; refine hK _ ?_; clear hK K) | (refine wpPlanZ_quiet (by rfl) (by rfl) (fun W hW => by (obtain ⟨s0, s1⟩ := hW; go_simp; try with_reducible rfl)) (fun K hK => ?_); go_simp; refine hK _ ?_; clear hK K))
      refine wpPlanZ_serial (by rfl) (by rfl) (fun K hK => ?_)
      go_simp
      refine hso.mono ?_
      rintro e w2 ⟨rfl, hb2⟩
      have HB2 : Hid (Below w.heap.size w w2) := HB0.out.trans ((hdr.trans (hb2.mono hdr.size)).mono HB0.out.size)
      refine hK _ _ (fun _ => ⟨(hb2.cell (p := ⟨g, go + j, none⟩) zg).trans HCK.out.1, (hb2.cell (p := ⟨h, ho + j, none⟩) zh).trans HCK.out.2⟩) ?_
      clear hK K hso hb2 HCK ck yg yh hdr
      repeat (refine wpPlanZ_free (by rfl) (by rfl) (fun W => by (go_simp; try with_reducible rfl)) (fun K hK => ?_); go_simp; refine hK _ ?_; clear hK K)
      refine wpPlanZ_nil ?_
      go_wp2
      go_roundw
      case rel => exact ⟨j + 1, by omega, by go_num, HB2.out⟩
      case measure => simp [intOf]; omega
    · obtain rfl : j = rs.length := by omega
      have HB0 : Hid (Below w.heap.size w wr) := hB0
      clear hB0
      go_wp2
      go_ret
      exact ⟨rfl, HB0.out⟩
set_option maxRecDepth 100000 in
set_option maxHeartbeats 2000000 in
/-- a plan that is not well is not put -/
theorem put_bad (pe : Nat → Addr) {w : World} (E : Ep pe w) {rv gv kp : Value} {rs : List (List Opx)} (R : RowsI w rv rs) (F : Few rs) (pc many : Int) (m0 : -9223372036854775808 ≤ many) (m1 : many ≤ 9223372036854775807) (hP : (planF many rs).1 ≠ 0) :
    Calls Tryz.prog 10 #[kp, .agg #[.int .u32 pc, .int .i64 many, rv], gv] w fun e w' => (∃ x, e = .returned x ∧ CErr pe w' (planF many rs) x) ∧ Below w.heap.size w w' := by
  obtain ⟨ao, rc, hrv, hrc, _⟩ := id R
  subst hrv
  have hB1 : Below w.heap.size w (w.alloc (.cells #[.int .u32 pc, .int .i64 many, .slice ao rs.length rc] 48)) := (Below.refl _ _).alloc (Nat.le_refl _) _
  have hck := checkP_any pe (E.stays hB1) (R.stays hB1) F pc many m0 m1
  have HB1 : Hid (Below w.heap.size w (w.alloc (.cells #[.int .u32 pc, .int .i64 many, .slice ao rs.length rc] 48))) := hB1
  have HP : Hid ((planF many rs).1 ≠ 0) := hP
  clear R F E hB1 hP
  go_enter Tryz.func10, Tryz.ntmps10
  go_wp2_with fail
  refine hck.mono ?_
  rintro e w2 ⟨⟨x0, rfl, hx0⟩, hb2⟩
  have HX : Hid (CErr pe w2 (planF many rs) x0) := hx0
  have HB2 : Hid (Below w.heap.size w w2) := HB1.out.trans (hb2.mono HB1.out.size)
  obtain ⟨ty, pv, rfl⟩ : ∃ t a, x0 = .iface t (.pointer (some a)) := by
    rcases hx0 with ⟨_, h⟩ | ⟨_, _, fb, h, _⟩
    · rw [erV_some HP.out] at h; exact ⟨_, _, h⟩
    · exact ⟨_, _, h⟩
  clear hck hx0 hb2
  go_wp2
  go_ret
  exact ⟨⟨_, rfl, HX.out⟩, HB2.out⟩
end Go.Proofs.YtcccaejjhodnkabGreatDoor
