/-
  The walk of BusActs.
-/
import Derived.Test.YtmfhimphlackiaaDoorAll
import Derived.Test.YtmfhimphlackiaaDoorAsBus
import Derived.Test.YtmfhimphlackiaaDoorBusCopy
import Derived.Test.YtmfhimphlackiaaDoorApartWalk
namespace Go.Proofs.YtmfhimphlackiaaDoor
open Go.RowKit Go.Maps
open Num
set_option linter.unusedVariables false
/-- a block that came to be behind the buses' own -/
theorem AInv.own {w wr W w1 : World} {base bb sb bp bw bh db rb gb kb : Nat} {j N : Nat} {m : Nat → Int} {out : List Int} {lamp : Int} {tr : List Acc} {vo vt vd : Value} (I : AInv w wr base bb sb bp bw bh db rb gb kb j N m out lamp tr vo vt vd) (hW : wr.heap.size < W.heap.size) (t : BTurned W w1 bb bp bh vo vt) (i : Nat) : w1.cell? ⟨wr.heap.size, i, none⟩ = W.cell? ⟨wr.heap.size, i, none⟩ := by
  have h1 := I.B.lb; have h2 := I.B.lp; have h3 := I.B.lh; have h4 := I.B.bs
  refine World.cell?_of_block (a := ⟨wr.heap.size, i, none⟩) (t.block wr.heap.size hW (by omega) (by omega) (by omega) (fun e => ?_) (fun e => ?_))
  · have := (I.B.ro.lt _ e).2; omega
  · have := (I.B.rt.lt _ e).2; omega
theorem AInv.ownD {w wr W w1 : World} {base bb sb bp bw bh db rb gb kb : Nat} {j N : Nat} {m : Nat → Int} {out : List Int} {lamp : Int} {tr : List Acc} {vo vt vd : Value} (I : AInv w wr base bb sb bp bw bh db rb gb kb j N m out lamp tr vo vt vd) (hW : wr.heap.size < W.heap.size) (t : DTurned W w1 db gb vd) (i : Nat) : w1.cell? ⟨wr.heap.size, i, none⟩ = W.cell? ⟨wr.heap.size, i, none⟩ := by
  have h1 := I.M.lb; have h2 := I.M.lg; have h4 := I.M.bs
  refine World.cell?_of_block (a := ⟨wr.heap.size, i, none⟩) (t.block wr.heap.size hW (by omega) (by omega) (fun e => ?_))
  have := (I.M.rt.lt _ e).2; omega
theorem AInv.errs {S : Nat → Addr} {w wr : World} {base bb sb bp bw bh db rb gb kb : Nat} {j N : Nat} {m : Nat → Int} {out : List Int} {lamp : Int} {tr : List Acc} {vo vt vd : Value} (I : AInv w wr base bb sb bp bw bh db rb gb kb j N m out lamp tr vo vt vd) (E : Errs S w) : Errs S wr := E.stays I.be
set_option maxRecDepth 100000 in
set_option maxHeartbeats 4000000 in
theorem busActs_any {S : Nat → Addr} {w : World} (E : Errs S w) {v v2 : Value} {xs : List Int} (X : WordsIn w v xs) (hlen : (xs.length : Int) ≤ 9223372036854775807) {n : Nat} {x : Nat → Ac} (A : ActsIn w v2 n x) (hn : (n : Int) ≤ 9223372036854775807) :
    Calls Tryd.prog 7 #[v, v2] w fun e w' => e = .returned (.bool true) ∧ Below w.heap.size w w' := by
  obtain ⟨ao, cap, rfl, hcap, _⟩ := X.sh
  obtain ⟨ao2, cap2, rfl, hcap2, hcells⟩ := A.sh
  have hst := bused_any w
  have XH : Hid (WordsIn w (.slice ao xs.length cap) xs) := X
  have AH : Hid (ActsIn w (.slice ao2 n cap2) n x) := A
  have EH : Hid (Errs S w) := E
  have HC : Hid (0 < n → ∃ b off : Nat, ao2 = some ⟨b, off, none⟩ ∧ ∀ i, i < n → ∀ (j : Nat) (u : Value), (acV (x i))[j]? = some u → w.cell? ⟨b, off + i * 6 + j, none⟩ = some u) := hcells
  clear X E A hcells
  go_enter Tryd.func7, Tryd.ntmps7
  go_wp2_with fail
  refine hst.mono ?_
  rintro e w1 ⟨rfl, hb1⟩
  clear hst
  by_cases hl : 200 < (xs.length : Int)
  · go_wp2
    go_ret
    exact ⟨rfl, hb1⟩
  have hl' : (xs.length : Int) ≤ 200 := by omega
  clear hl
  by_cases hl : 60 < (n : Int)
  · go_wp2
    go_ret
    exact ⟨rfl, hb1⟩
  have hl2 : (n : Int) ≤ 60 := by omega
  clear hl
  have hnb := newBus_any (XH.out.stays hb1) (by omega)
  go_wp2_with fail
  refine hnb.mono ?_
  rintro e w2 ⟨bb, sb, bp, bw, bh, rfl, NB, hb2, l1, l2, l3⟩
  clear hnb
  have hb2' : Below w.heap.size w w2 := hb1.trans (hb2.mono hb1.size)
  have hnr := newDBus_any (XH.out.stays hb2') (by omega)
  go_wp2_with fail
  refine hnr.mono ?_
  rintro e w3 ⟨db, rb, gb, kb, rfl, D3, hb3, k1, k2, k3, k4⟩
  clear hnr
  have z1 := hb1.size
  have z2 := hb2.size
  have z3 := hb3.size
  have hb3' : Below w.heap.size w w3 := hb2'.trans (hb3.mono hb2'.size)
  have lB := NB.R.lt
  have lb := World.block_lt_of_cell? _ _ NB.c0
  have NB3 := NB.stays hb3
  have AP : Hid (AApt w.heap.size w3.heap.size bb sb bp bw bh db rb gb kb) := by
    refine ⟨by omega, by omega, by omega, by omega, by omega, by omega, fun k hk => ?_⟩
    have : k < w2.heap.size := by
      simp only at lb
      omega
    omega
  have I0 : AInv w w3 w3.heap.size bb sb bp bw bh db rb gb kb 0 64 (mw xs) [] 0 [] (.slice none 0 0) (.slice none 0 0) (.slice none 0 0) := ⟨by omega, by simp, by simp, NB3.is, D3, fun k e => by simp [Value.ownBlock] at e, hb3'⟩
  clear NB NB3 D3 hb1 hb2 hb3 hb2' hb3' XH l1 l2 l3 k1 k2 k3 k4 z1 z2 z3 lB lb hlen hcap
  generalize hbase : w3.heap.size = base at *
  clear hbase
  go_wp2_with fail
  go_loopw [8] (fun iv wr => ∃ (j N : Nat) (b : Bs) (vo vt vd : Value), j ≤ n ∧ iv = .int .i64 j ∧ AInv w wr base bb sb bp bw bh db rb gb kb j N b.m b.out b.lamp b.tr vo vt vd) (fun iv _ => n - (intOf iv).toNat)
  case atStart => exact ⟨0, 64, ⟨mw xs, [], 0, []⟩, _, _, _, by omega, rfl, I0⟩
  case round =>
    clear I0
    obtain ⟨j, N, b, vo, vt, vd, hj, rfl, I⟩ := hrel
    have IH : Hid (AInv w wr base bb sb bp bw bh db rb gb kb j N b.m b.out b.lamp b.tr vo vt vd) := I
    have ltr : b.tr.length ≤ j := I.lt
    have lout : b.out.length ≤ j := I.lo
    clear I
    by_cases hlt : j < n
    · have hlt' : (j : Int) < n := by omega
      obtain ⟨ab, off, rfl, hcell⟩ := HC.out (by omega)
      have hcc : ∀ (k : Nat) (u : Value), (acV (x j))[k]? = some u → wr.cell? ⟨ab, off + j * 6 + k, none⟩ = some u := fun k u hk => by
        have := hcell j hlt k u hk
        rw [IH.out.be.cell (World.block_lt_of_cell? _ _ this)]; exact this
      have ok := AH.out.ok j hlt
      obtain ⟨a0, a1, s0, s1, v0, v1, c0, c1⟩ := ok
      clear hcell
      generalize x j = y at *
      obtain ⟨st, a, s, sg, vv, c⟩ := y
      have q0 := hcc 0 _ rfl
      have q1 := hcc 1 _ rfl
      have q2 := hcc 2 _ rfl
      have q3 := hcc 3 _ rfl
      have q4 := hcc 4 _ rfl
      have q5 := hcc 5 _ rfl
      rw [Nat.add_zero] at q0
      simp only at q0 q1 q2 q3 q4 q5 a0 a1 s0 s1 v0 v1 c0 c1
      clear hcc HC AH
      have IA : Hid (AInv w (wr.alloc (.cells #[.bool st, .int .u32 a, .int .i64 s, .bool sg, .int .u32 vv, .int .i64 c] 60)) base bb sb bp bw bh db rb gb kb j N b.m b.out b.lamp b.tr vo vt vd) := IH.out.stays ((Below.refl _ _).alloc (Nat.le_refl _) _)
      have hN : N + 1 < maxLen := by have := IA.out.n1; unfold maxLen; omega
      have hz : wr.heap.size < (wr.alloc (.cells #[.bool st, .int .u32 a, .int .i64 s, .bool sg, .int .u32 vv, .int .i64 c] 60)).heap.size := by simp
      have hc1 : (wr.alloc (.cells #[.bool st, .int .u32 a, .int .i64 s, .bool sg, .int .u32 vv, .int .i64 c] 60)).cell? ⟨wr.heap.size, 1, none⟩ = some (.int .u32 a) := by simp
      have hc2 : (wr.alloc (.cells #[.bool st, .int .u32 a, .int .i64 s, .bool sg, .int .u32 vv, .int .i64 c] 60)).cell? ⟨wr.heap.size, 2, none⟩ = some (.int .i64 s) := by simp
      have hc3 : (wr.alloc (.cells #[.bool st, .int .u32 a, .int .i64 s, .bool sg, .int .u32 vv, .int .i64 c] 60)).cell? ⟨wr.heap.size, 3, none⟩ = some (.bool sg) := by simp
      have hc4 : (wr.alloc (.cells #[.bool st, .int .u32 a, .int .i64 s, .bool sg, .int .u32 vv, .int .i64 c] 60)).cell? ⟨wr.heap.size, 4, none⟩ = some (.int .u32 vv) := by simp
      have hc5 : (wr.alloc (.cells #[.bool st, .int .u32 a, .int .i64 s, .bool sg, .int .u32 vv, .int .i64 c] 60)).cell? ⟨wr.heap.size, 5, none⟩ = some (.int .i64 c) := by simp
      cases st with
      | true =>
        go_wp2_with fail
        generalize hWW : wr.alloc (.cells #[.bool true, .int .u32 a, .int .i64 s, .bool sg, .int .u32 vv, .int .i64 c] 60) = W at *
        clear hWW
        have IB : Hid (AInv w W.drew base bb sb bp bw bh db rb gb kb j N b.m b.out b.lamp b.tr vo vt vd) := IA.out.stays (below_drew (Below.refl _ _))
        have hz1 : wr.heap.size < W.drew.heap.size := hz
        clear IA
        refine wp_region_plan [(0, false), (1, false), (2, false), (3, false), (4, false), (5, false), (6, false), (7, false), (8, false), (10, false), (11, false), (12, false), (13, false), (14, false), (15, false), (16, false), (17, false), (18, false), (9, true), (19, true), (20, true), (21, false)] (fun W => W.cell? ⟨wr.heap.size, 1, none⟩ = some (.int .u32 a) ∧ W.cell? ⟨wr.heap.size, 2, none⟩ = some (.int .i64 s) ∧ W.cell? ⟨wr.heap.size, 4, none⟩ = some (.int .u32 vv) ∧ W.cell? ⟨wr.heap.size, 5, none⟩ = some (.int .i64 c)) (by kernel_rfl) (by kernel_rfl) (fun _ _ _ d _ h => by cases d <;> exact h) ⟨hc1, hc2, hc4, hc5⟩ ?_
        repeat (refine wpPlan_quiet (by rfl) (by rfl) (fun W hW => by (obtain ⟨k1, k2, k4, k5⟩ := hW; go_simp; try with_reducible rfl)) (fun K hK => ?_); go_simp; refine hK _ ?_; clear hK K)
        refine wpPlan_serial (by rfl) (by rfl) (fun K hK => ?_)
        go_simp
        refine (store_all (S 2) (S 8) (S 9) (er_of (EH.out.stays IB.out.be)) IB.out.B a s vv c a0 a1 s0 s1 v0 v1 c0 c1 (by omega) (by omega) hN).mono ?_
        rintro e w4 ⟨rfl, N', vo', vt', hN', B4, T4, M1, M2⟩
        have C4 := fun i => IH.out.own hz1 T4 i
        refine hK _ _ ⟨(C4 1).trans hc1, (C4 2).trans hc2, (C4 4).trans hc4, (C4 5).trans hc5⟩ ?_
        clear hK K
        refine wpPlan_serial (by rfl) (by rfl) (fun K hK => ?_)
        go_simp
        refine (dstore_all (IB.out.half AP.out T4).1 a s vv c a0 a1 s0 s1 v0 v1 (by omega) (by omega)).mono ?_
        rintro e w5 ⟨rfl, vd', D5, U5, M3⟩
        have C5 := fun i => IH.out.ownD (Nat.lt_of_lt_of_le hz1 T4.size) U5 i
        have I5 : Hid (AInv w w5 base bb sb bp bw bh db rb gb kb (j + 1) N' (b.put a s vv c).m (b.put a s vv c).out (b.put a s vv c).lamp (b.put a s vv c).tr vo' vt' vd') := IB.out.both AP.out T4 B4 M2 D5 U5 M3 hN' (b.put_out a s vv c) (b.put_tr a s vv c)
        refine hK _ _ ⟨(C5 1).trans ((C4 1).trans hc1), (C5 2).trans ((C4 2).trans hc2), (C5 4).trans ((C4 4).trans hc4), (C5 5).trans ((C4 5).trans hc5)⟩ ?_
        have e1 := (C5 1).trans ((C4 1).trans hc1)
        have e2 := (C5 2).trans ((C4 2).trans hc2)
        have e4 := (C5 4).trans ((C4 4).trans hc4)
        have e5 := (C5 5).trans ((C4 5).trans hc5)
        clear hK K D5 U5 M3 B4 T4 M1 M2 C5 C4 IB
        refine wpPlan_serial (by rfl) (by rfl) (fun K hK => ?_)
        go_simp
        refine (coded_all (EH.out.stays I5.out.be) a s).mono ?_
        rintro e w6 ⟨rfl, hb6⟩
        have I6 : Hid (AInv w w6 base bb sb bp bw bh db rb gb kb (j + 1) N' (b.put a s vv c).m (b.put a s vv c).out (b.put a s vv c).lamp (b.put a s vv c).tr vo' vt' vd') := I5.out.stays hb6
        refine hK _ _ ⟨cell_stays hb6 (Nat.le_refl _) e1, cell_stays hb6 (Nat.le_refl _) e2, cell_stays hb6 (Nat.le_refl _) e4, cell_stays hb6 (Nat.le_refl _) e5⟩ ?_
        clear hK K hb6 I5
        repeat (refine wpPlan_quiet (by rfl) (by rfl) (fun W hW => by (obtain ⟨k1, k2, k4, k5⟩ := hW; go_simp; try with_reducible rfl)) (fun K hK => ?_); go_simp; refine hK _ ?_; clear hK K)
        refine wpPlan_nil ?_
        go_wp2
        go_roundw
        case rel => exact ⟨j + 1, N', b.put a s vv c, vo', vt', vd', by omega, by go_num, I6.out⟩
        case measure => simp [intOf]; omega
      | false =>
        have hs := load_all (S 2) (S 8) (S 9) (er_of (EH.out.stays IA.out.be)) IA.out.B a s c sg a0 a1 s0 s1 c0 c1 (by omega)
        go_wp2_with fail
        refine hs.mono ?_
        rintro e w4 ⟨rfl, vt', B4, T4, M2⟩
        have C4 := fun i => IH.out.own hz T4 i
        have d1 := (C4 1).trans hc1
        have d2 := (C4 2).trans hc2
        have d3 := (C4 3).trans hc3
        have d5 := (C4 5).trans hc5
        have hr := dload_all (IA.out.half AP.out T4).1 a s c sg a0 a1 s0 s1 c0 c1 (by omega)
        go_wp2_with fail
        refine hr.mono ?_
        rintro e w5 ⟨rfl, vd', D5, U5, M3⟩
        have I5 : Hid (AInv w w5 base bb sb bp bw bh db rb gb kb (j + 1) N (b.got a s c).m (b.got a s c).out (b.got a s c).lamp (b.got a s c).tr vo vt' vd') := IA.out.both AP.out T4 B4 M2 D5 U5 M3 (by omega) (by rw [b.got_out]; omega) (b.got_tr a s c)
        clear hs hr C4 d1 d2 d3 d5 D5 U5 M3 B4 T4 M2 IA
        have hcd := coded_all (EH.out.stays I5.out.be) a s
        go_wp2_with fail
        refine hcd.mono ?_
        rintro e w6 ⟨rfl, hb6⟩
        have I6 : Hid (AInv w w6 base bb sb bp bw bh db rb gb kb (j + 1) N (b.got a s c).m (b.got a s c).out (b.got a s c).lamp (b.got a s c).tr vo vt' vd') := I5.out.stays hb6
        clear hcd hb6 I5
        go_wp2
        go_roundw
        case rel => exact ⟨j + 1, N, b.got a s c, vo, vt', vd', by omega, by go_num, I6.out⟩
        case measure => simp [intOf]; omega
    · have hlt' : ¬ (j : Int) < n := by omega
      clear HC AH
      have hcp := copyBus_any IH.out.B.seen (by omega) (by omega)
      go_wp2_with fail
      refine hcp.mono ?_
      rintro e w4 ⟨b1, b2, bb', sb', bp', bw', bh', vo', vt', rfl, B4, hb4⟩
      have I4 : Hid (AInv w w4 base bb sb bp bw bh db rb gb kb j N b.m b.out b.lamp b.tr vo vt vd) := IH.out.stays hb4
      have BH4 : Hid (BusSeen w4 b1 b2 bb' sb' bp' bw' bh' N b.m F0 F0 b.out b.lamp b.tr vo' vt') := B4
      clear hcp hb4 IH B4
      have h1 := asBus_any I4.out.B.seen I4.out.M (by omega)
      go_wp2_with fail
      refine h1.mono ?_
      rintro e w5 ⟨rfl, hb5⟩
      have I5 : Hid (AInv w w5 base bb sb bp bw bh db rb gb kb j N b.m b.out b.lamp b.tr vo vt vd) := I4.out.stays hb5
      have h2 := asBus_any (BH4.out.stays hb5) I5.out.M (by omega)
      clear h1 hb5 I4 BH4
      go_wp2_with fail
      refine h2.mono ?_
      rintro e w6 ⟨rfl, hb6⟩
      have I6 : Hid (AInv w w6 base bb sb bp bw bh db rb gb kb j N b.m b.out b.lamp b.tr vo vt vd) := I5.out.stays hb6
      clear h2 hb6 I5
      go_wp2
      go_ret
      exact ⟨rfl, I6.out.be⟩
end Go.Proofs.YtmfhimphlackiaaDoor
