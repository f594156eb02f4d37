/-
  The walk of BusApart: its rounds.
-/
import Derived.Test.YtmfhimphlackiaaDoorApartInv
namespace Go.Proofs.YtmfhimphlackiaaDoor
open Go.RowKit Go.Maps
open Num
set_option linter.unusedVariables false
set_option maxRecDepth 100000 in
set_option maxHeartbeats 4000000 in
theorem busApart_any (ps pa pf : Addr) {w : World} (E : Er ps pa pf w) {v v2 : Value} {xs : List Int} (X : WordsIn w v xs) (hlen : (xs.length : Int) ≤ 9223372036854775807) {n : Nat} {x : Nat → Ac} (A : ActsIn w v2 n x) (hn : (n : Int) ≤ 9223372036854775807) :
    Calls Tryd.prog 6 #[v, v2] w fun e w' => e = .returned (.bool true) ∧ Below w.heap.size w w' := by
  obtain ⟨ao, cap, rfl, hcap, _⟩ := X.sh
  obtain ⟨ao2, cap2, rfl, hcap2, hcells⟩ := A.sh
  have hst := bused_any w
  have XH : Hid (WordsIn w (.slice ao xs.length cap) xs) := X
  have AH : Hid (ActsIn w (.slice ao2 n cap2) n x) := A
  have EH : Hid (Er ps pa pf w) := E
  have HC : Hid (0 < n → ∃ b off : Nat, ao2 = some ⟨b, off, none⟩ ∧ ∀ i, i < n → ∀ (j : Nat) (u : Value), (acV (x i))[j]? = some u → w.cell? ⟨b, off + i * 6 + j, none⟩ = some u) := hcells
  clear X E A hcells
  go_enter Tryd.func6, Tryd.ntmps6
  go_wp2_with fail
  refine hst.mono ?_
  rintro e w1 ⟨rfl, hb1⟩
  clear hst
  by_cases hl : 200 < (xs.length : Int)
  · go_wp2
    go_ret
    exact ⟨rfl, hb1⟩
  have hl' : (xs.length : Int) ≤ 200 := by omega
  clear hl
  by_cases hl : 60 < (n : Int)
  · go_wp2
    go_ret
    exact ⟨rfl, hb1⟩
  have hl2 : (n : Int) ≤ 60 := by omega
  clear hl
  have hnb := newBus_any (XH.out.stays hb1) (by omega)
  go_wp2_with fail
  refine hnb.mono ?_
  rintro e w2 ⟨bb, sb, bp, bw, bh, rfl, NB, hb2, l1, l2, l3⟩
  clear hnb
  have hb2' : Below w.heap.size w w2 := hb1.trans (hb2.mono hb1.size)
  have hnr := new_ex2 (XH.out.stays hb2') (by omega)
  go_wp2_with fail
  refine hnr.mono ?_
  rintro e w3 ⟨sb', bp', bw', bh', rfl, R3, hb3, k1, k2, k3, k4⟩
  clear hnr
  have z1 := hb1.size
  have z2 := hb2.size
  have z3 := hb3.size
  have hb3' : Below w.heap.size w w3 := hb2'.trans (hb3.mono hb2'.size)
  have lB := NB.R.lt
  have lb := World.block_lt_of_cell? _ _ NB.c0
  have lR := R3.lt
  have NB3 := NB.stays hb3
  have AP : Hid (Apt w.heap.size w3.heap.size bb sb bp bw bh sb' bp' bw' bh') := by
    refine ⟨by omega, by omega, by omega, by omega, by omega, by omega, by omega, by omega, by omega, by omega, fun k hk => ?_⟩
    have : k < w2.heap.size := by
      simp only at lb
      omega
    omega
  have I0 : Inv w w3 w3.heap.size bb sb bp bw bh sb' bp' bw' bh' 0 64 64 (mw xs) [] 0 [] (.slice none 0 0) (.slice none 0 0) := ⟨by omega, by omega, by simp, by simp, NB3.is, R3, hb3'⟩
  clear NB NB3 R3 hb1 hb2 hb3 hb2' hb3' XH l1 l2 l3 k1 k2 k3 k4 z1 z2 z3 lB lb lR hlen hcap
  generalize hbase : w3.heap.size = base at *
  clear hbase
  go_wp2_with fail
  go_loopw [8, 9] (fun mv iv wr => ∃ (j N N' : Nat) (m : Nat → Int) (out : List Int) (lamp : Int) (tr : List Acc) (vo vt : Value), j ≤ n ∧ mv = .int .i64 tr.length ∧ iv = .int .i64 j ∧ Inv w wr base bb sb bp bw bh sb' bp' bw' bh' j N N' m out lamp tr vo vt) (fun _ iv _ => n - (intOf iv).toNat)
  case atStart => exact ⟨0, 64, 64, mw xs, [], 0, [], _, _, by omega, rfl, rfl, I0⟩
  case round =>
    clear I0
    obtain ⟨j, N, N', m, out, lamp, tr, vo, vt, hj, rfl, rfl, I⟩ := hrel
    have IH : Hid (Inv w wr base bb sb bp bw bh sb' bp' bw' bh' j N N' m out lamp tr vo vt) := I
    have ltr : tr.length ≤ j := I.lt
    have lout : out.length ≤ j := I.lo
    clear I
    by_cases hlt : j < n
    · have hlt' : (j : Int) < n := by omega
      obtain ⟨b, off, rfl, hcell⟩ := HC.out (by omega)
      have hcc : ∀ (k : Nat) (u : Value), (acV (x j))[k]? = some u → wr.cell? ⟨b, off + j * 6 + k, none⟩ = some u := fun k u hk => by
        have := hcell j hlt k u hk
        rw [IH.out.be.cell (World.block_lt_of_cell? _ _ this)]; exact this
      have ok := AH.out.ok j hlt
      obtain ⟨a0, a1, s0, s1, v0, v1, c0, c1⟩ := ok
      clear hcell
      generalize x j = y at *
      obtain ⟨st, a, s, sg, vv, c⟩ := y
      have q0 := hcc 0 _ rfl
      have q1 := hcc 1 _ rfl
      have q2 := hcc 2 _ rfl
      have q3 := hcc 3 _ rfl
      have q4 := hcc 4 _ rfl
      have q5 := hcc 5 _ rfl
      rw [Nat.add_zero] at q0
      simp only at q0 q1 q2 q3 q4 q5 a0 a1 s0 s1 v0 v1 c0 c1
      clear hcc HC AH
      have IA : Hid (Inv w (wr.alloc (.cells #[.bool st, .int .u32 a, .int .i64 s, .bool sg, .int .u32 vv, .int .i64 c] 60)) base bb sb bp bw bh sb' bp' bw' bh' j N N' m out lamp tr vo vt) := IH.out.alloc _
      have EA : Hid (Er ps pa pf (wr.alloc (.cells #[.bool st, .int .u32 a, .int .i64 s, .bool sg, .int .u32 vv, .int .i64 c] 60))) := EH.out.below IA.out.be
      have hN : N + 1 < maxLen := by have := IA.out.n1; unfold maxLen; omega
      have hN' : N' + 1 < maxLen := by have := IA.out.n2; unfold maxLen; omega
      cases hd : dev a s with
      | true =>
        have ha : ¬ a < 16384 := by unfold dev at hd; simp at hd; omega
        cases st with
        | true =>
          have hs := store_dev IA.out.B a s vv c a0 a1 s0 s1 v0 v1 c0 c1 (by omega) (by omega) hd
          clear hd
          go_wp2_with (go_at_call 27; refine hs.mono ?_; rintro e w4 ⟨rfl, vo', vt', B4, T4, M1, M2⟩; have d1 : w4.cell? ⟨wr.heap.size, 1, none⟩ = some (.int .u32 a) := (IH.out.own T4 1).trans (by simp))
          go_roundw
          case rel => exact ⟨j + 1, N, N', m, outN out a vv, lampN lamp a vv, tr ++ [⟨c, true, a, vv⟩], vo', vt', by omega, by simp, by go_num, IA.out.dev AP.out B4 T4 (by unfold outN; split <;> simp)⟩
          case measure => simp [intOf]; omega
        | false =>
          have hs := load_dev IA.out.B a s c sg a0 a1 s0 s1 c0 c1 (by omega) hd
          clear hd
          go_wp2_with (go_at_call 28; refine hs.mono ?_; rintro e w4 ⟨rfl, vt', B4, T4, M2⟩; have d1 : w4.cell? ⟨wr.heap.size, 1, none⟩ = some (.int .u32 a) := (IH.out.own T4 1).trans (by simp))
          go_roundw
          case rel => exact ⟨j + 1, N, N', m, out, lamp, tr ++ [⟨c, false, a, devV a c lamp⟩], vo, vt', by omega, by simp, by go_num, IA.out.dev AP.out B4 T4 (by omega)⟩
          case measure => simp [intOf]; omega
      | false =>
        by_cases hc : chk a s = 0
        · have ha : a < 16384 := (chk_ok hc).2.2
          cases st with
          | true =>
            have hs := store_mem IA.out.B a s vv c a0 a1 s0 s1 v0 v1 hN hc
            rw [F0_hit] at hs
            clear hd
            go_wp2_with (go_at_call 27; refine hs.mono ?_; rintro e w4 ⟨rfl, B4, T4⟩; have d1 : w4.cell? ⟨wr.heap.size, 1, none⟩ = some (.int .u32 a) := (IH.out.own (BTurned.of_turned T4) 1).trans (by simp); have d2 : w4.cell? ⟨wr.heap.size, 2, none⟩ = some (.int .i64 s) := (IH.out.own (BTurned.of_turned T4) 2).trans (by simp); have d4 : w4.cell? ⟨wr.heap.size, 4, none⟩ = some (.int .u32 vv) := (IH.out.own (BTurned.of_turned T4) 4).trans (by simp))
            have hr := store_ok (IA.out.other (m' := m) AP.out T4) a s vv a0 a1 v0 v1 hN' hc
            rw [F0_hit] at hr
            refine hr.mono ?_
            rintro e w5 ⟨rfl, R5, T5⟩
            have IM : Hid (Inv w w5 base bb sb bp bw bh sb' bp' bw' bh' (j + 1) (N + 2) (N' + 2) (upd m a s vv) out lamp tr vo vt) := IA.out.mem AP.out B4 T4 R5 T5
            clear hr hs B4 T4 R5 T5
            go_wp2
            go_roundw
            case rel => exact ⟨j + 1, N + 2, N' + 2, upd m a s vv, out, lamp, tr, vo, vt, by omega, rfl, by go_num, IM.out⟩
            case measure => simp [intOf]; omega
          | false =>
            have hs := load_mem IA.out.B a s c sg a0 a1 s0 s1 hc
            have hr := fun k => load_ok (IA.out.R.drewN k) a s sg a0 a1 hc
            generalize ld m a s sg = lv at hs hr
            clear hd hc
            go_wp2_with (first | (go_at_call 28; refine hs.mono ?_; rintro e w4 ⟨rfl, k4, rfl⟩) | (go_at_call 14; refine (hr _).mono ?_; rintro e w5 ⟨rfl, k5, rfl⟩))
            go_quiet (fail)
            go_wp2
            go_roundw
            case rel => exact ⟨j + 1, N, N', m, out, lamp, tr, vo, vt, by omega, rfl, by go_num, (IA.out.drewN _).next⟩
            case measure => simp [intOf]; omega
        · by_cases ha : a < 16384
          · cases st with
            | true =>
              have hs := store_bad ps pa pf EA.out IA.out.B a s vv c a0 a1 s0 s1 hc hd
              have hr := store_no ps pa pf EA.out (.pointer (some ⟨sb', 0, none⟩)) a s vv a0 a1 s0 s1 hc
              generalize erA ps pa pf (chk a s) = er at hs hr
              clear hd hc
              go_wp2_with (first | (go_at_call 27; refine hs.mono ?_; rintro e w4 ⟨rfl, rfl⟩) | (go_at_call 12; refine hr.mono ?_; rintro e w5 ⟨rfl, rfl⟩))
              go_roundw
              case rel => exact ⟨j + 1, N, N', m, out, lamp, tr, vo, vt, by omega, rfl, by go_num, IA.out.next⟩
              case measure => simp [intOf]; omega
            | false =>
              have hs := load_bad ps pa pf EA.out IA.out.B a s c sg a0 a1 s0 s1 hc hd
              have hr := load_no ps pa pf EA.out (.pointer (some ⟨sb', 0, none⟩)) a s sg a0 a1 s0 s1 hc
              generalize erA ps pa pf (chk a s) = er at hs hr
              clear hd hc
              go_wp2_with (first | (go_at_call 28; refine hs.mono ?_; rintro e w4 ⟨rfl, rfl⟩) | (go_at_call 14; refine hr.mono ?_; rintro e w5 ⟨rfl, rfl⟩))
              go_quiet (fail)
              go_wp2
              go_roundw
              case rel => exact ⟨j + 1, N, N', m, out, lamp, tr, vo, vt, by omega, rfl, by go_num, (IA.out.drewN _).next⟩
              case measure => simp [intOf]; omega
          · cases st with
            | true =>
              have hs := store_bad ps pa pf EA.out IA.out.B a s vv c a0 a1 s0 s1 hc hd
              generalize erA ps pa pf (chk a s) = er at hs
              clear hd hc
              go_wp2_with (go_at_call 27; refine hs.mono ?_; rintro e w4 ⟨rfl, rfl⟩)
              go_roundw
              case rel => exact ⟨j + 1, N, N', m, out, lamp, tr, vo, vt, by omega, rfl, by go_num, IA.out.next⟩
              case measure => simp [intOf]; omega
            | false =>
              have hs := load_bad ps pa pf EA.out IA.out.B a s c sg a0 a1 s0 s1 hc hd
              generalize erA ps pa pf (chk a s) = er at hs
              clear hd hc
              go_wp2_with (go_at_call 28; refine hs.mono ?_; rintro e w4 ⟨rfl, rfl⟩)
              go_roundw
              case rel => exact ⟨j + 1, N, N', m, out, lamp, tr, vo, vt, by omega, rfl, by go_num, IA.out.next⟩
              case measure => simp [intOf]; omega
    · have hlt' : ¬ (j : Int) < n := by omega
      clear HC AH
      go_wp2_with fail
      refine (trace_any IH.out.B (by omega)).mono ?_
      rintro e w4 ⟨ao4, cap4, rfl, _, hb4⟩
      have I4 : Hid (Inv w w4 base bb sb bp bw bh sb' bp' bw' bh' j N N' m out lamp tr vo vt) := IH.out.stays hb4
      clear hb4 IH
      go_wp2_with fail
      refine (ramOf_any I4.out.B).mono ?_
      rintro e w5 ⟨rfl, rfl⟩
      go_wp2_with fail
      refine (words_at I4.out.B.R).mono ?_
      rintro e w6 ⟨g, rfl, W6, hb6, _⟩
      have I6 : Hid (Inv w w6 base bb sb bp bw bh sb' bp' bw' bh' j N N' m out lamp tr vo vt) := I4.out.stays hb6
      have WH6 : Hid (WordsAt w6 g m) := W6
      clear hb6 W6 I4
      go_wp2_with fail
      refine (words_at I6.out.R).mono ?_
      rintro e w7 ⟨g', rfl, W7, hb7, _⟩
      have I7 : Hid (Inv w w7 base bb sb bp bw bh sb' bp' bw' bh' j N N' m out lamp tr vo vt) := I6.out.stays hb7
      have hal := alike_at (WH6.out.stays hb7) W7
      clear hb7 W7 WH6 I6
      go_wp2_with fail
      refine hal.mono ?_
      rintro e w8 ⟨rfl, k8, rfl⟩
      clear hal
      go_wp2
      go_ret
      exact ⟨rfl, below_drewN I7.out.be _⟩
end Go.Proofs.YtmfhimphlackiaaDoor
