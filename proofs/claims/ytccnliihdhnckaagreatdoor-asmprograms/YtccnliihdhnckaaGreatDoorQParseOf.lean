/-
  The document's answer's ParseOf: the walk.
-/
import Derived.Test.YtccnliihdhnckaaGreatDoorKPOa
namespace Go.Proofs.YtccnliihdhnckaaGreatDoor
open Go.RowKit Go.Shelf Go.Joins
open Num Tab Fm Txt
set_option linter.unusedVariables false
set_option maxRecDepth 100000 in
set_option maxHeartbeats 60000000 in
theorem parseOf_any (l : List UInt8) (hl : l.length ≤ 1000) (w : World) :
    Calls Tryz.prog 13 #[.string ⟨l.toArray⟩] w fun e w' => e = .returned (poV l) ∧ Below w.heap.size w w' := by
  have hl' : (l.length : Int) ≤ 1000 := by omega
  have hZ0 := ZAt.alloc w
  have hA : Below w.heap.size w (w.alloc (.cells #[.int .i64 0, .int .i64 0, .int .i64 0, .int .i64 0, .int .u32 0] 24)) := (Below.refl _ _).alloc (Nat.le_refl _) _
  have hS0 : (w.alloc (.cells #[.int .i64 0, .int .i64 0, .int .i64 0, .int .i64 0, .int .u32 0] 24)).heap.size = w.heap.size + 1 := by simp
  go_enter Tryz.func13, Tryz.ntmps13
  go_upto_block 0 with fail
  generalize w.alloc (.cells #[.int .i64 0, .int .i64 0, .int .i64 0, .int .i64 0, .int .u32 0] 24) = W1 at hZ0 hA hS0 ⊢
  have HZ : Hid (ZAt w.heap.size W1 ∧ Below w.heap.size w W1 ∧ W1.heap.size = w.heap.size + 1) := ⟨hZ0, hA, hS0⟩
  clear hZ0 hA hS0
  go_cut [4] from 15 to 26 (fun x wx => x = .int .i64 ((l.takeWhile isWord).length : Int) ∧ wx = W1)
  case first =>
    as_aux_lemma =>
    go_wp2_with fail
    go_loop [4] (fun x => ∃ q : Nat, q ≤ (l.takeWhile isWord).length ∧ x = .int .i64 q) (fun x => 2000 - (intOf x).toNat)
    case atStart => exact ⟨0, Nat.zero_le _, rfl⟩
    case round =>
      as_aux_lemma =>
      obtain ⟨q, hq, rfl⟩ := hrel
      have hp : (l.takeWhile isWord).length ≤ l.length := (List.takeWhile_prefix isWord).length_le
      have q0 : (0 : Int) ≤ q := by omega
      rcases Nat.lt_or_ge q l.length with hq1 | hq1
      · have hlt' : (q : Int) < l.length := by omega
        have hiq : ∀ h, (⟨l.toArray⟩ : ByteArray)[q]'h = l[q] := fun _ => rfl
        cases hw : isWord l[q] with
        | true =>
          have e32 : ((l[q].toNat : Int) != 32) = true := by
            have : ¬ l[q].toNat = 32 := fun e => by
              have e2 : l[q] = 32 := UInt8.toNat_inj.mp e
              rw [e2] at hw; exact absurd hw (by decide)
            simp; omega
          have HM : Hid (q + 1 ≤ (l.takeWhile isWord).length) := word_more l q hq hq1 hw
          clear hw
          go_wp2
          go_round
          case rel => exact ⟨q + 1, HM.out, by go_num⟩
          case measure => simp [intOf]; omega
        | false =>
          have HQ : Hid (q = (l.takeWhile isWord).length) := word_end l q hq (Or.inr ⟨hq1, hw⟩)
          have e32 : ((l[q].toNat : Int) != 32) = false := by
            have : l[q] = 32 := by unfold isWord at hw; simpa using hw
            rw [this]; decide
          clear hw
          go_wp2
          go_meet
          exact ⟨by rw [← HQ.out], rfl⟩
      · have hlt' : ¬ (q : Int) < l.length := by omega
        have HQ : Hid (q = (l.takeWhile isWord).length) := word_end l q hq (Or.inl (by omega))
        go_wp2
        go_meet
        exact ⟨by rw [← HQ.out], rfl⟩
  case rest =>
    as_aux_lemma =>
    obtain ⟨rfl, rfl⟩ := hcut
    have hk := opOf_lt (l.takeWhile isWord)
    have HK : Hid (IsNm (l.takeWhile isWord) (opOf (l.takeWhile isWord))) := opOf_is _
    have HP : Hid (parseS l = if opOf (l.takeWhile isWord) = 0 then .name else fin (opOf (l.takeWhile isWord)) (pgo (form (opOf (l.takeWhile isWord))) (l.dropWhile isWord) (some ⟨0, 0, 0, 0⟩))) := rfl
    have hext : (⟨l.toArray⟩ : ByteArray).extract 0 (l.takeWhile isWord).length = ⟨(l.takeWhile isWord).toArray⟩ := by
      rw [ext_take]
      have e : l.takeWhile isWord ++ l.dropWhile isWord = l := List.takeWhile_append_dropWhile
      have : l.take (l.takeWhile isWord).length = l.takeWhile isWord := by
        calc l.take (l.takeWhile isWord).length = (l.takeWhile isWord ++ l.dropWhile isWord).take (l.takeWhile isWord).length := by rw [e]
          _ = l.takeWhile isWord := List.take_left' rfl
      rw [this]
    have hnl : (l.takeWhile isWord).length ≤ l.length := (List.takeWhile_prefix isWord).length_le
    have hnl' : ((l.takeWhile isWord).length : Int) ≤ l.length := by omega
    have HDR : Hid (l.drop (l.takeWhile isWord).length = l.dropWhile isWord) := by
      have e : l.takeWhile isWord ++ l.dropWhile isWord = l := List.takeWhile_append_dropWhile
      show l.drop _ = _
      calc l.drop (l.takeWhile isWord).length = (l.takeWhile isWord ++ l.dropWhile isWord).drop (l.takeWhile isWord).length := by rw [e]
        _ = l.dropWhile isWord := List.drop_left' rfl
    generalize opOf (l.takeWhile isWord) = k at *
    generalize l.dropWhile isWord = r0 at *
    generalize l.takeWhile isWord = nm at *
    go_wp2_with fail
    refine (rows_any' _).mono ?_
    rintro e w2 ⟨rfl, hb2, ht2⟩
    have HT2 : Hid (TabAt wc.heap.size w2 ∧ Below wc.heap.size wc w2) := ⟨ht2, hb2⟩
    have hz2 : wc.heap.size < w2.heap.size := cell_lt (ht2 0 (by omega)).c0
    clear ht2 hb2
    go_upto_block 2 with fail
    have hE : SInv w2.heap.size (w2.alloc (.cells #[.int .i64 0, .int .i64 0, .int .i64 0, .int .i64 0, .int .u32 0] 24)) (w2.alloc (.cells #[.int .i64 0, .int .i64 0, .int .i64 0, .int .i64 0, .int .u32 0] 24)) 0 ⟨0, 0, 0, 0⟩ :=
      ⟨by simp, by simp, by simp, by simp, by simp, fun j => by simp, Below.refl _ _⟩
    have hT3 : TabAt wc.heap.size (w2.alloc (.cells #[.int .i64 0, .int .i64 0, .int .i64 0, .int .i64 0, .int .u32 0] 24)) := HT2.out.1.stays ((Below.refl _ _).alloc (Nat.le_refl _) _)
    have hb3 : Below w2.heap.size w2 (w2.alloc (.cells #[.int .i64 0, .int .i64 0, .int .i64 0, .int .i64 0, .int .u32 0] 24)) := (Below.refl _ _).alloc (Nat.le_refl _) _
    generalize w2.alloc (.cells #[.int .i64 0, .int .i64 0, .int .i64 0, .int .i64 0, .int .u32 0] 24) = W3 at hE hT3 hb3 ⊢
    have HT3 : Hid (TabAt wc.heap.size W3) := hT3
    have HB3 : Hid (Below w2.heap.size w2 W3) := hb3
    clear hT3 hb3
    go_cut [7] from 29 to 45 (fun _ wx => SInv w2.heap.size W3 wx k ⟨0, 0, 0, 0⟩)
    case first =>
      as_aux_lemma =>
      go_wp2_with fail
      go_loopw [7] (fun a wr => ∃ p : Nat, 1 ≤ p ∧ p ≤ 54 ∧ a = .int .i64 p ∧ SInv w2.heap.size W3 wr (opBel k p) ⟨0, 0, 0, 0⟩) (fun a _ => 54 - (intOf a).toNat)
      case atStart => exact ⟨1, by omega, by omega, rfl, by
        have : opBel k 1 = 0 := by unfold opBel; split <;> omega
        rw [this]; exact hE⟩
      case round =>
        as_aux_lemma =>
        clear hE
        obtain ⟨p, hp1, hp2, rfl, E⟩ := hrel
        have p0 : (0 : Int) ≤ p := by omega
        by_cases hlt : p < 54
        · have hlt' : (p : Int) < 54 := by omega
          have hrow := (tab_below HT3.out E.bel hz2 p hlt).c0
          have hc0 := E.c0
          have hf0 := E.fz 0
          by_cases hn : nme p = nm
          · have HKP : Hid (k = p) := isNm_one HK.out (Or.inl ⟨hp1, hlt, hn⟩)
            have hb : (nm == nm) = true := by simp
            rw [hn] at hrow
            clear hn
            go_wp2_with fail
            go_region
            all_goals
              go_wp2
              go_roundw
              case rel =>
                refine ⟨p + 1, by omega, by omega, by go_num, ?_⟩
                have : opBel k (p + 1) = p := by unfold opBel; rw [if_pos (by rw [HKP.out]; omega), HKP.out]
                rw [this]
                first | exact E.drew.putO p | exact (E.putO p).drew
              case measure => simp [intOf]; omega
          · have HKP : Hid (¬ k = p) := fun e => by
              rcases HK.out with h | h
              · exact hn (e ▸ h.2.2)
              · omega
            have hb : (nme p == nm) = false := by simpa using hn
            generalize nme p = np at *
            go_wp2_with fail
            go_region
            all_goals
              go_wp2
              go_roundw
              case rel =>
                refine ⟨p + 1, by omega, by omega, by go_num, ?_⟩
                have : opBel k (p + 1) = opBel k p := by
                  have := HKP.out
                  unfold opBel
                  by_cases h : k < p
                  · rw [if_pos h, if_pos (by omega)]
                  · rw [if_neg h, if_neg (by omega)]
                rw [this]
                exact E.drew
              case measure => simp [intOf]; omega
        · obtain rfl : p = 54 := by omega
          go_wp2
          go_meet
          have : opBel k 54 = k := by unfold opBel; rw [if_pos hk]
          rw [this] at E; exact E
    case rest =>
      as_aux_lemma =>
      clear hE
      have E := hcut
      clear hcut
      have HZC : Hid (ZAt w.heap.size W3 ∧ Below w.heap.size w W3 ∧ w.heap.size < w2.heap.size) := by
        obtain ⟨z, b, e⟩ := HZ.out
        have b2 := HT2.out.2
        have hz : ZAt w.heap.size w2 := z.stays b2 (by omega)
        refine ⟨hz.stays HB3.out (by omega), (b.trans (b2.mono (by omega))).trans (HB3.out.mono (by omega)), by omega⟩
      have hZ : ZAt w.heap.size wc := HZC.out.1.stays E.bel HZC.out.2.2
      have hbw : Below w.heap.size w wc := HZC.out.2.1.trans (E.bel.mono (by have := HZC.out.2.2; omega))
      have hrow := (tab_below HT3.out E.bel hz2 k hk).c4
      have HEB : Hid (Below w2.heap.size W3 wc) := E.bel
      obtain ⟨c0, c1, c2, c3, c4, fz, -⟩ := E
      by_cases hk0 : k = 0
      · subst hk0
        have HV : Hid (poV l = .tuple #[ins 0 0 0 0 0, .int .i64 5]) := by show poV l = _; unfold poV; rw [HP.out]; rfl
        obtain ⟨z0, z1, z2, z3, z4, zf⟩ := hZ
        have hZ : ZAt w.heap.size wc := ⟨z0, z1, z2, z3, z4, zf⟩
        go_wp2
        refine (?key : ∀ X, ZAt w.heap.size X → Below w.heap.size w X → bodyPost Tryz.prog Tryz.f13 _ Exit.ret _ X) _ ?h1 ?h2
        case key =>
          intro X z b
          obtain ⟨z0, z1, z2, z3, z4, zf⟩ := z
          exact bodyPost_ret (v := .tuple #[ins 0 0 0 0 0, .int .i64 5]) (by simp [results, Tryz.results13, go_sem, z0, z1, z2, z3, z4]) rfl ⟨by rw [HV.out], b⟩
        case h1 => exact hZ.zeros
        case h2 => exact below_zeros hbw
      · have kn : ((k : Int) == 0) = false := by simp; omega
        have k0 : (0 : Int) ≤ k := by omega
        have k1 : (k : Int) < 54 := by omega
        have HP2 : Hid (parseS l = fin k (rgo (ordr k) true r0 (some ⟨0, 0, 0, 0⟩))) := by
          show parseS l = _
          rw [HP.out, if_neg hk0, parse_way k hk]
        go_upto_block 4 with fail
        have E : SInv w2.heap.size W3 wc k ⟨0, 0, 0, 0⟩ := ⟨c0, c1, c2, c3, c4, fz, HEB.out⟩
        clear c0 c1 c2 c3 c4 fz hrow
        have hol := ord_len k hk
        generalize hod : ordr k = od at *
        have HOD : Hid (od.all ordB = true) := by show od.all ordB = true; rw [← hod]; exact ordr_ok k hk
        have HD0 : Hid (l.drop nm.length = r0) := HDR.out
        have hol' : (od.length : Int) ≤ 3 := by omega
        clear hod hext
        go_wp2_with fail
        go_loopw [4, 9, 10] (fun a b c wr => ∃ (m q : Nat) (acc : Option F) (f : F), m ≤ od.length ∧ q ≤ l.length ∧ a = .int .i64 q ∧ b = .bool acc.isNone ∧ c = .int .i64 m ∧ Hid (parseS l = fin k (rgo (od.drop m) (decide (m = 0)) (l.drop q) acc)) ∧ Hid (∀ g, acc = some g → f = g) ∧ SInv w2.heap.size W3 wr k f) (fun _ _ c _ => od.length - (intOf c).toNat)
        case atStart => exact ⟨0, nm.length, some ⟨0, 0, 0, 0⟩, ⟨0, 0, 0, 0⟩, Nat.zero_le _, hnl, rfl, rfl, rfl, by show parseS l = _; rw [HD0.out]; exact HP2.out, fun g h => by injection h, E⟩
        case round =>
          as_aux_lemma =>
          clear E hZ hbw
          obtain ⟨m, q, acc, f, hm, hq, rfl, rfl, rfl, HR, HA, E⟩ := hrel
          have hZr : ZAt w.heap.size wr := HZC.out.1.stays E.bel HZC.out.2.2
          have hbr : Below w.heap.size w wr := HZC.out.2.1.trans (E.bel.mono (by have := HZC.out.2.2; omega))
          have q0 : (0 : Int) ≤ q := by omega
          have q1 : (q : Int) ≤ l.length := by omega
          have m0 : (0 : Int) ≤ m := by omega
          obtain ⟨z0, z1, z2, z3, z4, zf⟩ := hZr
          have hZr : ZAt w.heap.size wr := ⟨z0, z1, z2, z3, z4, zf⟩
          by_cases hml : m < od.length
          · have hml' : (m : Int) < od.length := by omega
            have hix : ∀ h, (⟨od.toArray⟩ : ByteArray)[m]'h = od[m] := fun _ => rfl
            have hor : ordB od[m] = true := List.all_eq_true.mp HOD.out _ (List.getElem_mem hml)
            have hdm : od.drop m = od[m] :: od.drop (m + 1) := List.drop_eq_getElem_cons hml
            rw [hdm] at HR
            clear hdm
            go_upto_if 63 with fail
            go_cut [11] from 56 to 202 (fun x wx => x = .string ⟨(sep (decide (m = 0))).toArray⟩ ∧ wx = wr)
            case first =>
              as_aux_lemma =>
              by_cases hm0 : m = 0
              · have hg : ¬ 0 < (m : Int) := by omega
                have HF : Hid (decide (m = 0) = true) := by show decide _ = _; simp [hm0]
                clear hm0
                go_wp2
                go_meet
                exact ⟨by rw [HF.out]; rfl, rfl⟩
              · have hg : 0 < (m : Int) := by omega
                have HF : Hid (decide (m = 0) = false) := by show decide _ = _; simp [hm0]
                clear hm0
                go_wp2
                go_meet
                exact ⟨by rw [HF.out]; rfl, rfl⟩
            case rest =>
              as_aux_lemma =>
              obtain ⟨rfl, rfl⟩ := hcut
              have HS0 : Hid (parseS l = fin k (rgo (od[m] :: od.drop (m + 1)) (decide (m = 0)) (l.drop q) acc)) := HR.out
              have hsp : 1 ≤ (sep (decide (m = 0))).length ∧ (sep (decide (m = 0))).length ≤ 2 := by unfold sep; split <;> simp
              have HS1 : Hid (∀ x, strip (sep (decide (m = 0))) (l.drop q) = x → parseS l = fin k (match x with
                | none => none
                | some r1 => match (if regB od[m] then regD r1 else rnum r1) with
                  | none => none
                  | some (n, r2) =>
                    if od[m] = 109 then match strip [40] r2 with
                      | none => none
                      | some r3 => match regD r3 with
                        | none => none
                        | some (n', r4) => match strip [41] r4 with
                          | none => none
                          | some r5 => rgo (od.drop (m + 1)) false r5 (put 83 n' (put 105 n acc))
                    else rgo (od.drop (m + 1)) false r2 (put (lett od[m]) n acc))) := by
                intro x hx; rw [HS0.out, rgo, hx]
                cases x <;> rfl
              have HST : Hid (strip (sep (decide (m = 0))) (l.drop q) = if (l.drop q).take (sep (decide (m = 0))).length = sep (decide (m = 0)) then some (l.drop (q + (sep (decide (m = 0))).length)) else none) := strip_mid _ l q
              have HSS : Hid ((l.drop q).length < (sep (decide (m = 0))).length → strip (sep (decide (m = 0))) (l.drop q) = none) := strip_short _ _
              generalize sep (decide (m = 0)) = sp at *
              obtain ⟨hs1, hs2⟩ := hsp
              have hs1' : (1 : Int) ≤ sp.length := by omega
              have hs2' : (sp.length : Int) ≤ 2 := by omega
              clear HR HS0
              by_cases hA : (l.length : Int) < (q : Int) + sp.length
              · have HV : Hid (poV l = .tuple #[ins 0 0 0 0 0, .int .i64 1]) := by
                  show poV l = _
                  unfold poV
                  rw [HS1.out none (HSS.out (by rw [List.length_drop]; omega))]
                  rfl
                as_aux_lemma =>
                go_upto_region 22 with fail
                apply wp_region_lit
                refine wpList_build24 rfl rfl ?_
                refine wpList_store24 rfl _ _ rfl w.heap.size rfl rfl hZr ?_
                refine wpList_err (.int .i64 1) rfl rfl (by assumption) ?_
                show bodyPost Tryz.prog Tryz.f13 (fun e w' => e = Ending.returned (poV l) ∧ Below w.heap.size w w') Exit.ret _ _
                refine err_ret (B := w.heap.size) (c := 1) ?_ ?_ ?_ hZr.zeros ?_
                · rfl
                · rfl
                · rfl
                · exact ⟨by rw [HV.out], below_zeros hbr⟩
              · obtain ⟨x, hxx⟩ : ∃ x, (l.drop q).take sp.length = x := ⟨_, rfl⟩
                rw [hxx] at HST
                have HXX : Hid ((l.drop q).take sp.length = x) := hxx
                clear hxx HSS
                have hsl := fun w => run_mid l q sp.length (by omega) w
                rw [HXX.out] at hsl
                by_cases hxs : x = sp
                · have hxb : (x == sp) = true := by simpa using hxs
                  have hxn : (x != sp) = false := by simpa using hxs
                  have HS2 : Hid (parseS l = fin k (match rdo od[m] (l.drop (q + sp.length)) with
                      | none => none
                      | some (n, r2) =>
                        if od[m] = 109 then match strip [40] r2 with
                          | none => none
                          | some r3 => match regD r3 with
                            | none => none
                            | some (n', r4) => match strip [41] r4 with
                              | none => none
                              | some r5 => rgo (od.drop (m + 1)) false r5 (put 83 n' (put 105 n acc))
                        else rgo (od.drop (m + 1)) false r2 (put (lett od[m]) n acc))) := by
                    show parseS l = _
                    rw [HS1.out _ (by rw [HST.out, if_pos hxs])]
                    rfl
                  subst hxs
                  clear HST HS1 HXX
                  obtain ⟨qn, hqn⟩ : ∃ qn : Nat, qn = q + x.length := ⟨_, rfl⟩
                  rw [← hqn] at HS2
                  have qn1 : qn ≤ l.length := by omega
                  have eqn : (q : Int) + (x.length : Int) = (qn : Int) := by omega
                  have HQ : Hid (qn = q + x.length) := hqn
                  rw [eqn] at hsl
                  clear hqn
                  have qn0 : (0 : Int) ≤ qn := by omega
                  have qn2 : (qn : Int) ≤ l.length := by omega
                  go_upto_region 27 with fail
                  clear hsl hxb hxn eqn hA
                  go_cut [101] from 56 to 202 (fun c wx => c = .bool (regB od[m]) ∧ wx = wc)
                  case first =>
                    as_aux_lemma =>
                    rcases reg_cs od[m] with ⟨e1, HL⟩ | ⟨e1, e2, HL⟩ | ⟨e1, e2, e3, HL⟩ | ⟨e1, e2, e3, HL⟩
                    all_goals
                      go_wp2
                      go_meet
                      exact ⟨by rw [HL.out], rfl⟩
                  case rest =>
                    as_aux_lemma =>
                    obtain ⟨rfl, rfl⟩ := hcut
                    cases hrd : rdo od[m] (l.drop qn) with
                    | none =>
                      have HV : Hid (poV l = .tuple #[ins 0 0 0 0 0, .int .i64 1]) := by
                        show poV l = _
                        unfold poV
                        rw [HS2.out, hrd]
                        rfl
                      clear HS2
                      cases hB : regB od[m] with
                      | true =>
                        have hc := regAt_any l hl qn qn1 wc
                        have hv : raV l qn = .tuple #[.int .i64 0, .int .i64 (-1)] := by
                          unfold raV; unfold rdo at hrd; rw [if_pos hB] at hrd; rw [hrd]; rfl
                        rw [hv] at hc
                        clear hv hrd
                        as_aux_lemma =>
                        go_upto_region 31 with (go_at_call 40; refine hc.mono ?_; rintro e w' ⟨rfl, rfl⟩)
                        apply wp_region_lit
                        refine wpList_build24 rfl rfl ?_
                        refine wpList_store24 rfl _ _ rfl w.heap.size rfl rfl hZr ?_
                        refine wpList_err (.int .i64 1) rfl rfl (by assumption) ?_
                        show bodyPost Tryz.prog Tryz.f13 (fun e w' => e = Ending.returned (poV l) ∧ Below w.heap.size w w') Exit.ret _ _
                        refine err_ret (B := w.heap.size) (c := 1) ?_ ?_ ?_ hZr.zeros ?_
                        · rfl
                        · rfl
                        · rfl
                        · exact ⟨by rw [HV.out], below_zeros hbr⟩
                      | false =>
                        have hc := numAt_any l hl qn qn1 wc
                        have hv : naV l qn = .tuple #[.int .i64 0, .int .i64 (-1)] := by
                          unfold naV; unfold rdo at hrd; rw [if_neg (by rw [hB]; decide)] at hrd; rw [hrd]; rfl
                        rw [hv] at hc
                        clear hv hrd
                        as_aux_lemma =>
                        go_upto_region 31 with (go_at_call 41; refine hc.mono ?_; rintro e w' ⟨rfl, rfl⟩)
                        apply wp_region_lit
                        refine wpList_build24 rfl rfl ?_
                        refine wpList_store24 rfl _ _ rfl w.heap.size rfl rfl hZr ?_
                        refine wpList_err (.int .i64 1) rfl rfl (by assumption) ?_
                        show bodyPost Tryz.prog Tryz.f13 (fun e w' => e = Ending.returned (poV l) ∧ Below w.heap.size w w') Exit.ret _ _
                        refine err_ret (B := w.heap.size) (c := 1) ?_ ?_ ?_ hZr.zeros ?_
                        · rfl
                        · rfl
                        · rfl
                        · exact ⟨by rw [HV.out], below_zeros hbr⟩
                    | some y =>
                      obtain ⟨n, r2⟩ := y
                      obtain ⟨q2, hq2, hqe, hr2, n0, n1⟩ := rdo_at od[m] l qn qn1 hrd
                      have HNN : Hid (regB od[m] = true → 0 ≤ n) := rdo_neg od[m] l qn qn1 hrd
                      have HS3 : Hid (parseS l = fin k (if od[m] = 109 then match strip [40] (l.drop q2) with
                              | none => none
                              | some r3 => match regD r3 with
                                | none => none
                                | some (n', r4) => match strip [41] r4 with
                                  | none => none
                                  | some r5 => rgo (od.drop (m + 1)) false r5 (put 83 n' (put 105 n acc))
                            else rgo (od.drop (m + 1)) false (l.drop q2) (put (lett od[m]) n acc))) := by
                        show parseS l = _
                        rw [HS2.out, hrd, ← hr2]
                      have q20 : (0 : Int) ≤ q2 := by omega
                      have q21 : (q2 : Int) ≤ l.length := by omega
                      clear HS2
                      go_upto_if 101 with fail
                      go_cut [4, 12] from 56 to 202 (fun a b wx => a = .int .i64 q2 ∧ b = .int .i64 n ∧ wx = wc)
                      case first =>
                        as_aux_lemma =>
                        cases hB : regB od[m] with
                        | true =>
                          have hc := regAt_any l hl qn qn1 wc
                          have hv : raV l qn = .tuple #[.int .i64 n, .int .i64 q2] := by
                            unfold raV; unfold rdo at hrd; rw [if_pos hB] at hrd; rw [hrd, ← hqe]
                          rw [hv] at hc
                          clear hv hrd hqe
                          go_wp2_with (go_at_call 40; refine hc.mono ?_; rintro e w' ⟨rfl, rfl⟩)
                          go_meet
                          exact ⟨rfl, rfl, rfl⟩
                        | false =>
                          have hc := numAt_any l hl qn qn1 wc
                          have hv : naV l qn = .tuple #[.int .i64 n, .int .i64 q2] := by
                            unfold naV; unfold rdo at hrd; rw [if_neg (by rw [hB]; decide)] at hrd; rw [hrd, ← hqe]
                          rw [hv] at hc
                          clear hv hrd hqe
                          go_wp2_with (go_at_call 41; refine hc.mono ?_; rintro e w' ⟨rfl, rfl⟩)
                          go_meet
                          exact ⟨rfl, rfl, rfl⟩
                      case rest =>
                        as_aux_lemma =>
                        obtain ⟨rfl, rfl, rfl⟩ := hcut
                        clear hrd hqe hr2 qn0 qn2 qn1 HQ
                        go_upto_block 6 with fail
                        obtain ⟨c0, c1, c2, c3, c4, fz, be⟩ := E
                        have EH : Hid (SInv w2.heap.size W3 wc k f) := ⟨c0, c1, c2, c3, c4, fz, be⟩
                        clear be
                        go_cut [13, 14] from 56 to 202 (fun a b wx => a = .int .i64 (lowB (lett od[m])) ∧ b = .int .i64 (highB (lett od[m])) ∧ SInv w2.heap.size W3 wx k (setF f (lett od[m]) n))
                        case first =>
                          as_aux_lemma =>
                          have hfz1 := fz 1; have hfz2 := fz 2; have hfz3 := fz 3; have hfz4 := fz 4
                          obtain ⟨t1, t2, ht1, ht2, t1a, t1b, t2a, t2b, ht3⟩ := tm16 n
                          have HT2' : Hid (t2 = n % 65536) := ht3
                          clear HNN HS3 ht3
                          rcases ord_cs hor with ⟨e1, HL⟩ | ⟨e1, e2, HL⟩ | ⟨e1, e2, e3, HL⟩ | ⟨e1, e2, e3, e4, HL⟩ | ⟨e1, e2, e3, e4, e5, HL⟩ | ⟨e1, e2, e3, e4, e5, e6, HL⟩ | ⟨e1, e2, e3, e4, e5, e6, e7, HL⟩ | ⟨e1, e2, e3, e4, e5, e6, e7, HL⟩
                          · go_wp2
                            go_meet
                            exact ⟨by rw [HL.out.2.2]; rfl, by rw [HL.out.2.2]; rfl, by rw [HL.out.2.2]; exact EH.out.putS n⟩
                          · go_wp2
                            go_meet
                            exact ⟨by rw [HL.out.2.2]; rfl, by rw [HL.out.2.2]; rfl, by rw [HL.out.2.2]; exact EH.out.putT n⟩
                          · go_wp2
                            go_meet
                            exact ⟨by rw [HL.out.2.2]; rfl, by rw [HL.out.2.2]; rfl, by rw [HL.out.2.2]; exact EH.out.putD n⟩
                          · go_wp2
                            go_meet
                            exact ⟨by rw [HL.out.2.2]; rfl, by rw [HL.out.2.2]; rfl, by rw [HL.out.2.2, show setF f 105 n = { f with m := n % 65536 } from rfl, ← HT2'.out]; exact EH.out.putM t2⟩
                          · go_wp2
                            go_meet
                            exact ⟨by rw [HL.out.2.2]; rfl, by rw [HL.out.2.2]; rfl, by rw [HL.out.2.2, show setF f 105 n = { f with m := n % 65536 } from rfl, ← HT2'.out]; exact EH.out.putM t2⟩
                          all_goals
                            go_wp2_with (go_at_call 42; refine (word_any n (by omega) (by omega) _).mono ?_; rintro e w' ⟨rfl, rfl⟩)
                            go_meet
                            exact ⟨by rw [HL.out.2.2]; rfl, by rw [HL.out.2.2]; rfl, by rw [HL.out.2.2]; exact EH.out.putM (lo n)⟩
                        case rest =>
                          as_aux_lemma =>
                          obtain ⟨rfl, rfl, E⟩ := hcut
                          clear c0 c1 c2 c3 c4 fz EH z0 z1 z2 z3 z4 zf hZr hbr
                          have hZr : ZAt w.heap.size wc := HZC.out.1.stays E.bel HZC.out.2.2
                          have hbr : Below w.heap.size w wc := HZC.out.2.1.trans (E.bel.mono (by have := HZC.out.2.2; omega))
                          have EH : Hid (SInv w2.heap.size W3 wc k (setF f (lett od[m]) n)) := E
                          have HLN : Hid (numB (lett od[m]) = true) := lett_num hor
                          have HPS : Hid (∀ g, put (lett od[m]) n acc = some g → setF f (lett od[m]) n = g) := put_set HA.out _ HLN.out n
                          have HPI : Hid ((put (lett od[m]) n acc).isNone = (acc.isNone || !inB (lett od[m]) n)) := put_none _ HLN.out n acc
                          have hlb := low_bd (lett od[m])
                          obtain ⟨hlb1, hlb2, hlb3, hlb4⟩ := hlb
                          have HIN : Hid (inB (lett od[m]) n = decide (lowB (lett od[m]) ≤ n ∧ n ≤ highB (lett od[m]))) := rfl
                          have HLT : Hid (od[m] = 109 → lett od[m] = 105) := fun e => by rw [e]; rfl
                          clear E HA
                          generalize hinb : inB (lett od[m]) n = ib at *
                          clear hinb
                          generalize setF f (lett od[m]) n = f2 at *
                          obtain ⟨acc2, hacc2⟩ : ∃ a, put (lett od[m]) n acc = a := ⟨_, rfl⟩
                          rw [hacc2] at HPS HPI
                          have HAC : Hid (put (lett od[m]) n acc = acc2) := hacc2
                          clear hacc2
                          generalize hlo : lowB (lett od[m]) = low at *
                          generalize hhi : highB (lett od[m]) = high at *
                          clear hlo hhi
                          go_upto_region 53 with fail
                          go_cut [161] from 56 to 202 (fun c wx => c = .bool (!ib) ∧ wx = wc)
                          case first =>
                            as_aux_lemma =>
                            rcases Int.lt_or_le n low with g1 | g1
                            · have : ib = false := by rw [HIN.out]; simp; omega
                              subst this
                              clear HIN HPI
                              go_wp2
                              go_meet
                              exact ⟨rfl, rfl⟩
                            · rcases Int.lt_or_le high n with g2 | g2
                              · have : ib = false := by rw [HIN.out]; simp; omega
                                subst this
                                clear HIN HPI
                                go_wp2
                                go_meet
                                exact ⟨rfl, rfl⟩
                              · have : ib = true := by rw [HIN.out]; simp; omega
                                subst this
                                clear HIN HPI
                                go_wp2
                                go_meet
                                exact ⟨by simp; omega, rfl⟩
                          case rest =>
                            as_aux_lemma =>
                            obtain ⟨rfl, rfl⟩ := hcut
                            clear HIN hlb1 hlb2 hlb3 hlb4
                            go_upto_if 161 with fail
                            go_cut [9] from 56 to 202 (fun b wx => b = .bool acc2.isNone ∧ wx = wc)
                            case first =>
                              as_aux_lemma =>
                              cases ib with
                              | true =>
                                have e1 : Hid (acc2.isNone = acc.isNone) := by show _ = _; rw [HPI.out]; simp
                                clear HPI
                                go_wp2
                                go_meet
                                exact ⟨by rw [e1.out], rfl⟩
                              | false =>
                                have e1 : Hid (acc2.isNone = true) := by show _ = _; rw [HPI.out]; simp
                                clear HPI
                                go_wp2
                                go_meet
                                exact ⟨by rw [e1.out], rfl⟩
                            case rest =>
                              as_aux_lemma =>
                              obtain ⟨rfl, rfl⟩ := hcut
                              clear HPI
                              by_cases hm9 : od[m] = 109
                              · have e9 : ((od[m].toNat : Int) == 109) = true := by rw [hm9]; decide
                                have HS4 : Hid (parseS l = fin k (match strip [40] (l.drop q2) with
                                    | none => none
                                    | some r3 => match regD r3 with
                                      | none => none
                                      | some (n', r4) => match strip [41] r4 with
                                        | none => none
                                        | some r5 => rgo (od.drop (m + 1)) false r5 (put 83 n' acc2))) := by
                                  show parseS l = _
                                  rw [HS3.out, if_pos hm9, ← HLT.out hm9, HAC.out]
                                clear hm9 HS3 HLT HAC
                                obtain ⟨z0, z1, z2, z3, z4, zf⟩ := hZr
                                have hZr : ZAt w.heap.size wc := ⟨z0, z1, z2, z3, z4, zf⟩
                                rcases Nat.lt_or_ge q2 l.length with hl2 | hl2
                                · have hl2' : (q2 : Int) < l.length := by omega
                                  have hi2 : ∀ h, (⟨l.toArray⟩ : ByteArray)[q2]'h = l[q2] := fun _ => rfl
                                  have HD2 : Hid (strip [40] (l.drop q2) = if l[q2] = 40 then some (l.drop (q2 + 1)) else none) := strip_at l q2 40 hl2
                                  by_cases h40 : l[q2] = 40
                                  · have e40 : ((l[q2].toNat : Int) != 40) = false := by rw [h40]; decide
                                    have HS5 : Hid (parseS l = fin k (match regD (l.drop (q2 + 1)) with
                                      | none => none
                                      | some (n', r4) => match strip [41] r4 with
                                        | none => none
                                        | some r5 => rgo (od.drop (m + 1)) false r5 (put 83 n' acc2))) := by
                                      show parseS l = _
                                      rw [HS4.out, HD2.out, if_pos h40]
                                    clear h40 HS4 HD2
                                    have hc := regAt_any l hl (q2 + 1) (by omega) wc
                                    rw [show ((q2 + 1 : Nat) : Int) = (q2 : Int) + 1 by omega] at hc
                                    cases hrd : regD (l.drop (q2 + 1)) with
                                    | none =>
                                      have HV : Hid (poV l = .tuple #[ins 0 0 0 0 0, .int .i64 1]) := by
                                        show poV l = _
                                        unfold poV
                                        rw [HS5.out, hrd]
                                        rfl
                                      have hv : raV l (q2 + 1) = .tuple #[.int .i64 0, .int .i64 (-1)] := by
                                        unfold raV; rw [hrd]; rfl
                                      rw [hv] at hc
                                      clear hv hrd HS5
                                      as_aux_lemma =>
                                      go_upto_region 62 with (go_at_call 40; refine hc.mono ?_; rintro e w' ⟨rfl, rfl⟩)
                                      apply wp_region_lit
                                      refine wpList_build24 rfl rfl ?_
                                      refine wpList_store24 rfl _ _ rfl w.heap.size rfl rfl hZr ?_
                                      refine wpList_err (.int .i64 1) rfl rfl (by assumption) ?_
                                      show bodyPost Tryz.prog Tryz.f13 (fun e w' => e = Ending.returned (poV l) ∧ Below w.heap.size w w') Exit.ret _ _
                                      refine err_ret (B := w.heap.size) (c := 1) ?_ ?_ ?_ hZr.zeros ?_
                                      · rfl
                                      · rfl
                                      · rfl
                                      · exact ⟨by rw [HV.out], below_zeros hbr⟩
                                    | some y =>
                                      obtain ⟨n', r4⟩ := y
                                      obtain ⟨q4, hq4, hqe4, hr4, n0', n1'⟩ := regD_at l (q2 + 1) (by omega) hrd
                                      have hv : raV l (q2 + 1) = .tuple #[.int .i64 n', .int .i64 q4] := by
                                        unfold raV; rw [hrd, ← hqe4]
                                      rw [hv] at hc
                                      have HS6 : Hid (parseS l = fin k (match strip [41] (l.drop q4) with
                                        | none => none
                                        | some r5 => rgo (od.drop (m + 1)) false r5 (put 83 n' acc2))) := by
                                        show parseS l = _
                                        rw [HS5.out, hrd, ← hr4]
                                      clear hv hrd HS5 hqe4 hr4
                                      have q40 : (0 : Int) ≤ q4 := by omega
                                      rcases Nat.lt_or_ge q4 l.length with hl4 | hl4
                                      · have hl4' : (q4 : Int) < l.length := by omega
                                        have hi4 : ∀ h, (⟨l.toArray⟩ : ByteArray)[q4]'h = l[q4] := fun _ => rfl
                                        have HD4 : Hid (strip [41] (l.drop q4) = if l[q4] = 41 then some (l.drop (q4 + 1)) else none) := strip_at l q4 41 hl4
                                        by_cases h41 : l[q4] = 41
                                        · have e41 : ((l[q4].toNat : Int) != 41) = false := by rw [h41]; decide
                                          have HN : Hid (parseS l = fin k (rgo (od.drop (m + 1)) (decide (m + 1 = 0)) (l.drop (q4 + 1)) (put 83 n' acc2))) := by
                                            show parseS l = _
                                            rw [HS6.out, HD4.out, if_pos h41]
                                            have : decide (m + 1 = 0) = false := by simp
                                            rw [this]
                                          have HX : Hid (∀ g, put 83 n' acc2 = some g → setF f2 83 n' = g) := put_set HPS.out 83 (by decide) n'
                                          obtain ⟨c0, c1, c2, c3, c4, fz, be⟩ := EH.out
                                          have hfz1 := fz 1
                                          have EP : Hid (SInv w2.heap.size W3 (wc.setCell ⟨w2.heap.size, 1, none⟩ (.int .i64 n')) k (setF f2 83 n')) := EH.out.putS n'
                                          clear h41 HS6 HD4 be
                                          rcases Int.lt_or_le 31 n' with g | g
                                          · have HI : Hid ((put 83 n' acc2).isNone = true) := put_out 83 (by decide) n' acc2 (by unfold inB; rw [decide_eq_false_iff_not]; show ¬ ((0 : Int) ≤ n' ∧ n' ≤ 31); omega)
                                            go_wp2_with (go_at_call 40; refine hc.mono ?_; rintro e w' ⟨rfl, rfl⟩)
                                            exact ⟨⟨m + 1, q4 + 1, put 83 n' acc2, setF f2 83 n', by omega, by omega, by go_num, by rw [HI.out], by go_num, HN.out, HX.out, EP.out⟩, by simp [intOf]; omega⟩
                                          · have HI : Hid ((put 83 n' acc2).isNone = acc2.isNone) := put_in 83 (by decide) n' acc2 (by unfold inB; rw [decide_eq_true_eq]; show (0 : Int) ≤ n' ∧ n' ≤ 31; omega)
                                            go_wp2_with (go_at_call 40; refine hc.mono ?_; rintro e w' ⟨rfl, rfl⟩)
                                            exact ⟨⟨m + 1, q4 + 1, put 83 n' acc2, setF f2 83 n', by omega, by omega, by go_num, by rw [HI.out], by go_num, HN.out, HX.out, EP.out⟩, by simp [intOf]; omega⟩
                                        · have e41 : ((l[q4].toNat : Int) != 41) = true := by
                                            have : ¬ l[q4].toNat = 41 := fun e => h41 (UInt8.toNat_inj.mp e)
                                            simp; omega
                                          have HV : Hid (poV l = .tuple #[ins 0 0 0 0 0, .int .i64 1]) := by
                                            show poV l = _
                                            unfold poV
                                            rw [HS6.out, HD4.out, if_neg h41]
                                            rfl
                                          clear h41 HS6 HD4
                                          as_aux_lemma =>
                                          go_upto_region 64 with (go_at_call 40; refine hc.mono ?_; rintro e w' ⟨rfl, rfl⟩)
                                          apply wp_region_lit
                                          refine wpList_build24 rfl rfl ?_
                                          refine wpList_store24 rfl _ _ rfl w.heap.size rfl rfl hZr ?_
                                          refine wpList_err (.int .i64 1) rfl rfl (by assumption) ?_
                                          show bodyPost Tryz.prog Tryz.f13 (fun e w' => e = Ending.returned (poV l) ∧ Below w.heap.size w w') Exit.ret _ _
                                          refine err_ret (B := w.heap.size) (c := 1) ?_ ?_ ?_ hZr.zeros ?_
                                          · rfl
                                          · rfl
                                          · rfl
                                          · exact ⟨by rw [HV.out], below_zeros hbr⟩
                                      · have hl4' : ¬ (q4 : Int) < l.length := by omega
                                        have HV : Hid (poV l = .tuple #[ins 0 0 0 0 0, .int .i64 1]) := by
                                          show poV l = _
                                          unfold poV
                                          rw [HS6.out, List.drop_of_length_le hl4]
                                          rfl
                                        clear HS6
                                        as_aux_lemma =>
                                        go_upto_region 62 with (go_at_call 40; refine hc.mono ?_; rintro e w' ⟨rfl, rfl⟩)
                                        apply wp_region_lit
                                        refine wpList_build24 rfl rfl ?_
                                        refine wpList_store24 rfl _ _ rfl w.heap.size rfl rfl hZr ?_
                                        refine wpList_err (.int .i64 1) rfl rfl (by assumption) ?_
                                        show bodyPost Tryz.prog Tryz.f13 (fun e w' => e = Ending.returned (poV l) ∧ Below w.heap.size w w') Exit.ret _ _
                                        refine err_ret (B := w.heap.size) (c := 1) ?_ ?_ ?_ hZr.zeros ?_
                                        · rfl
                                        · rfl
                                        · rfl
                                        · exact ⟨by rw [HV.out], below_zeros hbr⟩
                                  · have e40 : ((l[q2].toNat : Int) != 40) = true := by
                                      have : ¬ l[q2].toNat = 40 := fun e => h40 (UInt8.toNat_inj.mp e)
                                      simp; omega
                                    have HV : Hid (poV l = .tuple #[ins 0 0 0 0 0, .int .i64 1]) := by
                                      show poV l = _
                                      unfold poV
                                      rw [HS4.out, HD2.out, if_neg h40]
                                      rfl
                                    clear h40 HS4 HD2
                                    as_aux_lemma =>
                                    go_upto_region 59 with fail
                                    apply wp_region_lit
                                    refine wpList_build24 rfl rfl ?_
                                    refine wpList_store24 rfl _ _ rfl w.heap.size rfl rfl hZr ?_
                                    refine wpList_err (.int .i64 1) rfl rfl (by assumption) ?_
                                    show bodyPost Tryz.prog Tryz.f13 (fun e w' => e = Ending.returned (poV l) ∧ Below w.heap.size w w') Exit.ret _ _
                                    refine err_ret (B := w.heap.size) (c := 1) ?_ ?_ ?_ hZr.zeros ?_
                                    · rfl
                                    · rfl
                                    · rfl
                                    · exact ⟨by rw [HV.out], below_zeros hbr⟩
                                · have hl2' : ¬ (q2 : Int) < l.length := by omega
                                  have HV : Hid (poV l = .tuple #[ins 0 0 0 0 0, .int .i64 1]) := by
                                    show poV l = _
                                    unfold poV
                                    rw [HS4.out, List.drop_of_length_le hl2]
                                    rfl
                                  clear HS4
                                  as_aux_lemma =>
                                  go_upto_region 57 with fail
                                  apply wp_region_lit
                                  refine wpList_build24 rfl rfl ?_
                                  refine wpList_store24 rfl _ _ rfl w.heap.size rfl rfl hZr ?_
                                  refine wpList_err (.int .i64 1) rfl rfl (by assumption) ?_
                                  show bodyPost Tryz.prog Tryz.f13 (fun e w' => e = Ending.returned (poV l) ∧ Below w.heap.size w w') Exit.ret _ _
                                  refine err_ret (B := w.heap.size) (c := 1) ?_ ?_ ?_ hZr.zeros ?_
                                  · rfl
                                  · rfl
                                  · rfl
                                  · exact ⟨by rw [HV.out], below_zeros hbr⟩
                              · have e9 : ((od[m].toNat : Int) == 109) = false := by
                                  have : ¬ od[m].toNat = 109 := fun e => hm9 (UInt8.toNat_inj.mp e)
                                  simp; omega
                                have HN : Hid (parseS l = fin k (rgo (od.drop (m + 1)) (decide (m + 1 = 0)) (l.drop q2) acc2)) := by
                                  show parseS l = _
                                  rw [HS3.out, if_neg hm9, HAC.out]
                                  have : decide (m + 1 = 0) = false := by simp
                                  rw [this]
                                clear hm9 HS3 HLT
                                go_wp2
                                exact ⟨⟨m + 1, q2, acc2, f2, by omega, hq2, rfl, rfl, by go_num, HN.out, HPS.out, EH.out⟩, by simp [intOf]; omega⟩
                · have hxb : (x == sp) = false := by simpa using hxs
                  have hxn : (x != sp) = true := by simpa using hxs
                  have HV : Hid (poV l = .tuple #[ins 0 0 0 0 0, .int .i64 1]) := by
                    show poV l = _
                    unfold poV
                    rw [HS1.out none (by rw [HST.out, if_neg hxs])]
                    rfl
                  clear hxs HST HS1 HXX
                  as_aux_lemma =>
                  go_upto_region 24 with fail
                  apply wp_region_lit
                  refine wpList_build24 rfl rfl ?_
                  refine wpList_store24 rfl _ _ rfl w.heap.size rfl rfl hZr ?_
                  refine wpList_err (.int .i64 1) rfl rfl (by assumption) ?_
                  show bodyPost Tryz.prog Tryz.f13 (fun e w' => e = Ending.returned (poV l) ∧ Below w.heap.size w w') Exit.ret _ _
                  refine err_ret (B := w.heap.size) (c := 1) ?_ ?_ ?_ hZr.zeros ?_
                  · rfl
                  · rfl
                  · rfl
                  · exact ⟨by rw [HV.out], below_zeros hbr⟩
          · obtain rfl : m = od.length := by omega
            have hml' : ¬ (od.length : Int) < od.length := by omega
            obtain ⟨c0, c1, c2, c3, c4, fz, be⟩ := E
            have HRE : Hid (parseS l = fin k (some (l.drop q, acc))) := by
              show parseS l = _
              rw [HR.out, List.drop_length, rgo]
            by_cases hqe : q = l.length
            · have hqb : ((q : Int) != l.length) = false := by simp; omega
              have HRE2 : Hid (parseS l = fin k (some ([], acc))) := by show parseS l = _; rw [HRE.out, hqe, List.drop_length]
              clear hqe
              cases acc with
              | none =>
                have HV : Hid (poV l = .tuple #[ins 0 0 0 0 0, .int .i64 2]) := by show poV l = _; unfold poV; rw [HRE2.out]; rfl
                go_wp2
                refine (?key : ∀ X, ZAt w.heap.size X → Below w.heap.size w X → bodyPost Tryz.prog Tryz.f13 _ Exit.ret _ X) _ ?h1 ?h2
                case key =>
                  intro X z b
                  obtain ⟨z0, z1, z2, z3, z4, zf⟩ := z
                  exact bodyPost_ret (v := .tuple #[ins 0 0 0 0 0, .int .i64 2]) (by simp [results, Tryz.results13, go_sem, z0, z1, z2, z3, z4]) rfl ⟨by rw [HV.out], b⟩
                case h1 => exact hZr.zeros
                case h2 => exact below_zeros hbr
              | some g =>
                obtain rfl : f = g := HA.out g rfl
                have HV : Hid (poV l = .tuple #[ins k f.s f.t f.d f.m, .int .i64 0]) := by show poV l = _; unfold poV; rw [HRE2.out]; rfl
                go_wp2
                exact bodyPost_ret (v := .tuple #[ins k f.s f.t f.d f.m, .int .i64 0]) (by simp [results, Tryz.results13, go_sem, z0, z1, z2, z3, z4]) rfl ⟨by rw [HV.out], ((((hbr.setCell (Nat.le_refl _) _).setCell (Nat.le_refl _) _).setCell (Nat.le_refl _) _).setCell (Nat.le_refl _) _).setCell (Nat.le_refl _) _⟩
            · have hqb : ((q : Int) != l.length) = true := by simp; omega
              have HV : Hid (poV l = .tuple #[ins 0 0 0 0 0, .int .i64 1]) := by
                show poV l = _
                unfold poV
                rw [HRE.out]
                cases hd : l.drop q with
                | nil => exact absurd (by have := congrArg List.length hd; rw [List.length_drop, List.length_nil] at this; omega) hqe
                | cons y ys => rfl
              clear hqe
              as_aux_lemma =>
              go_upto_region 70 with fail
              apply wp_region_lit
              refine wpList_build24 rfl rfl ?_
              refine wpList_store24 rfl _ _ rfl w.heap.size rfl rfl hZr ?_
              refine wpList_err (.int .i64 1) rfl rfl (by assumption) ?_
              show bodyPost Tryz.prog Tryz.f13 (fun e w' => e = Ending.returned (poV l) ∧ Below w.heap.size w w') Exit.ret _ _
              refine err_ret (B := w.heap.size) (c := 1) ?_ ?_ ?_ hZr.zeros ?_
              · rfl
              · rfl
              · rfl
              · exact ⟨by rw [HV.out], below_zeros hbr⟩
end Go.Proofs.YtccnliihdhnckaaGreatDoor
