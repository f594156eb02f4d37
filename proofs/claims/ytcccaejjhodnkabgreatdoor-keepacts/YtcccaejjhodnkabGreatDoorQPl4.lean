/-
  Package plan: writesTwice, checkRow.
-/
import Derived.Test.YtcccaejjhodnkabGreatDoorQPl3
import Derived.Test.YtcccaejjhodnkabGreatDoorQPl2
import Derived.Test.YtcccaejjhodnkabGreatDoorKIrChk3
namespace Go.Proofs.YtcccaejjhodnkabGreatDoor
open Go.RowKit Go.Maps
open Num
set_option linter.unusedVariables false
set_option maxRecDepth 100000 in
set_option maxHeartbeats 2000000 in
theorem writesTwice_any {w : World} {v : Value} {l : List Opx} (A : OpsIn w v l) (hl : (l.length : Int) ≤ 100000) :
    Calls Tryz.prog 65 #[v] w fun e w' => e = .returned (.bool (dupA [] l)) ∧ Below w.heap.size w w' := by
  obtain ⟨ao, cap, rfl, hc, hh⟩ := A.sh
  have HH : Hid (0 < l.length → ∃ b off : Nat, ao = some ⟨b, off, none⟩ ∧ ∀ (i : Nat) (o : Opx), l[i]? = some o → ∀ (j : Nat) (u : Value), (opC o)[j]? = some u → w.cell? ⟨b, off + i * 6 + j, none⟩ = some u) := hh
  have OK : Hid (∀ o ∈ l, o.ok) := A.ok
  have hmf : ∀ (fn : Fn) (first cap : Array Value) (w : World), (Instr.makeFunc fn first cap).run Tryz.prog w = .ok (.func fn first cap) w := fun _ _ _ _ => rfl
  clear hh A
  go_enter Tryz.func65, Tryz.ntmps65
  go_wp2
  go_loopw [9] (fun i wr => ∃ j : Nat, j ≤ l.length ∧ i = .int .i64 j ∧ Hid (dupA [] (l.take j) = false) ∧ Below w.heap.size w wr) (fun i _ => l.length - (intOf i).toNat)
  case atStart => exact ⟨0, Nat.zero_le _, rfl, by show _ = _; simp [dupA], Below.refl _ _⟩
  case round =>
    obtain ⟨j, hj, rfl, HN, hB⟩ := hrel
    by_cases hlt : j < l.length
    · obtain ⟨o, ho⟩ : ∃ o, l[j]? = some o := ⟨_, List.getElem?_eq_getElem hlt⟩
      obtain ⟨bo, off, rfl, hcell⟩ := HH.out (by omega)
      obtain ⟨x0, x1, x2, x3, x4, x5⟩ := op_cells (w := wr) (fun k u hk => by rw [hB.cell (World.block_lt_of_cell? _ _ (hcell j _ ho k u hk))]; exact hcell j _ ho k u hk)
      have hbl : bo < w.heap.size := World.block_lt_of_cell? _ _ (hcell j o ho 0 _ rfl)
      have HI : Hid (∀ W, Below w.heap.size w W → OpsIn W (.slice (some ⟨bo, off, none⟩) j cap) (l.take j)) := fun W hW => OpsIn.takeP (fun i o hi k u hk => (hW.cell (p := ⟨bo, off + i * 6 + k, none⟩) hbl).trans (hcell i o hi k u hk)) OK.out j hj hc
      have HTL : Hid ((l.take j).length = j) := by show _ = _; rw [List.length_take]; omega
      have zb : bo < wr.heap.size := World.block_lt_of_cell? _ _ x0
      have hlt' : (j : Int) < l.length := by omega
      have hlt2 : (j : Int) ≤ cap := by omega
      have HS : Hid (dupA [] (l.take (j + 1)) = (decide (wrX o ≠ 0) && (l.take j).any fun p => decide (wrX p = wrX o))) := by
        show _ = _; rw [dupA_take ho, HN.out]; rfl
      have HF : Hid (dupA [] (l.take (j + 1)) = true → dupA [] l = true) := fun h => dupA_found h
      have hwr := fun W => writes_any o W
      unfold opV at hwr
      have HB : Hid (Below w.heap.size w wr) := hB
      have B1 : Below wr.heap.size wr (wr.alloc (.cells #[.string o.s, .int .i64 o.d, .int .i64 o.a, .int .i64 o.b, .int .u32 o.i, .int .i64 o.t] 64)) := (Below.refl _ _).alloc (Nat.le_refl _) _
      have hsz := hB.size
      clear ho hcell hB HH hc
      generalize wrX o = x at *
      go_wp2_with fail
      refine (hwr _).mono ?_
      rintro e w1 ⟨rfl, hb1⟩
      have HB1 : Hid (Below w.heap.size w w1) := HB.out.trans ((B1.trans (hb1.mono (by simp))).mono hsz)
      have hs1 : w.heap.size ≤ w1.heap.size := HB1.out.size
      clear hwr hb1 B1 HB x0 x1 x2 x3 x4 x5 zb hsz
      by_cases hx : x = 0
      · have hx0 : (x != 0) = false := by simp [hx]
        have HZ : Hid (dupA [] (l.take (j + 1)) = false) := by show _ = _; rw [HS.out, hx]; rfl
        have HB2 : Hid (Below w.heap.size w (w1.alloc (.cells #[.int .i64 x] 3))) := HB1.out.alloc (by omega) _
        clear hx HS HF HI HTL
        go_wp2
        go_roundw
        case rel => exact ⟨j + 1, by omega, by go_num, HZ.out, HB2.out⟩
        case measure => simp [intOf]; omega
      · have hx0 : (x != 0) = true := by simp [hx]
        have HZ : Hid (dupA [] (l.take (j + 1)) = ((l.take j).any fun p => decide (wrX p = x))) := by show _ = _; rw [HS.out]; simp [hx]
        have HB2 : Hid (Below w.heap.size w (w1.alloc (.cells #[.int .i64 x] 3))) := HB1.out.alloc (by omega) _
        have hcx : (w1.alloc (.cells #[.int .i64 x] 3)).cell? ⟨w1.heap.size, 0, none⟩ = some (.int .i64 x) := by simp
        have hhs := hasSame (HI.out _ HB2.out) (by rw [HTL.out]; omega) hcx
        clear hx HS HI HTL
        generalize ((l.take j).any fun p => decide (wrX p = x)) = rb at *
        go_wp2_with fail
        refine hhs.mono ?_
        rintro e w3 ⟨rfl, hb3⟩
        have HB3 : Hid (Below w.heap.size w w3) := HB2.out.trans (hb3.mono HB2.out.size)
        clear hhs hb3 HB2 hcx
        cases rb
        · go_wp2
          go_roundw
          case rel => exact ⟨j + 1, by omega, by go_num, HZ.out, HB3.out⟩
          case measure => simp [intOf]; omega
        · have HT : Hid (dupA [] l = true) := HF.out HZ.out
          clear HF HZ
          go_wp2
          go_ret
          exact ⟨by rw [HT.out]; rfl, HB3.out⟩
    · obtain rfl : j = l.length := by omega
      have HB : Hid (Below w.heap.size w wr) := hB
      have HT : Hid (dupA [] l = false) := by have := HN.out; rwa [List.take_length] at this
      clear hB HN HH
      go_wp2
      go_ret
      exact ⟨by rw [HT.out]; rfl, HB.out⟩
/-- the program's variables that a plan's check reads -/
structure Ep (pe : Nat → Addr) (w : World) : Prop where
  e : Eg pe w
  x : w.cell? ⟨6, 0, none⟩ = some (.iface 171 (.pointer (some (pe 7))))
  m : Mst w
theorem Ep.stays {pe : Nat → Addr} {w w' : World} (E : Ep pe w) (h : Below w.heap.size w w') : Ep pe w' := ⟨E.e.stays h, (h.cell (p := ⟨6, 0, none⟩) (World.block_lt_of_cell? _ _ E.x)).trans E.x, E.m.stays h⟩
theorem rowE_len {many : Int} {last : Bool} {l : List Opx} (h : l = [] ∨ 4 < l.length) : rowE many last l = 3 := by unfold rowE; rw [if_pos h]
theorem rowE_fir {many : Int} {last : Bool} {l : List Opx} (h : ¬ (l = [] ∨ 4 < l.length)) (hf : firE many l ≠ 0) : rowE many last l = firE many l := by unfold rowE; rw [if_neg h, if_pos hf]
theorem rowE_fit {many : Int} {last : Bool} {l : List Opx} (h : ¬ (l = [] ∨ 4 < l.length)) (hf : firE many l = 0) (hi : fitB l = false) : rowE many last l = 8 := by unfold rowE; rw [if_neg h, if_neg (by rw [hf]; simp), if_pos hi]
theorem rowE_dup {many : Int} {last : Bool} {l : List Opx} (h : ¬ (l = [] ∨ 4 < l.length)) (hf : firE many l = 0) (hi : fitB l = true) (hd : dupA [] l = true) : rowE many last l = 7 := by unfold rowE; rw [if_neg h, if_neg (by rw [hf]; simp), if_neg (by rw [hi]; simp), if_pos hd]
theorem rowE_end {many : Int} {last : Bool} {l : List Opx} (h : ¬ (l = [] ∨ 4 < l.length)) (hf : firE many l = 0) (hi : fitB l = true) (hd : dupA [] l = false) : rowE many last l = if last ≠ l.any outB then 3 else 0 := by unfold rowE; rw [if_neg h, if_neg (by rw [hf]; simp), if_neg (by rw [hi]; simp), if_neg (by rw [hd]; simp)]
set_option maxRecDepth 100000 in
set_option maxHeartbeats 4000000 in
theorem checkRow_any (pe : Nat → Addr) {w : World} (E : Ep pe w) {v : Value} {l : List Opx} (A : OpsIn w v l) (hl : (l.length : Int) ≤ 1000000) (many : Int) (last : Bool) :
    Calls Tryz.prog 44 #[v, .int .i64 many, .bool last] w fun e w' => e = .returned (erV pe (rowE many last l)) ∧ Below w.heap.size w w' := by
  have A0 := A
  obtain ⟨ao, cap, rfl, hc, hh⟩ := A.sh
  have EH : Hid (Ep pe w) := E
  obtain ⟨z2, z3, z4, z8⟩ := E.e.size
  obtain ⟨⟨e2, e3, e4, e8⟩, e7, _⟩ := E
  by_cases h0 : l = []
  · have HF : Hid (rowE many last l = 3) := rowE_len (.inl h0)
    subst h0
    clear hh A A0
    go_enter Tryz.func44, Tryz.ntmps44
    go_wp2
    go_ret
    exact ⟨by rw [HF.out]; rfl, Below.refl _ _⟩
  have hpos : 0 < l.length := List.length_pos_iff.2 h0
  have hp0 : ¬ (l.length : Int) = 0 := by omega
  have hpb : ((l.length : Int) == 0) = false := by simpa using hp0
  by_cases h4 : 4 < l.length
  · have HF : Hid (rowE many last l = 3) := rowE_len (.inr h4)
    have h4' : (4 : Int) < l.length := by omega
    clear hh A A0
    go_enter Tryz.func44, Tryz.ntmps44
    go_wp2
    go_ret
    exact ⟨by rw [HF.out]; rfl, Below.refl _ _⟩
  have hlen : Hid (¬ (l = [] ∨ 4 < l.length)) := fun h => h.elim h0 h4
  have h4' : ¬ (4 : Int) < l.length := by omega
  have h4i : (l.length : Int) ≤ 4 := by omega
  obtain ⟨bo, off, rfl, hcell⟩ := hh hpos
  have hbl : bo < w.heap.size := by
    obtain ⟨o, ho⟩ : ∃ o, l[0]? = some o := ⟨_, List.getElem?_eq_getElem hpos⟩
    exact World.block_lt_of_cell? _ _ (hcell 0 o ho 0 _ rfl)
  have HH : Hid (∀ (i : Nat) (o : Opx), l[i]? = some o → ∀ (j : Nat) (u : Value), (opC o)[j]? = some u → w.cell? ⟨bo, off + i * 6 + j, none⟩ = some u) := hcell
  have OK : Hid (∀ o ∈ l, o.ok) := A.ok
  have AH : Hid (∀ W, Below w.heap.size w W → OpsIn W (.slice (some ⟨bo, off, none⟩) l.length cap) l) := fun W hW => A0.stays hW
  clear hh A A0 hcell h0 h4 e2 e3 e4 e7 e8
  go_enter Tryz.func44, Tryz.ntmps44
  go_wp2
  go_loopw [21] (fun i wr => ∃ j : Nat, j ≤ l.length ∧ i = .int .i64 j ∧ Hid (∀ k p, k < j → l[k]? = some p → opE p many = 0) ∧ Below w.heap.size w wr) (fun i _ => l.length - (intOf i).toNat)
  case atStart => exact ⟨0, Nat.zero_le _, rfl, (by intro k p hk; omega), Below.refl _ _⟩
  case round =>
    obtain ⟨j, hj, rfl, HN, hB⟩ := hrel
    have HB : Hid (Below w.heap.size w wr) := hB
    have hsz := hB.size
    by_cases hlt : j < l.length
    · obtain ⟨o, ho⟩ : ∃ o, l[j]? = some o := ⟨_, List.getElem?_eq_getElem hlt⟩
      obtain ⟨x0, x1, x2, x3, x4, x5⟩ := op_cells (w := wr) (fun k u hk => by rw [hB.cell (World.block_lt_of_cell? _ _ (HH.out j _ ho k u hk))]; exact HH.out j _ ho k u hk)
      have zb : bo < wr.heap.size := World.block_lt_of_cell? _ _ x0
      have hlt' : (j : Int) < l.length := by omega
      have hok := OK.out o (List.mem_of_getElem? ho)
      have B1 : Below wr.heap.size wr (wr.alloc (.cells #[.string o.s, .int .i64 o.d, .int .i64 o.a, .int .i64 o.b, .int .u32 o.i, .int .i64 o.t] 64)) := (Below.refl _ _).alloc (Nat.le_refl _) _
      have E1 := EH.out.e.stays (hB.trans (B1.mono hsz))
      by_cases hbad : opE o many ≠ 0
      · have HF : Hid (rowE many last l = opE o many) := by
          have hf := firE_at many l j o ho HN.out hbad
          show _ = _
          rw [rowE_fir hlen.out (by rw [hf]; exact hbad), hf]
        have HV := erV_some (pe := pe) hbad
        have hck := checkOp_bad pe E1 o hok many hbad
        unfold opV at hck
        clear ho hB HN HH OK AH E1 hbad hok
        go_wp2_with fail
        refine hck.mono ?_
        rintro e w1 ⟨rfl, hb1⟩
        have HB1 : Hid (Below w.heap.size w w1) := HB.out.trans ((B1.trans (hb1.mono (by simp))).mono hsz)
        clear hck hb1 B1 x0 x1 x2 x3 x4 x5 zb HB
        go_wp2
        go_ret
        exact ⟨by rw [HF.out, HV]; rfl, HB1.out⟩
      · have hgood : opE o many = 0 := by simpa using hbad
        have HN2 : Hid (∀ k p, k < j + 1 → l[k]? = some p → opE p many = 0) := by
          intro k p hk hp
          by_cases hkj : k = j
          · subst hkj
            rw [ho] at hp
            obtain rfl := Option.some.inj hp
            exact hgood
          · exact HN.out k p (by omega) hp
        have hck := checkOp_ok pe E1 o hok many hgood
        unfold opV at hck
        clear ho hB HN E1 hbad hok hgood
        go_wp2_with fail
        refine hck.mono ?_
        rintro e w1 ⟨rfl, hb1⟩
        have HB1 : Hid (Below w.heap.size w w1) := HB.out.trans ((B1.trans (hb1.mono (by simp))).mono hsz)
        clear hck hb1 B1 x0 x1 x2 x3 x4 x5 zb HB
        go_wp2
        go_roundw
        case rel => exact ⟨j + 1, by omega, by go_num, HN2.out, HB1.out⟩
        case measure => simp [intOf]; omega
    · obtain rfl : j = l.length := by omega
      have HFI : Hid (firE many l = 0) := firE_none many l (fun o ho => by
        obtain ⟨k, hk, he⟩ := List.getElem_of_mem ho
        exact HN.out k o hk (by rw [List.getElem?_eq_getElem hk, he]))
      have hco := countsOf_any (AH.out _ hB) (by omega)
      clear hB HN HH OK
      go_wp2_with fail
      refine hco.mono ?_
      rintro e w1 ⟨rfl, hb1⟩
      have HB1 : Hid (Below w.heap.size w w1) := HB.out.trans (hb1.mono hsz)
      have c0 := ctP_le 0 l
      have c1 := ctP_le 1 l
      have c2 := ctP_le 2 l
      have hfi := fit_any (EH.out.m.stays HB1.out) (ctP 0 l) (ctP 1 l) (ctP 2 l) (by omega) (by omega) (by omega)
      have hff : fitC (ctP 0 l) (ctP 1 l) (ctP 2 l) = fitB l := rfl
      rw [hff] at hfi
      clear hco hb1 HB hsz c0 c1 c2 hff
      go_wp2_with fail
      refine hfi.mono ?_
      rintro e w2 ⟨rfl, hb2⟩
      have HB2 : Hid (Below w.heap.size w w2) := HB1.out.trans (hb2.mono HB1.out.size)
      clear hfi hb2 HB1
      cases hfb : fitB l with
      | false =>
        have HF : Hid (rowE many last l = 8) := rowE_fit hlen.out HFI.out hfb
        obtain ⟨⟨e2, e3, e4, e8⟩, e7, _⟩ := EH.out.stays HB2.out
        have zz := World.block_lt_of_cell? _ _ e8
        go_wp2
        go_ret
        exact ⟨by rw [HF.out]; rfl, HB2.out⟩
      | true =>
        have hwt := writesTwice_any (AH.out _ HB2.out) (by omega)
        have HFB : Hid (fitB l = true) := hfb
        clear hfb
        go_wp2_with fail
        refine hwt.mono ?_
        rintro e w3 ⟨rfl, hb3⟩
        have HB3 : Hid (Below w.heap.size w w3) := HB2.out.trans (hb3.mono HB2.out.size)
        clear hwt hb3 HB2
        cases hdb : dupA [] l with
        | true =>
          have HF : Hid (rowE many last l = 7) := rowE_dup hlen.out HFI.out HFB.out hdb
          obtain ⟨⟨e2, e3, e4, e8⟩, e7, _⟩ := EH.out.stays HB3.out
          have zz := World.block_lt_of_cell? _ _ e7
          go_wp2
          go_ret
          exact ⟨by rw [HF.out]; rfl, HB3.out⟩
        | false =>
          have hio := hasOut (AH.out _ HB3.out) (by omega)
          have HR : Hid (rowE many last l = if last ≠ l.any (fun o => outB o) then 3 else 0) := rowE_end hlen.out HFI.out HFB.out hdb
          clear hdb
          generalize l.any (fun o => outB o) = ob at *
          go_wp2_with fail
          refine hio.mono ?_
          rintro e w4 ⟨rfl, hb4⟩
          have HB4 : Hid (Below w.heap.size w w4) := HB3.out.trans (hb4.mono HB3.out.size)
          obtain ⟨⟨e2, e3, e4, e8⟩, e7, _⟩ := EH.out.stays HB4.out
          have zz := World.block_lt_of_cell? _ _ e3
          clear hio hb4 HB3
          cases last <;> cases ob
          all_goals
            go_wp2
            go_ret
            exact ⟨by rw [HR.out]; rfl, HB4.out⟩
end Go.Proofs.YtcccaejjhodnkabGreatDoor
