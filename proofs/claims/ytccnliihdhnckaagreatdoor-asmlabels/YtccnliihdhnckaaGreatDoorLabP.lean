/-
  A branch to a label goes where the label is: the lines of AsmLabels, as lists; word.Wide and word.Add.
-/
import Derived.Test.YtccnliihdhnckaaGreatDoorBackP
import Derived.Test.YtccnliihdhnckaaGreatDoorFns
import Derived.Deep.Draws
import Derived.Deep.QuietTactic
namespace Go.Proofs.YtccnliihdhnckaaGreatDoor
open Go.RowKit Go.Shelf Go.Joins Go.Maps
open Num Tab Fm Txt
set_option linter.unusedVariables false
theorem ret_ib {k : IntKind} {a b : Int} {c d : Bool} (h : a = b) (g : c = d) : Ending.returned (.tuple #[.int k a, .bool c]) = .returned (.tuple #[.int k b, .bool d]) := by rw [h, g]
set_option maxHeartbeats 400000 in
theorem signedOf_any (a : Int) (h0 : 0 ≤ a) (h1 : a < 4294967296) (w : World) :
    Calls Tryz.prog 59 #[.int .u32 a] w fun e w' => e = .returned (.int .i64 (sg a)) ∧ w' = w := by
  go_enter Tryz.func59, Tryz.ntmps59
  go_wp2
  go_ret
  exact ⟨ret_int (sg_wrap64 h0 h1), rfl⟩
set_option maxHeartbeats 400000 in
theorem cut_any (n : Int) (h0 : -9223372036854775808 ≤ n) (h1 : n ≤ 9223372036854775807) (w : World) :
    Calls Tryz.prog 58 #[.int .i64 n] w fun e w' => e = .returned (.tuple #[.int .u32 (lo n), .bool (ov n)]) ∧ w' = w := by
  go_enter Tryz.func58, Tryz.ntmps58
  go_wp2_with (go_at_call 59; refine (signedOf_any _ (by omega) (by omega) _).mono ?_; rintro e w' ⟨rfl, rfl⟩)
  go_ret2
  exact ⟨by rw [← ov_eq n]; rfl, rfl⟩
set_option maxHeartbeats 400000 in
theorem addW_any (a b : Int) (h0 : 0 ≤ a) (h1 : a < 4294967296) (g0 : 0 ≤ b) (g1 : b < 4294967296) (w : World) :
    Calls Tryz.prog 24 #[.int .u32 a, .int .u32 b] w fun e w' => e = .returned (.tuple #[.int .u32 (lo (a + b)), .bool (ov (sg a + sg b))]) ∧ w' = w := by
  have ha := sg_bd h0 h1
  have hb := sg_bd g0 g1
  go_enter Tryz.func24, Tryz.ntmps24
  go_wp2_with (first | (go_at_call 59; refine (signedOf_any _ (by omega) (by omega) _).mono ?_; rintro e w' ⟨rfl, rfl⟩) | (go_at_call 58; refine (cut_any _ (by omega) (by omega) _).mono ?_; rintro e w' ⟨rfl, rfl⟩))
  go_ret2
  exact ⟨ret_ib (lo_add a b) rfl, rfl⟩
set_option maxHeartbeats 400000 in
theorem wide_in (v bits : Int) (h0 : 0 ≤ v) (h1 : v < 4294967296) (g0 : 1 ≤ bits) (g1 : bits ≤ 32) (w : World) :
    Calls Tryz.prog 23 #[.int .u32 v, .int .i64 bits, .bool true] w fun e w' => e = .returned (.int .u32 (wd v bits true)) ∧ w' = w := by
  have b := shf_bd (k := 60) (n := 32 - bits) h0 h1
  have he : Hid (shf 62 (shf 60 v (32 - bits)) (32 - bits) = wd v bits false ∧ shf 126 (shf 60 v (32 - bits)) (32 - bits) = wd v bits true) := wd_eq g0 g1
  go_enter Tryz.func23, Tryz.ntmps23
  go_wp2_with (go_at_call 22; refine (shift_any _ _ _ (by omega) (by omega) (by omega) _).mono ?_; rintro e w' ⟨rfl, rfl⟩)
  go_ret
  exact ⟨ret_int he.out.2, rfl⟩
theorem wide16 (v : Int) (h0 : 0 ≤ v) (h1 : v < 65536) : wd v 16 true = if v < 32768 then v else v + 4294901760 := by
  unfold wd
  rw [if_neg (by omega)]
  have e : (2 : Int) ^ (16 : Int).toNat = 65536 := by decide
  rw [e]
  have hm : v % 65536 = v := by omega
  rw [hm]
  by_cases h : v < 32768
  · rw [if_pos h, if_neg (by omega)]
  · rw [if_neg h, if_pos ⟨rfl, by omega⟩]; unfold lo; omega
abbrev thereL : List UInt8 := [116, 104, 101, 114, 101, 58]
abbrev thereN : List UInt8 := [116, 104, 101, 114, 101]
abbrev bneL : List UInt8 := [98, 110, 101, 32, 36, 51, 44, 32, 36, 48, 44, 32, 116, 104, 101, 114, 101]
abbrev jL : List UInt8 := [106, 32, 116, 104, 101, 114, 101]
abbrev adduL : List UInt8 := [97, 100, 100, 117, 32, 36, 49, 44, 32, 36, 50, 44, 32, 36, 51]
theorem itoa_dig (n : Nat) (h : n < 10) : Lib.itoa (n : Int) = [UInt8.ofNat (48 + n)] := by
  rw [itoa_pos n, Lib.decDigits_one h]
theorem text_addu : ptext 20 ⟨2, 3, 1, 0⟩ = adduL := by
  have e1 : Lib.itoa 1 = [49] := itoa_dig 1 (by omega)
  have e2 : Lib.itoa 2 = [50] := itoa_dig 2 (by omega)
  have e3 : Lib.itoa 3 = [51] := itoa_dig 3 (by omega)
  have hf : form 20 = [32, 36, 68, 44, 32, 36, 83, 44, 32, 36, 84] := by decide
  have hn : nme 20 = [97, 100, 100, 117] := by decide
  unfold ptext
  rw [hf, hn]
  simp [rend, numB, regB, vl, e1, e2, e3]
theorem text_bne : ptext 32 ⟨3, 0, 0, 0⟩ = [98, 110, 101, 32, 36, 51, 44, 32, 36, 48, 44, 32, 48] := by
  have e0 : Lib.itoa 0 = [48] := itoa_dig 0 (by omega)
  have e3 : Lib.itoa 3 = [51] := itoa_dig 3 (by omega)
  have hs : s16 0 = 0 := by decide
  have hf : form 32 = [32, 36, 83, 44, 32, 36, 84, 44, 32, 105] := by decide
  have hn : nme 32 = [98, 110, 101] := by decide
  unfold ptext
  rw [hf, hn]
  simp [rend, numB, regB, vl, hs, e0, e3]
theorem text_j : ptext 29 ⟨0, 0, 0, 0⟩ = [106, 32, 48] := by
  have e0 : Lib.itoa 0 = [48] := itoa_dig 0 (by omega)
  have hf : form 29 = [32, 106] := by decide
  have hn : nme 29 = [106] := by decide
  unfold ptext
  rw [hf, hn]
  simp [rend, numB, regB, vl, e0]
theorem cut_there (k : Nat) (h1 : 1 ≤ k) (hk : k < 54) (hb : isBr k = true) (X l : List UInt8) (e : l = X ++ 32 :: thereN) (ht : l.takeWhile isWord = nme k) : cutT l = X ++ [32, 48] ∧ cutN l = thereN := by
  have hl : lsi l = X.length + 1 := by rw [e]; exact lsi_at X thereN (by decide)
  have hd : l.drop (lsi l) = thereN := by rw [e]; exact drop_at X thereN (by decide)
  have hc : cutOk l = true := by
    unfold cutOk
    rw [hd, ht, opOf_nme k h1 hk, hb]
    have : l.any (· == 32) = true := by rw [e]; simp
    rw [this]; decide
  constructor
  · unfold cutT
    rw [if_pos hc, hl, e]
    have : (X ++ 32 :: thereN).take (X.length + 1) = X ++ [32] := by
      rw [List.take_append, List.take_of_length_le (by omega)]; simp
    rw [this]; simp
  · unfold cutN
    rw [if_pos hc, hd]
theorem add_bne (at_ : Int) (ps : List Pt) (g : Lbs) : addP at_ bneL ps g = .ok (ps ++ [⟨at_, 0, 32, ⟨3, 0, 0, 0⟩, thereN⟩], g) := by
  obtain ⟨hT, hN⟩ := cut_there 32 (by omega) (by omega) (by decide) [98, 110, 101, 32, 36, 51, 44, 32, 36, 48, 44] bneL rfl (by decide)
  have hp : parseS (cutT bneL) = .ok 32 ⟨3, 0, 0, 0⟩ := by
    rw [hT]
    have := parse_text 32 (by omega) (by omega) ⟨3, 0, 0, 0⟩ ⟨by decide, by decide⟩
    rw [text_bne] at this
    exact this
  unfold addP
  rw [if_neg (by decide), if_neg (by decide), hp, hN]
theorem add_j (at_ : Int) (ps : List Pt) (g : Lbs) : addP at_ jL ps g = .ok (ps ++ [⟨at_, 0, 29, ⟨0, 0, 0, 0⟩, thereN⟩], g) := by
  obtain ⟨hT, hN⟩ := cut_there 29 (by omega) (by omega) (by decide) [106] jL rfl (by decide)
  have hp : parseS (cutT jL) = .ok 29 ⟨0, 0, 0, 0⟩ := by
    rw [hT]
    have := parse_text 29 (by omega) (by omega) ⟨0, 0, 0, 0⟩ ⟨by decide, by decide⟩
    rw [text_j] at this
    exact this
  unfold addP
  rw [if_neg (by decide), if_neg (by decide), hp, hN]
theorem add_addu (at_ : Int) (ps : List Pt) (g : Lbs) : addP at_ adduL ps g = .ok (ps ++ [⟨at_, 0, 20, ⟨2, 3, 1, 0⟩, []⟩], g) := by
  have := add_text at_ 20 (by omega) (by omega) ⟨2, 3, 1, 0⟩ ⟨by decide, by decide⟩ ps g
  rwa [text_addu] at this
theorem add_there (at_ : Int) (ps : List Pt) (g : Lbs) (h : g thereN = none) : addP at_ thereL ps g = .ok (ps, lPut g thereN ps.length) := by
  unfold addP
  rw [if_neg (by decide), if_pos (by decide), if_pos (by decide)]
  have e : Lib.trimSuffix thereL [58] = thereN := by decide
  rw [e, h]
  simp
theorem addsP_append : ∀ (a b : List (List UInt8)) (j : Nat) (ps : List Pt) (g : Lbs) (r : List Pt × Lbs), addsP a j ps g = .ok r → addsP (a ++ b) j ps g = addsP b (j + a.length) r.1 r.2
  | [], b, j, ps, g, r, h => by simp [addsP] at h; subst h; rfl
  | l :: a, b, j, ps, g, r, h => by
    rw [addsP] at h
    rw [List.cons_append, addsP]
    cases hl : addP j l ps g with
    | error e => rw [hl] at h; cases h
    | ok q =>
      rw [hl] at h
      simp only at h ⊢
      rw [addsP_append a b (j + 1) q.1 q.2 r h]
      rw [List.length_cons, show j + 1 + a.length = j + (a.length + 1) by omega]
def labL (to j : Nat) : List (List UInt8) := if j = to then [thereL] else []
def insL (fr j : Nat) : List (List UInt8) := if j = fr then [bneL, jL] else [adduL]
def lsG (fr to : Nat) : Nat → List (List UInt8)
  | 0 => []
  | j + 1 => lsG fr to j ++ labL to j ++ insL fr j
theorem lsG_len (fr to : Nat) : ∀ j, (lsG fr to j).length ≤ 3 * j
  | 0 => by simp [lsG]
  | j + 1 => by
    rw [lsG, List.length_append, List.length_append]
    have := lsG_len fr to j
    have h1 : (labL to j).length ≤ 1 := by unfold labL; split <;> simp
    have h2 : (insL fr j).length ≤ 2 := by unfold insL; split <;> simp
    omega
def lbG (fr to : Nat) (j : Nat) : Lbs := if to < j then lPut lNone thereN ((to + (if fr < to then 1 else 0) : Nat) : Int) else lNone
def nG (fr j : Nat) : Nat := j + (if fr < j then 1 else 0)
/-- the part at a place -/
def PtL (fr n : Nat) (p : Pt) : Prop := ∃ ln : Int, p = if n = fr then ⟨ln, 0, 32, ⟨3, 0, 0, 0⟩, thereN⟩ else if n = fr + 1 then ⟨ln, 0, 29, ⟨0, 0, 0, 0⟩, thereN⟩ else ⟨ln, 0, 20, ⟨2, 3, 1, 0⟩, []⟩
def AllL (fr : Nat) (ps : List Pt) : Prop := ∀ n p, ps[n]? = some p → PtL fr n p
theorem AllL.snoc {fr : Nat} {ps : List Pt} (h : AllL fr ps) {p : Pt} (hp : PtL fr ps.length p) : AllL fr (ps ++ [p]) := by
  intro n q hq
  by_cases hn : n < ps.length
  · rw [List.getElem?_append_left hn] at hq; exact h n q hq
  · rw [List.getElem?_append_right (by omega)] at hq
    have : n - ps.length = 0 := by
      rcases Nat.eq_zero_or_pos (n - ps.length) with e | e
      · exact e
      · rw [List.getElem?_eq_none (by simp; omega)] at hq; cases hq
    rw [this] at hq
    simp at hq
    subst hq
    rw [show n = ps.length by omega]; exact hp
theorem lab_step (fr to j i : Nat) (ps : List Pt) (hl : ps.length = nG fr j) : addsP (labL to j) i ps (lbG fr to j) = .ok (ps, lbG fr to (j + 1)) := by
  unfold labL
  by_cases h : j = to
  · subst h
    have hg : lbG fr j j = lNone := by unfold lbG; rw [if_neg (by omega)]
    rw [if_pos rfl, hg, addsP, add_there i ps lNone rfl]
    unfold lbG addsP
    rw [if_pos (by omega), hl]
    unfold nG
    rfl
  · rw [if_neg h, addsP]
    unfold lbG
    by_cases h2 : to < j
    · rw [if_pos h2, if_pos (show to < j + 1 by omega)]
    · rw [if_neg h2, if_neg (show ¬ to < j + 1 by omega)]
theorem ins_step (fr to j i : Nat) (ps : List Pt) (hl : ps.length = nG fr j) (hA : AllL fr ps) (g : Lbs) : ∃ ps', addsP (insL fr j) i ps g = .ok (ps', g) ∧ ps'.length = nG fr (j + 1) ∧ AllL fr ps' := by
  unfold insL
  by_cases h : j = fr
  · subst h
    have hl2 : ps.length = j := by rw [hl]; unfold nG; rw [if_neg (by omega)]; omega
    rw [if_pos rfl, addsP, add_bne]
    simp only
    rw [addsP, add_j]
    simp only [addsP]
    refine ⟨_, rfl, ?_, ?_⟩
    · simp; unfold nG; rw [if_pos (by omega)]; omega
    · refine AllL.snoc (hA.snoc ⟨i, ?_⟩) ⟨((i + 1 : Nat) : Int), ?_⟩
      · rw [if_pos hl2]
      · rw [if_neg (by simp; omega), if_pos (by simp; omega)]
  · rw [if_neg h, addsP, add_addu]
    simp only [addsP]
    refine ⟨_, rfl, ?_, hA.snoc ⟨i, ?_⟩⟩
    · simp [hl]; unfold nG; split <;> split <;> omega
    · have : ps.length ≠ fr ∧ ps.length ≠ fr + 1 := by rw [hl]; unfold nG; split <;> omega
      rw [if_neg this.1, if_neg this.2]
theorem lsG_adds (fr to : Nat) : ∀ j, ∃ ps, addsP (lsG fr to j) 0 [] lNone = .ok (ps, lbG fr to j) ∧ ps.length = nG fr j ∧ AllL fr ps
  | 0 => ⟨[], by unfold lbG; simp [lsG, addsP], by simp [nG], fun n p h => by simp at h⟩
  | j + 1 => by
    obtain ⟨ps, h1, h2, h3⟩ := lsG_adds fr to j
    have e1 := addsP_append (lsG fr to j) (labL to j) 0 [] lNone _ h1
    simp only at e1
    rw [lab_step fr to j _ ps h2] at e1
    have e2 := addsP_append (lsG fr to j ++ labL to j) (insL fr j) 0 [] lNone _ e1
    obtain ⟨ps', h4, h5, h6⟩ := ins_step fr to j (0 + (lsG fr to j ++ labL to j).length) ps h2 h3 (lbG fr to (j + 1))
    exact ⟨ps', by rw [lsG, e2]; exact h4, h5, h6⟩
theorem fins_all {org : Int} {g : Lbs} {f : Nat → Int} : ∀ (ps : List Pt) (n0 : Nat), (∀ n p, ps[n]? = some p → finP org g (n0 + n) p = .ok (f (n0 + n))) → ∃ vs, finsP org g ps n0 = .ok vs ∧ vs.length = ps.length ∧ ∀ n, n < ps.length → vs[n]? = some (f (n0 + n))
  | [], n0, h => ⟨[], rfl, rfl, fun n hn => by simp at hn⟩
  | p :: ps, n0, h => by
    obtain ⟨vs, h1, h2, h3⟩ := fins_all ps (n0 + 1) (fun n q hq => by
      have := h (n + 1) q (by simpa using hq)
      rwa [show n0 + (n + 1) = n0 + 1 + n by omega] at this)
    refine ⟨f n0 :: vs, ?_, by simp [h2], fun n hn => ?_⟩
    · have h0 := h 0 p rfl
      rw [Nat.add_zero] at h0
      rw [finsP, h0]; simp only; rw [h1]
    · cases n with
      | zero => rfl
      | succ n => simp at hn ⊢; rw [h3 n hn, show n0 + 1 + n = n0 + (n + 1) by omega]
/-- the place of the label -/
def plc (fr to : Nat) : Nat := to + (if fr < to then 1 else 0)
def mB (fr to : Nat) : Int := ((plc fr to : Int) - (fr + 1)) % 65536
def mJ (org : Int) (fr to : Nat) : Int := (org + 4 * (plc fr to : Int)) % 4294967296 / 4 % 67108864
def fL2 (org : Int) (fr to : Nat) (n : Nat) : Int := if n = fr then enc 32 3 0 0 (mB fr to) else if n = fr + 1 then enc 29 0 0 0 (mJ org fr to) else enc 20 2 3 1 0
theorem okBne (m : Int) (h : m ≤ 65535) : okB (sh 32) 3 0 0 m = true := by
  unfold okB
  have h1 : top (sh 32) = 65535 := by decide
  have h2 : (well 3 (hasS (sh 32)) && well 0 (hasT (sh 32)) && well 0 (hasD (sh 32))) = true := by decide
  rw [h1, h2]; simp; omega
theorem okJ (m : Int) (h : m ≤ 67108863) : okB (sh 29) 0 0 0 m = true := by
  unfold okB
  have h1 : top (sh 29) = 67108863 := by decide
  have h2 : (well 0 (hasS (sh 29)) && well 0 (hasT (sh 29)) && well 0 (hasD (sh 29))) = true := by decide
  rw [h1, h2]; simp; omega
/-- the lines of AsmLabels -/
def lsL (many fr to : Nat) : List (List UInt8) := lsG fr to many ++ labL to many
theorem asm_labels (many fr to : Nat) (hf : fr < many) (ht : to ≤ many) (hm : many ≤ 60) (org : Int) (o0 : 0 ≤ org) (o1 : org ≤ 1048576) :
    ∃ vs, asmP (lsL many fr to) org = .ok vs ∧ vs.length = many + 1 ∧ vs[fr]? = some (enc 32 3 0 0 (mB fr to)) ∧ vs[fr + 1]? = some (enc 29 0 0 0 (mJ org fr to)) := by
  obtain ⟨ps, h1, h2, h3⟩ := lsG_adds fr to many
  have e1 := addsP_append (lsG fr to many) (labL to many) 0 [] lNone _ h1
  simp only at e1
  rw [lab_step fr to many _ ps h2] at e1
  have hlen : ps.length = many + 1 := by rw [h2]; unfold nG; rw [if_pos hf]
  have hg : lbG fr to (many + 1) thereN = some (plc fr to : Int) := by
    unfold lbG; rw [if_pos (by omega)]; unfold lPut; rw [if_pos rfl]; rfl
  have hpl : plc fr to ≤ 61 := by unfold plc; split <;> omega
  obtain ⟨vs, v1, v2, v3⟩ := fins_all (org := org) (g := lbG fr to (many + 1)) (f := fL2 org fr to) ps 0 (fun n p hp => by
    have hn : n < ps.length := (List.getElem?_eq_some_iff.1 hp).1
    obtain ⟨ln, e⟩ := h3 n p hp
    rw [Nat.zero_add]
    unfold fL2
    by_cases c1 : n = fr
    · rw [if_pos c1] at e ⊢
      subst e
      unfold finP
      rw [if_neg (by simp), if_neg (by simp)]
      have hr : reachP org (lbG fr to (many + 1)) n 32 thereN = .ok (mB fr to) := by
        unfold reachP; rw [hg]; simp only; rw [if_neg (by decide), c1]; rfl
      simp only [hr]
      unfold encP
      rw [if_pos (okBne _ (by unfold mB; omega))]
    · rw [if_neg c1] at e ⊢
      by_cases c2 : n = fr + 1
      · rw [if_pos c2] at e ⊢
        subst e
        unfold finP
        rw [if_neg (by simp), if_neg (by simp)]
        have hr : reachP org (lbG fr to (many + 1)) n 29 thereN = .ok (mJ org fr to) := by
          unfold reachP; rw [hg]; simp only
          rw [if_pos (by decide), if_pos (by omega)]; rfl
        simp only [hr]
        unfold encP
        rw [if_pos (okJ _ (by unfold mJ; omega))]
      · rw [if_neg c2] at e ⊢
        subst e
        unfold finP
        rw [if_neg (by simp), if_pos rfl]
        unfold encP
        rw [if_pos (show okB (sh 20) 2 3 1 0 = true by decide)])
  refine ⟨vs, ?_, by rw [v2, hlen], ?_, ?_⟩
  · unfold asmP lsL
    rw [e1]; exact v1
  · rw [v3 fr (by omega)]; unfold fL2; rw [Nat.zero_add, if_pos rfl]
  · rw [v3 (fr + 1) (by omega)]; unfold fL2; rw [Nat.zero_add, if_neg (by omega), if_pos rfl]
theorem lsL_short (many fr to : Nat) : ∀ l ∈ lsL many fr to, l.length ≤ 1000 := by
  have hlab : ∀ j, ∀ l ∈ labL to j, l.length ≤ 1000 := by
    intro j l hl; unfold labL at hl; split at hl
    · simp at hl; subst hl; simp
    · simp at hl
  have hg : ∀ j, ∀ l ∈ lsG fr to j, l.length ≤ 1000 := by
    intro j
    induction j with
    | zero => intro l hl; simp [lsG] at hl
    | succ j ih =>
      intro l hl
      rw [lsG, List.mem_append, List.mem_append] at hl
      rcases hl with (hl | hl) | hl
      · exact ih l hl
      · exact hlab j l hl
      · unfold insL at hl; split at hl
        · simp at hl; rcases hl with rfl | rfl <;> simp
        · simp at hl; subst hl; simp
  intro l hl
  unfold lsL at hl
  rcases List.mem_append.1 hl with hl | hl
  · exact hg many l hl
  · exact hlab many l hl
end Go.Proofs.YtccnliihdhnckaaGreatDoor
