/-
  asm.Assemble: the words of any lines, or an error with its place.
-/
import Derived.OwnWalk
import Derived.Laws.OwnMore
import Derived.Test.YtccnliihdhnckaaGreatDoorKAsmP
namespace Go.Proofs.YtccnliihdhnckaaGreatDoor
open Go.RowKit Go.Shelf Go.Joins Go.Maps
open Num Tab Fm Txt
set_option linter.unusedVariables false
def strV (l : List UInt8) : Value := .string ⟨l.toArray⟩
def u32V (x : Int) : Value := .int .u32 x
theorem info22 : (Tryz.prog.info? 22).map (fun i => (i.zero, i.size, i.bytes)) = some (some (.int .u32 0), 1, 4) := by kernel_rfl
/-- what Assemble answers -/
def AsmOut (E : Nat → Addr) (B : Nat) (e : Ending) (w' : World) : Except (Int × Nat) (List Int) → Prop
  | .ok vs => ∃ v', e = .returned (.tuple #[v', .nilIface]) ∧ w'.ownsRow B 22 1 v' vs.length (vs.map u32V)
  | .error x => ∃ q, e = .returned (.tuple #[.slice none 0 0, .iface 89 (.pointer (some ⟨q, 0, none⟩))]) ∧ w'.cell? ⟨q, 0, none⟩ = some (.int .i64 x.1) ∧ w'.cell? ⟨q, 1, none⟩ = some (.iface 210 (.pointer (some (E x.2))))
/-- what is left, some lines read -/
def asmK (org : Int) (ls : List (List UInt8)) (j : Nat) (ps : List Pt) (g : Lbs) : Except (Int × Nat) (List Int) :=
  match addsP ls j ps g with
  | .error e => .error (e.1, e.2)
  | .ok r => finsP org r.2 r.1 0
theorem asmK_nil (org : Int) (j : Nat) (ps : List Pt) (g : Lbs) : asmK org [] j ps g = finsP org g ps 0 := rfl
theorem asmK_err {org : Int} {l : List UInt8} {ls : List (List UInt8)} {j : Nat} {ps : List Pt} {g : Lbs} {k : Nat} (h : addP j l ps g = .error k) : asmK org (l :: ls) j ps g = .error ((j : Int), k) := by
  unfold asmK addsP; rw [h]
theorem asmK_ok {org : Int} {l : List UInt8} {ls : List (List UInt8)} {j : Nat} {ps : List Pt} {g : Lbs} {r : List Pt × Lbs} (h : addP j l ps g = .ok r) : asmK org (l :: ls) j ps g = asmK org ls (j + 1) r.1 r.2 := by
  unfold asmK; rw [addsP, h]
def finK (org : Int) (g : Lbs) (ps : List Pt) (n : Nat) (vs : List Int) : Except (Int × Nat) (List Int) :=
  match finsP org g ps n with
  | .error e => .error e
  | .ok us => .ok (vs ++ us)
theorem finK_0 (org : Int) (g : Lbs) (ps : List Pt) : finK org g ps 0 [] = finsP org g ps 0 := by unfold finK; split <;> simp_all
theorem finK_nil (org : Int) (g : Lbs) (n : Nat) (vs : List Int) : finK org g [] n vs = .ok vs := by unfold finK finsP; simp
theorem finK_err {org : Int} {g : Lbs} {p : Pt} {ps : List Pt} {n : Nat} {vs : List Int} {k : Nat} (h : finP org g n p = .error k) : finK org g (p :: ps) n vs = .error (p.line, k) := by unfold finK finsP; rw [h]
theorem finK_ok {org : Int} {g : Lbs} {p : Pt} {ps : List Pt} {n : Nat} {vs : List Int} {v : Int} (h : finP org g n p = .ok v) : finK org g (p :: ps) n vs = finK org g ps (n + 1) (vs ++ [v]) := by
  unfold finK; rw [finsP, h]; simp only
  cases finsP org g ps (n + 1) <;> simp
structure AI (w wr : World) (org : Int) (j : Nat) (ps : List Pt) (g : Lbs) (vp : Value) : Prop where
  src : SrcIs wr (w.heap.size + 2) (w.heap.size + 1) w.heap.size org ps vp
  lab : LabelsAt wr w.heap.size j g
  bel : Below w.heap.size w wr
  ok : PsOk ps g
  len : ps.length ≤ j
theorem AI.start (w : World) (org : Int) : AI w ((w.alloc (.map #[] 0)).alloc (.cells #[.int .u32 org, .map (some w.heap.size), .slice none 0 0] 87)) org 0 [] lNone (.slice none 0 0) where
  src := ⟨by rw [World.cell?_alloc_at _ _ _ _ (by simp)]; rfl, by rw [World.cell?_alloc_at _ _ _ _ (by simp)]; rfl, by rw [World.cell?_alloc_at _ _ _ _ (by simp)]; rfl, fun j => by
    have : (w.alloc (.map #[] 0)).heap.size = w.heap.size + 1 := by simp
    rw [← this]; simp, World.ownsRow_nil _ _ _ _, by omega, by omega, by omega, by simp⟩
  lab := by
    refine ⟨.map [], (World.ownsMap_made w _ _ _).alloc _, fun s => ⟨rfl, rfl⟩⟩
  bel := ((Below.refl _ _).alloc (Nat.le_refl _) _).alloc (by simp) _
  ok := PsOk.nil
  len := Nat.le_refl _
theorem AI.stays {w wr w' : World} {org : Int} {j : Nat} {ps : List Pt} {g : Lbs} {vp : Value} (A : AI w wr org j ps g vp) (h : Below wr.heap.size wr w') : AI w w' org j ps g vp :=
  ⟨A.src.stays h, A.lab.stays h, A.bel.trans (h.mono A.bel.size), A.ok, A.len⟩
theorem AI.put {w wr : World} {org : Int} {j : Nat} {ps : List Pt} {g : Lbs} {vp : Value} (A : AI w wr org j ps g vp) {gw : Nat} (h1 : w.heap.size + 2 ≤ gw) (h2 : vp.ownBlock ≠ some gw) (n : Nat) (u : Value) : AI w (wr.setCell ⟨gw, n, none⟩ u) org j ps g vp :=
  ⟨A.src.blocks (by simp) fun k hk => Below.heap_setCell wr ⟨gw, n, none⟩ u k (by
      rcases hk with rfl | hk
      · show _ ≠ gw; omega
      · intro e; exact h2 (by rw [hk]; exact congrArg some e)), A.lab.same (Below.heap_setCell wr ⟨gw, n, none⟩ u _ (by show _ ≠ gw; omega)), A.bel.setCell (by show _ ≤ gw; omega) _, A.ok, A.len⟩
structure AJ (w wr : World) (org : Int) (j : Nat) (ps : List Pt) (g : Lbs) (vp : Value) (gw n : Nat) (vs : List Int) : Prop where
  ai : AI w wr org j ps g vp
  row : wr.ownsRow w.heap.size 22 1 (.slice (some ⟨gw, 0, none⟩) ps.length ps.length) ps.length (vs.map u32V ++ List.replicate (ps.length - n) (.int .u32 0))
  vl : vs.length = n
theorem AJ.stays {w wr w' : World} {org : Int} {j : Nat} {ps : List Pt} {g : Lbs} {vp : Value} {gw n : Nat} {vs : List Int} (A : AJ w wr org j ps g vp gw n vs) (h : Below wr.heap.size wr w') : AJ w w' org j ps g vp gw n vs :=
  ⟨A.ai.stays h, owns_blocks A.row (fun k e => h.block k (A.row.lt k e).2), A.vl⟩
theorem AJ.cell {w wr : World} {org : Int} {j : Nat} {ps : List Pt} {g : Lbs} {vp : Value} {gw n : Nat} {vs : List Int} (A : AJ w wr org j ps g vp gw n vs) (hn : n < ps.length) : wr.cell? ⟨gw, n, none⟩ = some (.int .u32 0) ∧ wr.frozen? ⟨gw, n, none⟩ = false := by
  refine ⟨?_, A.row.frozenAt n⟩
  have := A.row.cells (g := gw) rfl n (.int .u32 0) (by
    rw [List.getElem?_append_right (by simp [A.vl]), List.getElem?_replicate, if_pos (by simp [A.vl]; omega)])
  rwa [add_lit] at this
theorem AJ.next {w wr : World} {org : Int} {j : Nat} {ps : List Pt} {g : Lbs} {vp : Value} {gw n : Nat} {vs : List Int} (A : AJ w wr org j ps g vp gw n vs) (hn : n < ps.length) (h1 : w.heap.size + 2 ≤ gw) (h2 : vp.ownBlock ≠ some gw) (v : Int) : AJ w (wr.setCell ⟨gw, n, none⟩ (.int .u32 v)) org j ps g vp gw (n + 1) (vs ++ [v]) := by
  refine ⟨A.ai.put h1 h2 _ _, ?_, by simp [A.vl]⟩
  have := (A.row.stored n (.int .u32 v)).1
  have e : (vs.map u32V ++ List.replicate (ps.length - n) (Value.int .u32 0)).set n (.int .u32 v) = (vs ++ [v]).map u32V ++ List.replicate (ps.length - (n + 1)) (Value.int .u32 0) := by
    rw [List.set_append_right _ _ (by simp [A.vl]), List.map_append, List.append_assoc]
    congr 1
    have : ps.length - n = (ps.length - (n + 1)) + 1 := by omega
    rw [this, List.replicate_succ]
    simp [A.vl, u32V]
  rwa [e] at this
set_option maxRecDepth 100000 in
set_option maxHeartbeats 4000000 in
theorem assemble_any {w : World} (E : Nat → Addr) (EE : Er9 E w) (T : Tb (E 3) (E 1) w) (b : Lb w) {b0 : Nat} {lv : Value} (ls : List (List UInt8)) (hrow : w.ownsRow b0 9 1 lv ls.length (ls.map strV)) (hn : ls.length ≤ 200) (hls : ∀ l ∈ ls, l.length ≤ 1000) (org : Int) (o0 : 0 ≤ org) (o1 : org < 4294967296) (oa : org % 4 = 0) :
    Calls Tryz.prog 15 #[lv, .int .u32 org] w fun e w' => AsmOut E w.heap.size e w' (asmP ls org) ∧ Below w.heap.size w w' := by
  have HR : Hid (asmK org (ls.drop 0) 0 [] lNone = asmP ls org) := rfl
  generalize asmP ls org = R at HR ⊢
  have HE : Hid (Er9 E w) := EE
  have HT : Hid (Tb (E 3) (E 1) w) := T
  have HL : Hid (Lb w) := b
  have HLS : Hid (∀ l ∈ ls, l.length ≤ 1000) := hls
  obtain ⟨lo, lcap, hlv, hlo⟩ : ∃ ao cap, lv = .slice ao ls.length cap ∧ (0 < ls.length → ∃ q, ao = some ⟨q, 0, none⟩) := by
    rcases hrow.2 with ⟨e, h⟩ | ⟨q, cap, cur, e, _⟩
    · exact ⟨none, 0, by rw [e, h], fun h2 => by omega⟩
    · exact ⟨_, cap, e, fun _ => ⟨q, rfl⟩⟩
  subst hlv
  have HLO : Hid (0 < ls.length → ∃ q, lo = some ⟨q, 0, none⟩) := hlo
  have HRW : Hid (w.ownsRow b0 9 1 (.slice lo ls.length lcap) ls.length (ls.map strV)) := hrow
  have hn' : (ls.length : Int) ≤ 200 := by omega
  have S0 := AI.start w org
  have hz0 : 11 < w.heap.size := World.block_lt_of_cell? _ _ EE.c9
  clear EE T b hls hlo hrow
  have hmm := @run_makeMap Tryz.prog
  go_enter Tryz.func15, Tryz.ntmps15
  go_upto_region 6 with fail
  clear oa hmm
  generalize (w.alloc (.map #[] 0)).alloc (.cells #[.int .u32 org, .map (some w.heap.size), .slice none 0 0] 87) = W0 at *
  go_wp2
  go_loopw [28] (fun i wr => ∃ (j : Nat) (ps : List Pt) (g : Lbs) (vp : Value), j ≤ ls.length ∧ i = .int .i64 j ∧ AI w wr org j ps g vp ∧ Hid (asmK org (ls.drop j) j ps g = R)) (fun i _ => ls.length - (intOf i).toNat)
  case atStart => exact ⟨0, [], lNone, _, Nat.zero_le _, rfl, S0, HR⟩
  case round =>
    obtain ⟨j, ps, g, vp, hj, rfl, A, HK⟩ := hrel
    clear S0 HR
    by_cases hlt : j < ls.length
    · obtain ⟨l, hl⟩ : ∃ l, ls[j]? = some l := ⟨_, List.getElem?_eq_getElem hlt⟩
      obtain ⟨q, rfl⟩ := HLO.out (by omega)
      have hlen : l.length ≤ 1000 := HLS.out l (List.mem_of_getElem? hl)
      have hdr : ls.drop j = l :: ls.drop (j + 1) := by rw [List.drop_eq_getElem_cons hlt]; congr 1; rw [List.getElem?_eq_getElem hlt] at hl; injection hl
      rw [hdr] at HK
      have hqb : q < w.heap.size := (HRW.out.lt q rfl).2
      have hc : wr.cell? ⟨q, j, none⟩ = some (.string ⟨l.toArray⟩) := by
        have h1 := HRW.out.cells (g := q) rfl j (strV l) (by rw [List.getElem?_map, hl]; rfl)
        rw [add_lit] at h1
        exact (World.cell?_of_block (a := ⟨q, j, none⟩) (A.bel.block q hqb)).trans h1
      have hlt' : (j : Int) < ls.length := by omega
      have hca := add_all E (HE.out.stays A.bel) A.src (HL.out.stays A.bel (Nat.le_refl _)) A.lab (by omega) (B := w.heap.size) A.bel.size (by omega) (Nat.le_refl _) (by omega) (j : Int) l hlen (by have := A.len; omega)
      have HA : Hid (AI w wr org j ps g vp) := A
      clear A hdr hl
      go_wp2_with fail
      refine hca.mono ?_
      intro e w2 hA
      clear hca hc
      cases had : addP (j : Int) l ps g with
      | error k =>
        rw [had] at hA
        obtain ⟨rfl, hb⟩ := hA
        have HF : Hid (R = .error ((j : Int), k)) := by show R = _; rw [← HK.out]; exact asmK_err had
        have HB : Hid (Below w.heap.size w w2) := HA.out.bel.trans hb
        clear hb had HK HA
        go_wp2
        go_ret2
        rw [HF.out]
        refine ⟨⟨_, rfl, ?_, ?_⟩, ?_⟩
        · simp
        · simp
        · exact HB.out.alloc HB.out.size _
      | ok r =>
        rw [had] at hA
        obtain ⟨rfl, vp', S', L', hb⟩ := hA
        have HB : Hid (Below w.heap.size w w2) := HA.out.bel.trans hb
        obtain ⟨ps', g'⟩ := r
        have hpk := HA.out.ok.add hlen had
        have HN : Hid (AI w w2 org (j + 1) ps' g' vp') := ⟨S', L', HB.out, hpk.1, by have := HA.out.len; omega⟩
        have HK2 : Hid (asmK org (ls.drop (j + 1)) (j + 1) ps' g' = R) := by show _ = R; rw [← HK.out]; exact (asmK_ok had).symm
        clear hb had HK S' L' hpk HA
        go_wp2
        go_roundw
        case rel => exact ⟨j + 1, ps', g', vp', by omega, by go_num, HN.out, HK2⟩
        case measure => simp [intOf]; omega
    · obtain rfl : j = ls.length := by omega
      rw [List.drop_length, asmK_nil, ← finK_0] at HK
      obtain ⟨i0, hi, iz0, iz1, iz2⟩ := info_parts info22
      have c2 := A.src.c2
      have hpl := A.len
      obtain ⟨po, pcap, hvp, hpo⟩ : ∃ ao cap, vp = .slice ao ps.length cap ∧ (0 < ps.length → ∃ q, ao = some ⟨q, 0, none⟩) := by
        rcases A.src.rp.2 with ⟨e, h⟩ | ⟨q, cap, cur, e, _⟩
        · exact ⟨none, 0, by rw [e, h], fun h2 => by omega⟩
        · exact ⟨_, cap, e, fun _ => ⟨q, rfl⟩⟩
      subst hvp
      have HPO : Hid (0 < ps.length → ∃ q, po = some ⟨q, 0, none⟩) := hpo
      have HA : Hid (AI w wr org ls.length ps g (.slice po ps.length pcap)) := A
      have hsz : w.heap.size + 2 ≤ wr.heap.size := A.src.bs
      clear A hpo HRW HLO HLS
      have hpl' : (ps.length : Int) ≤ 200 := by omega
      go_wp2_with (at_make; refine wpList_make_full _ rfl _ _ 41 rfl w.heap.size 22 i0 (.int .u32 0) 1 Tryz.underlying41 hi iz0 iz1 _ _ _ _ ps.length rfl rfl rfl rfl (by rw [iz2]; omega) (by unfold maxLen; omega) (by omega) ?_; intro w1 hown1 hg1; have d2 := (World.cell?_of_block (a := ⟨w.heap.size + 1, 2, none⟩) (hg1.block (w.heap.size + 1) (by omega) (by simp))).trans c2)
      have hgw : w.heap.size + 2 ≤ wr.heap.size := hsz
      have hb1 : Below wr.heap.size wr w1 := ⟨hg1.os, hg1.tape, hg1.output, hg1.size, fun k hk => hg1.block k hk (by simp)⟩
      have J0 : Hid (AJ w w1 org ls.length ps g (.slice po ps.length pcap) wr.heap.size 0 []) := by
        refine ⟨HA.out.stays hb1, ?_, rfl⟩
        have e : (madeCells (Value.int .u32 0).cells (ps.length * 1)).toList = List.replicate ps.length (.int .u32 0) := by
          rw [Nat.mul_one]; exact toList_madeCells_one _ _
        rw [e] at hown1
        simpa using hown1
      have HV : Hid ((Value.slice po ps.length pcap).ownBlock ≠ some wr.heap.size) := fun e => by have := (HA.out.src.rp.lt _ e).2; omega
      clear hown1 hg1 hb1 c2 d2 HA hsz
      generalize wr.heap.size = gw at *
      have HG : Hid (w.heap.size + 2 ≤ gw) := hgw
      clear hgw
      go_loopw [51] (fun i wq => ∃ (n : Nat) (vs : List Int), n ≤ ps.length ∧ i = .int .i64 n ∧ AJ w wq org ls.length ps g (.slice po ps.length pcap) gw n vs ∧ Hid (finK org g (ps.drop n) n vs = R)) (fun i _ => ps.length - (intOf i).toNat)
      case atStart => exact ⟨0, [], Nat.zero_le _, rfl, J0.out, HK⟩
      case round =>
        obtain ⟨n, vs, hnp, rfl, A, HF⟩ := hrel
        clear J0 HK
        by_cases hlt2 : n < ps.length
        · obtain ⟨x, hx⟩ : ∃ x, ps[n]? = some x := ⟨_, List.getElem?_eq_getElem hlt2⟩
          obtain ⟨q, rfl⟩ := HPO.out (by omega)
          have hdr : ps.drop n = x :: ps.drop (n + 1) := by rw [List.drop_eq_getElem_cons hlt2]; congr 1; rw [List.getElem?_eq_getElem hlt2] at hx; injection hx
          rw [hdr] at HF
          obtain ⟨p0, p1, p2, p3, p4, p5, p6, p7⟩ := part_cells A.ai.src.rp hx
          have zq := World.block_lt_of_cell? _ _ p0
          have hlt2' : (n : Int) < ps.length := by omega
          have okx := A.ai.ok.1 x (List.mem_of_getElem? hx)
          have hB : Below wr.heap.size wr (wr.alloc (.cells #[.int .i64 x.line, .int .u32 x.word, .int .i64 x.k, .int .i64 x.f.s, .int .i64 x.f.t, .int .i64 x.f.d, .int .u32 x.f.m, .string ⟨x.name.toArray⟩] 93)) := (Below.refl _ _).alloc (Nat.le_refl _) _
          have AB := A.stays hB
          have q0 : (wr.alloc (.cells #[.int .i64 x.line, .int .u32 x.word, .int .i64 x.k, .int .i64 x.f.s, .int .i64 x.f.t, .int .i64 x.f.d, .int .u32 x.f.m, .string ⟨x.name.toArray⟩] 93)).cell? ⟨wr.heap.size, 0, none⟩ = some (.int .i64 x.line) := by simp
          have hfi := finish_any E (HE.out.stays AB.ai.bel) (HT.out.stays AB.ai.bel (Nat.le_refl _)) AB.ai.src o0 o1 AB.ai.lab (fun s v e => by have := AB.ai.ok.2 s v e; omega) n (by omega) x hx (by omega) okx.2.2.1 okx.2.2.2.1 okx.2.2.2.2
          have HAB : Hid (AJ w _ org ls.length ps g _ gw n vs) := AB
          clear A AB hB hdr okx
          go_wp2_with fail
          refine hfi.mono ?_
          generalize wr.alloc (.cells #[.int .i64 x.line, .int .u32 x.word, .int .i64 x.k, .int .i64 x.f.s, .int .i64 x.f.t, .int .i64 x.f.d, .int .u32 x.f.m, .string ⟨x.name.toArray⟩] 93) = W1 at HAB q0 ⊢
          clear hfi p0 p1 p2 p3 p4 p5 p6 p7
          rintro e w2 ⟨rfl, hb2⟩
          have q1 := cell_stays hb2 (Nat.le_refl _) q0
          have HA2 : Hid (AJ w w2 org ls.length ps g (.slice (some ⟨q, 0, none⟩) ps.length pcap) gw n vs) := HAB.out.stays hb2
          clear HAB hb2 q0
          cases hfp : finP org g n x with
          | error k =>
            have HFE : Hid (R = .error (x.line, k)) := by show R = _; rw [← HF.out]; exact finK_err hfp
            simp only [finV]
            have zq1 := World.block_lt_of_cell? _ _ q1
            clear HF hfp
            go_wp2_with fail
            go_region
            all_goals
              go_wp2
              go_ret2
              rw [HFE.out]
              refine ⟨⟨_, rfl, ?_, ?_⟩, ?_⟩
              · simp
              · simp
              · exact (HA2.out.ai.bel.drew).alloc HA2.out.ai.bel.size _
          | ok v =>
            have HF2 : Hid (finK org g (ps.drop (n + 1)) (n + 1) (vs ++ [v]) = R) := by show _ = R; rw [← HF.out]; exact (finK_ok hfp).symm
            simp only [finV]
            obtain ⟨g0, gf⟩ := HA2.out.cell hlt2
            have HN : Hid (AJ w (w2.setCell ⟨gw, n, none⟩ (.int .u32 v)) org ls.length ps g (.slice (some ⟨q, 0, none⟩) ps.length pcap) gw (n + 1) (vs ++ [v])) := HA2.out.next hlt2 HG.out HV.out v
            clear HF hfp HA2
            go_wp2
            go_roundw
            case rel => exact ⟨n + 1, vs ++ [v], by omega, by go_num, HN.out, HF2⟩
            case measure => simp [intOf]; omega
        · obtain rfl : n = ps.length := by omega
          rw [List.drop_length, finK_nil] at HF
          have HO : Hid (R = .ok vs ∧ wr.ownsRow w.heap.size 22 1 (.slice (some ⟨gw, 0, none⟩) ps.length ps.length) vs.length (vs.map u32V) ∧ Below w.heap.size w wr) := by
            refine ⟨HF.out.symm, ?_, A.ai.bel⟩
            have := A.row
            rw [Nat.sub_self] at this
            simp only [List.replicate_zero, List.append_nil] at this
            rwa [A.vl]
          clear A HF
          go_wp2
          go_ret2
          rw [HO.out.1]
          exact ⟨⟨_, rfl, HO.out.2.1⟩, HO.out.2.2⟩
end Go.Proofs.YtccnliihdhnckaaGreatDoor
