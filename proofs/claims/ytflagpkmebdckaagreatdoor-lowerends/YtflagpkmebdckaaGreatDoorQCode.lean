
import Derived.WalkKit
import Derived.Below
import Derived.Test.YtflagpkmebdckaaGreatDoorQErrs
namespace Go.Proofs.YtflagpkmebdckaaGreatDoor
open Go.RowKit Go.Extern.Stop Go.Stop Go.Extern
set_option linter.unusedVariables false
set_option maxHeartbeats 4000000
structure Errs (S:Nat→Addr) (w:World):Prop where
 handle:w.cell? ⟨11,0,none⟩=some (.iface 306 (.agg #[.pointer (some ⟨13,32,none⟩)]))
 c0:w.cell? ⟨6,0,none⟩=some (.iface 332 (.pointer (some (S 0))))
 c1:w.cell? ⟨0,0,none⟩=some (.iface 332 (.pointer (some (S 1))))
 c2:w.cell? ⟨1,0,none⟩=some (.iface 332 (.pointer (some (S 2))))
 c3:w.cell? ⟨5,0,none⟩=some (.iface 332 (.pointer (some (S 3))))
 c4:w.cell? ⟨7,0,none⟩=some (.iface 332 (.pointer (some (S 4))))
 c5:w.cell? ⟨4,0,none⟩=some (.iface 332 (.pointer (some (S 5))))
 c6:w.cell? ⟨8,0,none⟩=some (.iface 332 (.pointer (some (S 6))))
 c7:w.cell? ⟨9,0,none⟩=some (.iface 332 (.pointer (some (S 7))))
 c8:w.cell? ⟨2,0,none⟩=some (.iface 332 (.pointer (some (S 8))))
 c9:w.cell? ⟨3,0,none⟩=some (.iface 332 (.pointer (some (S 9))))
 row:∀ i,i<10→∃ c t,w.heap[(S i).block]?=some (.cells c t (0,0))
 inj:∀ i j,i<10→j<10→S i=S j→i=j
theorem some_lt {w:World} {k:Nat} {o:Obj} (h:w.heap[k]?=some o):k<w.heap.size:=by
 rcases Nat.lt_or_ge k w.heap.size with h'|h'
 ·exact h'
 ·rw[Array.getElem?_eq_none h']at h;cases h
theorem cell_stays {B:Nat} {w w':World} (h:Below B w w') (hB:w.heap.size≤B) {a:Addr} {v:Value} (hc:w.cell? a=some v):w'.cell? a=some v:=by
 rw[h.cell (Nat.lt_of_lt_of_le (cell_lt hc) hB)];exact hc
theorem row_stays {B:Nat} {w w':World} (h:Below B w w') (hB:w.heap.size≤B) {k:Nat} {o:Obj} (hc:w.heap[k]?=some o):w'.heap[k]?=some o:=by
 rw[h.block k (Nat.lt_of_lt_of_le (some_lt hc) hB)];exact hc
theorem Errs.stays {S:Nat→Addr} {w w':World} (E:Errs S w) (h:Below w.heap.size w w'):Errs S w' where
 handle:=cell_stays h (Nat.le_refl _) E.handle
 c0:=cell_stays h (Nat.le_refl _) E.c0
 c1:=cell_stays h (Nat.le_refl _) E.c1
 c2:=cell_stays h (Nat.le_refl _) E.c2
 c3:=cell_stays h (Nat.le_refl _) E.c3
 c4:=cell_stays h (Nat.le_refl _) E.c4
 c5:=cell_stays h (Nat.le_refl _) E.c5
 c6:=cell_stays h (Nat.le_refl _) E.c6
 c7:=cell_stays h (Nat.le_refl _) E.c7
 c8:=cell_stays h (Nat.le_refl _) E.c8
 c9:=cell_stays h (Nat.le_refl _) E.c9
 row:=fun i hi=>by obtain ⟨c,t,hc⟩:=E.row i hi;exact ⟨c,t,row_stays h (Nat.le_refl _) hc⟩
 inj:=E.inj
def Which (S:Nat→Addr) (p:Addr) (k:Nat):Prop:=(k<10∧p=S k)∨(k=10∧∀ j,j<10→p≠S j)
theorem Which.le {S:Nat→Addr} {p:Addr} {k:Nat} (h:Which S p k):k≤10:=by rcases h with h|h<;>omega
theorem Which.ne {S:Nat→Addr} {w:World} {p:Addr} {k j:Nat} (E:Errs S w) (h:Which S p k) (hj:j<10) (hn:j≠k):p≠S j:=by
 rcases h with ⟨h1,h2⟩|⟨h1,h2⟩
 ·intro e;exact hn (E.inj j k hj h1 (by rw[←e,h2]))
 ·exact h2 j hj
def num (k:Nat):Int:=if k<10 then (k:Int)+1 else -1
theorem ret_ii {k l:IntKind} {a b c d:Int} (h:a=b) (g:c=d):Ending.returned (.tuple #[.int k a,.int l c])=.returned (.tuple #[.int k b,.int l d]):=by rw[h,g]
theorem list_cell (S:Nat→Addr) (w:World) (k:Nat) (hk:k<10) :
  (w.alloc (.cells #[.iface 332 (.pointer (some (S 0))),.iface 332 (.pointer (some (S 1))),.iface 332 (.pointer (some (S 2))),.iface 332 (.pointer (some (S 3))),.iface 332 (.pointer (some (S 4))),.iface 332 (.pointer (some (S 5))),.iface 332 (.pointer (some (S 6))),.iface 332 (.pointer (some (S 7))),.iface 332 (.pointer (some (S 8))),.iface 332 (.pointer (some (S 9)))] 32)).cell? ⟨w.heap.size,k,none⟩=some (.iface 332 (.pointer (some (S k)))):=by
 rw[World.cell?_alloc_at _ _ _ _ rfl]
 have:k=0∨k=1∨k=2∨k=3∨k=4∨k=5∨k=6∨k=7∨k=8∨k=9:=by omega
 rcases this with rfl|rfl|rfl|rfl|rfl|rfl|rfl|rfl|rfl|rfl<;>rfl
theorem as_plain' (e t:Addr) (old:Value) (w:World) (hg:w.cell? ⟨11,0,none⟩=some (.iface 306 (.agg #[.pointer (some ⟨13,32,none⟩)]))) (ht0:w.cell? t=some old) :
  Calls Tryz.prog 120 #[.iface 332 (.pointer (some e)),.iface 204 (.pointer (some t))] w fun ev w'=>ev=.returned (.bool false)∧Below w.heap.size w w':=by
 refine (as_plain e t old w hg ht0).mono ?_
 rintro ev w' ⟨rfl,rfl⟩
 exact ⟨rfl,(((Below.refl _ _).alloc (Nat.le_refl _) _).alloc (by simp) _).alloc (by simp;omega) _⟩
theorem code_bare (S:Nat→Addr) (p:Addr) (k:Nat) (w:World) (EE:Errs S w) (hk:Which S p k) (hp:∃ c t,w.heap[p.block]?=some (.cells c t (0,0))) :
  Calls Tryz.prog 62 #[.iface 332 (.pointer (some p))] w fun e w'=>e=.returned (.tuple #[.int .i64 (num k),.int .i64 (-1)])∧Below w.heap.size w w':=by
 obtain ⟨cp,tp,hp⟩:=hp
 have bA:Below w.heap.size w (w.alloc (.cells #[.pointer none] 202)):=(Below.refl _ _).alloc (Nat.le_refl _) _
 have EA:=EE.stays bA
 have htA:(w.alloc (.cells #[.pointer none] 202)).cell? ⟨w.heap.size,0,none⟩=some (.pointer none):=by simp
 have hkl:=hk.le
 go_enter Tryz.func62,Tryz.ntmps62
 go_wp2_with (go_at_call 120;refine (as_plain' _ _ (.pointer none) _ EA.handle htA).mono ?_;rintro e w1 ⟨rfl,hb⟩;obtain ⟨eh,d0,d1,d2,d3,d4,d5,d6,d7,d8,d9,er,ei⟩:=EA.stays hb)
 have E1:=EA.stays hb
 have bB:Below w.heap.size w w1:=bA.trans (hb.mono (by simp))
 have hp1:=row_stays bB (Nat.le_refl _) hp
 have hsz:p.block<w1.heap.size:=some_lt hp1
 have bC:Below w.heap.size w (w1.alloc (.cells #[.iface 332 (.pointer (some (S 0))),.iface 332 (.pointer (some (S 1))),.iface 332 (.pointer (some (S 2))),.iface 332 (.pointer (some (S 3))),.iface 332 (.pointer (some (S 4))),.iface 332 (.pointer (some (S 5))),.iface 332 (.pointer (some (S 6))),.iface 332 (.pointer (some (S 7))),.iface 332 (.pointer (some (S 8))),.iface 332 (.pointer (some (S 9)))] 32)):=bB.alloc bB.size _
 go_loop [3,28] (fun a i=>a=.int .i64 (-1)∧∃ j:Nat,j≤k∧i=.int .i64 j) (fun _ i=>10-(intOf i).toNat)
 case atStart=>exact ⟨rfl,0,Nat.zero_le _,rfl⟩
 case round =>
  obtain ⟨rfl,j,hj,rfl⟩:=hrel
  by_cases h10:j<10
  ·have hc:=list_cell S w1 j h10
   obtain ⟨cj,tj,hr⟩:=E1.row j h10
   have hr1:(w1.alloc (.cells #[.iface 332 (.pointer (some (S 0))),.iface 332 (.pointer (some (S 1))),.iface 332 (.pointer (some (S 2))),.iface 332 (.pointer (some (S 3))),.iface 332 (.pointer (some (S 4))),.iface 332 (.pointer (some (S 5))),.iface 332 (.pointer (some (S 6))),.iface 332 (.pointer (some (S 7))),.iface 332 (.pointer (some (S 8))),.iface 332 (.pointer (some (S 9)))] 32)).heap[(S j).block]?=some (.cells cj tj (0,0)):=by rw[Below.heap_alloc _ _ _ (some_lt hr)];exact hr
   have hp2:(w1.alloc (.cells #[.iface 332 (.pointer (some (S 0))),.iface 332 (.pointer (some (S 1))),.iface 332 (.pointer (some (S 2))),.iface 332 (.pointer (some (S 3))),.iface 332 (.pointer (some (S 4))),.iface 332 (.pointer (some (S 5))),.iface 332 (.pointer (some (S 6))),.iface 332 (.pointer (some (S 7))),.iface 332 (.pointer (some (S 8))),.iface 332 (.pointer (some (S 9)))] 32)).heap[p.block]?=some (.cells cp tp (0,0)):=by rw[Below.heap_alloc _ _ _ hsz];exact hp1
   by_cases hjk:j=k
   ·have hpj:p=S j:=by
     rcases hk with ⟨h1,h2⟩|⟨h1,h2⟩
     ·rw[hjk];exact h2
     ·omega
    have hn:Hid (num k=(j:Int)+1):=by rw[←hjk];unfold num;rw[if_pos h10];exact rfl
    subst hpj
    clear hjk
    go_wp2_with (go_at_call 121;refine (is_same _ _).mono ?_;rintro e w' ⟨rfl,rfl⟩)
    go_ret2
    exact ⟨ret_ii hn.out.symm rfl,bC⟩
   ·have hne:Hid (p≠S j):=hk.ne E1 h10 hjk
    have hlt:j<k:=by omega
    go_wp2_with (go_at_call 121;refine (is_other _ _ _ _ _ _ _ hne.out hp2 hr1).mono ?_;rintro e w' ⟨rfl,rfl⟩)
    go_round
    case rel=>exact ⟨rfl,j+1,by omega,by go_num⟩
    case measure=>simp[intOf];omega
  ·have hk10:k=10:=by omega
   have hn:Hid (num k=-1):=by unfold num;rw[if_neg (by omega)];exact rfl
   clear hk10
   go_wp2
   go_ret2
   exact ⟨ret_ii hn.out.symm rfl,bC⟩
end Go.Proofs.YtflagpkmebdckaaGreatDoor
