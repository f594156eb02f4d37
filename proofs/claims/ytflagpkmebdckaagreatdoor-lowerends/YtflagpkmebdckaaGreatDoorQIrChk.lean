
import Derived.Laws.Strings
import Derived.Test.YtflagpkmebdckaaGreatDoorKNum
import Derived.Test.YtflagpkmebdckaaGreatDoorQStore
namespace Go.Proofs.YtflagpkmebdckaaGreatDoor
open Go.RowKit Go.Maps
open Num
set_option linter.unusedVariables false
set_option maxHeartbeats 8000000
def opC (o:Opx):List Value:=[.string o.s,.int .i64 o.d,.int .i64 o.a,.int .i64 o.b,.int .u32 o.i,.int .i64 o.t]
def opV (o:Opx):Value:=.agg #[.string o.s,.int .i64 o.d,.int .i64 o.a,.int .i64 o.b,.int .u32 o.i,.int .i64 o.t]
structure OpsIn (w:World) (v:Value) (l:List Opx):Prop where
 sh:∃ ao cap,v=.slice ao l.length cap∧l.length≤cap∧(0<l.length→∃ b off:Nat,ao=some ⟨b,off,none⟩∧∀ (i:Nat) (o:Opx),l[i]?=some o→∀ (j:Nat) (u:Value),(opC o)[j]?=some u→w.cell? ⟨b,off+i*6+j,none⟩=some u)
 ok:∀ o∈l,o.ok
theorem OpsIn.stays {w w':World} {v:Value} {l:List Opx} (A:OpsIn w v l) (h:Below w.heap.size w w'):OpsIn w' v l:=by
 obtain ⟨ao,cap,rfl,hc,hh⟩:=A.sh
 refine ⟨⟨ao,cap,rfl,hc,fun hp=>?_⟩,A.ok⟩
 obtain ⟨b,off,rfl,hcell⟩:=hh hp
 exact ⟨b,off,rfl,fun i o hi j u hj=>by have:=hcell i o hi j u hj;rw[h.cell (World.block_lt_of_cell? _ _ this)];exact this⟩
theorem kn_eq (s:ByteArray) (k:Nat) (h1:1≤k) (h2:k<28):(s.toList==kinds.getD k [])=decide (kn s=k):=by
 rw[ByteArray.toList_eq]
 by_cases h:s.data.toList=kinds.getD k []
 ·have e:s=kindS k:=by obtain ⟨⟨l⟩⟩:=s;unfold kindS;rw[←h]
  rw[e,kn_kind k h1 h2];simp[kindS]
 ·rw[beq_eq_false_iff_ne.2 h]
  have:¬ kn s=k:=by
   intro e
   have:=kn_word (s:=s) (by omega)
   rw[e]at this
   exact h (by rw[this];simp[kindS])
  simp[this]
theorem knF (s:ByteArray) (k:Nat) (h:1≤k∧k<28∧kn s≠k):(s.toList==kinds.getD k [])=false:=by rw[kn_eq s k h.1 h.2.1];simp;exact h.2.2
theorem kn_ne {s:ByteArray} (h:kn s=0) (k:Nat) (h1:1≤k) (h2:k<28):(s.toList==kinds.getD k [])=false:=by
 rw[ByteArray.toList_eq];exact beq_eq_false_iff_ne.2 (kn_none h k h1 h2)
def erV (pe:Nat→Addr) (n:Int):Value:=if n=0 then .nilIface else .iface 332 (.pointer (some (pe n.toNat)))
structure Eg (pe:Nat→Addr) (w:World):Prop where
 e2:w.cell? ⟨0,0,none⟩=some (.iface 332 (.pointer (some (pe 2))))
 e3:w.cell? ⟨1,0,none⟩=some (.iface 332 (.pointer (some (pe 3))))
 e4:w.cell? ⟨5,0,none⟩=some (.iface 332 (.pointer (some (pe 4))))
 e8:w.cell? ⟨9,0,none⟩=some (.iface 332 (.pointer (some (pe 8))))
 e9:w.cell? ⟨2,0,none⟩=some (.iface 332 (.pointer (some (pe 9))))
 e10:w.cell? ⟨3,0,none⟩=some (.iface 332 (.pointer (some (pe 10))))
theorem Eg.stays {pe:Nat→Addr} {w w':World} (E:Eg pe w) (h:Below w.heap.size w w'):Eg pe w':=by
 have c:∀ (a:Addr) (v:Value),w.cell? a=some v→w'.cell? a=some v:=fun a v e=>by rw[h.cell (World.block_lt_of_cell? _ _ e)];exact e
 exact ⟨c _ _ E.e2,c _ _ E.e3,c _ _ E.e4,c _ _ E.e8,c _ _ E.e9,c _ _ E.e10⟩
theorem Eg.er {pe:Nat→Addr} {w:World} (E:Eg pe w):Er (pe 3) (pe 9) (pe 10) w:=⟨E.e3,E.e9,E.e10⟩
theorem Eg.size {pe:Nat→Addr} {w:World} (E:Eg pe w):0<w.heap.size∧1<w.heap.size∧5<w.heap.size∧9<w.heap.size∧2<w.heap.size∧3<w.heap.size :=
 ⟨World.block_lt_of_cell? _ _ E.e2,World.block_lt_of_cell? _ _ E.e3,World.block_lt_of_cell? _ _ E.e4,World.block_lt_of_cell? _ _ E.e8,World.block_lt_of_cell? _ _ E.e9,World.block_lt_of_cell? _ _ E.e10⟩
theorem isOut_any (o:Opx) (w:World):Calls Tryz.prog 130 #[opV o] w fun e w'=>e=.returned (.bool (outB o))∧Below w.heap.size w w':=by
 have h1:=kn_eq o.s 26 (by omega) (by omega)
 have h2:=kn_eq o.s 27 (by omega) (by omega)
 have e1:Hid (outB o=((o.s.toList==[111,117,116])||(o.s.toList==[111,117,116,114]))):=by
  show _=_
  unfold outB
  rw[show (o.s.toList==[111,117,116])=decide (kn o.s=26) from h1,show (o.s.toList==[111,117,116,114])=decide (kn o.s=27) from h2]
  simp
 clear h1 h2
 unfold opV
 go_enter Tryz.func130,Tryz.ntmps130
 go_wp2
 all_goals
  go_ret
  refine ⟨?_,(Below.refl _ _).alloc (Nat.le_refl _) _⟩
  rw[e1.out]
  simp_all
def shpV (k:Nat):Value:=.tuple #[.agg #[.int .i64 (rD k),.int .i64 (rA k),.int .i64 (rB k),.bool (rI k)],.bool (decide (k≠0))]
theorem shapeOf_1 (w:World):Calls Tryz.prog 196 #[.string ⟨#[115,101,116]⟩] w fun e w'=>e=.returned (.tuple #[.agg #[.int .i64 2,.int .i64 0,.int .i64 0,.bool true],.bool true])∧Below w.heap.size w w':=by
 go_enter Tryz.func196,Tryz.ntmps196
 go_wp2
 exact bodyPost_ret (v:=.tuple #[.agg #[.int .i64 2,.int .i64 0,.int .i64 0,.bool true],.bool true]) (by simp[results,Tryz.results196,go_sem]) rfl ⟨rfl,(Below.refl _ _).alloc (Nat.le_refl _) _⟩
theorem shapeOf_2 (w:World):Calls Tryz.prog 196 #[.string ⟨#[99,111,112,121]⟩] w fun e w'=>e=.returned (.tuple #[.agg #[.int .i64 2,.int .i64 1,.int .i64 0,.bool false],.bool true])∧Below w.heap.size w w':=by
 go_enter Tryz.func196,Tryz.ntmps196
 go_wp2
 exact bodyPost_ret (v:=.tuple #[.agg #[.int .i64 2,.int .i64 1,.int .i64 0,.bool false],.bool true]) (by simp[results,Tryz.results196,go_sem]) rfl ⟨rfl,(Below.refl _ _).alloc (Nat.le_refl _) _⟩
theorem shapeOf_3 (w:World):Calls Tryz.prog 196 #[.string ⟨#[97,100,100]⟩] w fun e w'=>e=.returned (.tuple #[.agg #[.int .i64 2,.int .i64 1,.int .i64 1,.bool false],.bool true])∧Below w.heap.size w w':=by
 go_enter Tryz.func196,Tryz.ntmps196
 go_wp2
 exact bodyPost_ret (v:=.tuple #[.agg #[.int .i64 2,.int .i64 1,.int .i64 1,.bool false],.bool true]) (by simp[results,Tryz.results196,go_sem]) rfl ⟨rfl,(Below.refl _ _).alloc (Nat.le_refl _) _⟩
theorem shapeOf_4 (w:World):Calls Tryz.prog 196 #[.string ⟨#[115,117,98]⟩] w fun e w'=>e=.returned (.tuple #[.agg #[.int .i64 2,.int .i64 1,.int .i64 1,.bool false],.bool true])∧Below w.heap.size w w':=by
 go_enter Tryz.func196,Tryz.ntmps196
 go_wp2
 exact bodyPost_ret (v:=.tuple #[.agg #[.int .i64 2,.int .i64 1,.int .i64 1,.bool false],.bool true]) (by simp[results,Tryz.results196,go_sem]) rfl ⟨rfl,(Below.refl _ _).alloc (Nat.le_refl _) _⟩
theorem shapeOf_5 (w:World):Calls Tryz.prog 196 #[.string ⟨#[97,110,100]⟩] w fun e w'=>e=.returned (.tuple #[.agg #[.int .i64 2,.int .i64 1,.int .i64 1,.bool false],.bool true])∧Below w.heap.size w w':=by
 go_enter Tryz.func196,Tryz.ntmps196
 go_wp2
 exact bodyPost_ret (v:=.tuple #[.agg #[.int .i64 2,.int .i64 1,.int .i64 1,.bool false],.bool true]) (by simp[results,Tryz.results196,go_sem]) rfl ⟨rfl,(Below.refl _ _).alloc (Nat.le_refl _) _⟩
theorem shapeOf_6 (w:World):Calls Tryz.prog 196 #[.string ⟨#[111,114]⟩] w fun e w'=>e=.returned (.tuple #[.agg #[.int .i64 2,.int .i64 1,.int .i64 1,.bool false],.bool true])∧Below w.heap.size w w':=by
 go_enter Tryz.func196,Tryz.ntmps196
 go_wp2
 exact bodyPost_ret (v:=.tuple #[.agg #[.int .i64 2,.int .i64 1,.int .i64 1,.bool false],.bool true]) (by simp[results,Tryz.results196,go_sem]) rfl ⟨rfl,(Below.refl _ _).alloc (Nat.le_refl _) _⟩
theorem shapeOf_7 (w:World):Calls Tryz.prog 196 #[.string ⟨#[120,111,114]⟩] w fun e w'=>e=.returned (.tuple #[.agg #[.int .i64 2,.int .i64 1,.int .i64 1,.bool false],.bool true])∧Below w.heap.size w w':=by
 go_enter Tryz.func196,Tryz.ntmps196
 go_wp2
 exact bodyPost_ret (v:=.tuple #[.agg #[.int .i64 2,.int .i64 1,.int .i64 1,.bool false],.bool true]) (by simp[results,Tryz.results196,go_sem]) rfl ⟨rfl,(Below.refl _ _).alloc (Nat.le_refl _) _⟩
theorem shapeOf_8 (w:World):Calls Tryz.prog 196 #[.string ⟨#[110,111,114]⟩] w fun e w'=>e=.returned (.tuple #[.agg #[.int .i64 2,.int .i64 1,.int .i64 1,.bool false],.bool true])∧Below w.heap.size w w':=by
 go_enter Tryz.func196,Tryz.ntmps196
 go_wp2
 exact bodyPost_ret (v:=.tuple #[.agg #[.int .i64 2,.int .i64 1,.int .i64 1,.bool false],.bool true]) (by simp[results,Tryz.results196,go_sem]) rfl ⟨rfl,(Below.refl _ _).alloc (Nat.le_refl _) _⟩
theorem shapeOf_9 (w:World):Calls Tryz.prog 196 #[.string ⟨#[115,108,116]⟩] w fun e w'=>e=.returned (.tuple #[.agg #[.int .i64 2,.int .i64 1,.int .i64 1,.bool false],.bool true])∧Below w.heap.size w w':=by
 go_enter Tryz.func196,Tryz.ntmps196
 go_wp2
 exact bodyPost_ret (v:=.tuple #[.agg #[.int .i64 2,.int .i64 1,.int .i64 1,.bool false],.bool true]) (by simp[results,Tryz.results196,go_sem]) rfl ⟨rfl,(Below.refl _ _).alloc (Nat.le_refl _) _⟩
theorem shapeOf_10 (w:World):Calls Tryz.prog 196 #[.string ⟨#[115,108,116,117]⟩] w fun e w'=>e=.returned (.tuple #[.agg #[.int .i64 2,.int .i64 1,.int .i64 1,.bool false],.bool true])∧Below w.heap.size w w':=by
 go_enter Tryz.func196,Tryz.ntmps196
 go_wp2
 exact bodyPost_ret (v:=.tuple #[.agg #[.int .i64 2,.int .i64 1,.int .i64 1,.bool false],.bool true]) (by simp[results,Tryz.results196,go_sem]) rfl ⟨rfl,(Below.refl _ _).alloc (Nat.le_refl _) _⟩
theorem shapeOf_11 (w:World):Calls Tryz.prog 196 #[.string ⟨#[115,104,108]⟩] w fun e w'=>e=.returned (.tuple #[.agg #[.int .i64 2,.int .i64 1,.int .i64 1,.bool false],.bool true])∧Below w.heap.size w w':=by
 go_enter Tryz.func196,Tryz.ntmps196
 go_wp2
 exact bodyPost_ret (v:=.tuple #[.agg #[.int .i64 2,.int .i64 1,.int .i64 1,.bool false],.bool true]) (by simp[results,Tryz.results196,go_sem]) rfl ⟨rfl,(Below.refl _ _).alloc (Nat.le_refl _) _⟩
theorem shapeOf_12 (w:World):Calls Tryz.prog 196 #[.string ⟨#[115,104,114]⟩] w fun e w'=>e=.returned (.tuple #[.agg #[.int .i64 2,.int .i64 1,.int .i64 1,.bool false],.bool true])∧Below w.heap.size w w':=by
 go_enter Tryz.func196,Tryz.ntmps196
 go_wp2
 exact bodyPost_ret (v:=.tuple #[.agg #[.int .i64 2,.int .i64 1,.int .i64 1,.bool false],.bool true]) (by simp[results,Tryz.results196,go_sem]) rfl ⟨rfl,(Below.refl _ _).alloc (Nat.le_refl _) _⟩
theorem shapeOf_13 (w:World):Calls Tryz.prog 196 #[.string ⟨#[115,97,114]⟩] w fun e w'=>e=.returned (.tuple #[.agg #[.int .i64 2,.int .i64 1,.int .i64 1,.bool false],.bool true])∧Below w.heap.size w w':=by
 go_enter Tryz.func196,Tryz.ntmps196
 go_wp2
 exact bodyPost_ret (v:=.tuple #[.agg #[.int .i64 2,.int .i64 1,.int .i64 1,.bool false],.bool true]) (by simp[results,Tryz.results196,go_sem]) rfl ⟨rfl,(Below.refl _ _).alloc (Nat.le_refl _) _⟩
theorem shapeOf_14 (w:World):Calls Tryz.prog 196 #[.string ⟨#[109,117,108]⟩] w fun e w'=>e=.returned (.tuple #[.agg #[.int .i64 2,.int .i64 1,.int .i64 1,.bool false],.bool true])∧Below w.heap.size w w':=by
 go_enter Tryz.func196,Tryz.ntmps196
 go_wp2
 exact bodyPost_ret (v:=.tuple #[.agg #[.int .i64 2,.int .i64 1,.int .i64 1,.bool false],.bool true]) (by simp[results,Tryz.results196,go_sem]) rfl ⟨rfl,(Below.refl _ _).alloc (Nat.le_refl _) _⟩
theorem shapeOf_15 (w:World):Calls Tryz.prog 196 #[.string ⟨#[109,117,108,104]⟩] w fun e w'=>e=.returned (.tuple #[.agg #[.int .i64 2,.int .i64 1,.int .i64 1,.bool false],.bool true])∧Below w.heap.size w w':=by
 go_enter Tryz.func196,Tryz.ntmps196
 go_wp2
 exact bodyPost_ret (v:=.tuple #[.agg #[.int .i64 2,.int .i64 1,.int .i64 1,.bool false],.bool true]) (by simp[results,Tryz.results196,go_sem]) rfl ⟨rfl,(Below.refl _ _).alloc (Nat.le_refl _) _⟩
theorem shapeOf_16 (w:World):Calls Tryz.prog 196 #[.string ⟨#[109,117,108,104,117]⟩] w fun e w'=>e=.returned (.tuple #[.agg #[.int .i64 2,.int .i64 1,.int .i64 1,.bool false],.bool true])∧Below w.heap.size w w':=by
 go_enter Tryz.func196,Tryz.ntmps196
 go_wp2
 exact bodyPost_ret (v:=.tuple #[.agg #[.int .i64 2,.int .i64 1,.int .i64 1,.bool false],.bool true]) (by simp[results,Tryz.results196,go_sem]) rfl ⟨rfl,(Below.refl _ _).alloc (Nat.le_refl _) _⟩
theorem shapeOf_17 (w:World):Calls Tryz.prog 196 #[.string ⟨#[113,117,111]⟩] w fun e w'=>e=.returned (.tuple #[.agg #[.int .i64 2,.int .i64 1,.int .i64 1,.bool false],.bool true])∧Below w.heap.size w w':=by
 go_enter Tryz.func196,Tryz.ntmps196
 go_wp2
 exact bodyPost_ret (v:=.tuple #[.agg #[.int .i64 2,.int .i64 1,.int .i64 1,.bool false],.bool true]) (by simp[results,Tryz.results196,go_sem]) rfl ⟨rfl,(Below.refl _ _).alloc (Nat.le_refl _) _⟩
theorem shapeOf_18 (w:World):Calls Tryz.prog 196 #[.string ⟨#[114,101,109]⟩] w fun e w'=>e=.returned (.tuple #[.agg #[.int .i64 2,.int .i64 1,.int .i64 1,.bool false],.bool true])∧Below w.heap.size w w':=by
 go_enter Tryz.func196,Tryz.ntmps196
 go_wp2
 exact bodyPost_ret (v:=.tuple #[.agg #[.int .i64 2,.int .i64 1,.int .i64 1,.bool false],.bool true]) (by simp[results,Tryz.results196,go_sem]) rfl ⟨rfl,(Below.refl _ _).alloc (Nat.le_refl _) _⟩
theorem shapeOf_19 (w:World):Calls Tryz.prog 196 #[.string ⟨#[113,117,111,117]⟩] w fun e w'=>e=.returned (.tuple #[.agg #[.int .i64 2,.int .i64 1,.int .i64 1,.bool false],.bool true])∧Below w.heap.size w w':=by
 go_enter Tryz.func196,Tryz.ntmps196
 go_wp2
 exact bodyPost_ret (v:=.tuple #[.agg #[.int .i64 2,.int .i64 1,.int .i64 1,.bool false],.bool true]) (by simp[results,Tryz.results196,go_sem]) rfl ⟨rfl,(Below.refl _ _).alloc (Nat.le_refl _) _⟩
theorem shapeOf_20 (w:World):Calls Tryz.prog 196 #[.string ⟨#[114,101,109,117]⟩] w fun e w'=>e=.returned (.tuple #[.agg #[.int .i64 2,.int .i64 1,.int .i64 1,.bool false],.bool true])∧Below w.heap.size w w':=by
 go_enter Tryz.func196,Tryz.ntmps196
 go_wp2
 exact bodyPost_ret (v:=.tuple #[.agg #[.int .i64 2,.int .i64 1,.int .i64 1,.bool false],.bool true]) (by simp[results,Tryz.results196,go_sem]) rfl ⟨rfl,(Below.refl _ _).alloc (Nat.le_refl _) _⟩
theorem shapeOf_21 (w:World):Calls Tryz.prog 196 #[.string ⟨#[111,118,101,114,43]⟩] w fun e w'=>e=.returned (.tuple #[.agg #[.int .i64 0,.int .i64 1,.int .i64 1,.bool false],.bool true])∧Below w.heap.size w w':=by
 go_enter Tryz.func196,Tryz.ntmps196
 go_wp2
 exact bodyPost_ret (v:=.tuple #[.agg #[.int .i64 0,.int .i64 1,.int .i64 1,.bool false],.bool true]) (by simp[results,Tryz.results196,go_sem]) rfl ⟨rfl,(Below.refl _ _).alloc (Nat.le_refl _) _⟩
theorem shapeOf_22 (w:World):Calls Tryz.prog 196 #[.string ⟨#[111,118,101,114,45]⟩] w fun e w'=>e=.returned (.tuple #[.agg #[.int .i64 0,.int .i64 1,.int .i64 1,.bool false],.bool true])∧Below w.heap.size w w':=by
 go_enter Tryz.func196,Tryz.ntmps196
 go_wp2
 exact bodyPost_ret (v:=.tuple #[.agg #[.int .i64 0,.int .i64 1,.int .i64 1,.bool false],.bool true]) (by simp[results,Tryz.results196,go_sem]) rfl ⟨rfl,(Below.refl _ _).alloc (Nat.le_refl _) _⟩
theorem shapeOf_23 (w:World):Calls Tryz.prog 196 #[.string ⟨#[108,111,97,100]⟩] w fun e w'=>e=.returned (.tuple #[.agg #[.int .i64 2,.int .i64 1,.int .i64 3,.bool true],.bool true])∧Below w.heap.size w w':=by
 go_enter Tryz.func196,Tryz.ntmps196
 go_wp2
 exact bodyPost_ret (v:=.tuple #[.agg #[.int .i64 2,.int .i64 1,.int .i64 3,.bool true],.bool true]) (by simp[results,Tryz.results196,go_sem]) rfl ⟨rfl,(Below.refl _ _).alloc (Nat.le_refl _) _⟩
theorem shapeOf_24 (w:World):Calls Tryz.prog 196 #[.string ⟨#[115,116,111,114,101]⟩] w fun e w'=>e=.returned (.tuple #[.agg #[.int .i64 4,.int .i64 1,.int .i64 1,.bool true],.bool true])∧Below w.heap.size w w':=by
 go_enter Tryz.func196,Tryz.ntmps196
 go_wp2
 exact bodyPost_ret (v:=.tuple #[.agg #[.int .i64 4,.int .i64 1,.int .i64 1,.bool true],.bool true]) (by simp[results,Tryz.results196,go_sem]) rfl ⟨rfl,(Below.refl _ _).alloc (Nat.le_refl _) _⟩
theorem shapeOf_25 (w:World):Calls Tryz.prog 196 #[.string ⟨#[105,102]⟩] w fun e w'=>e=.returned (.tuple #[.agg #[.int .i64 0,.int .i64 1,.int .i64 0,.bool true],.bool true])∧Below w.heap.size w w':=by
 go_enter Tryz.func196,Tryz.ntmps196
 go_wp2
 exact bodyPost_ret (v:=.tuple #[.agg #[.int .i64 0,.int .i64 1,.int .i64 0,.bool true],.bool true]) (by simp[results,Tryz.results196,go_sem]) rfl ⟨rfl,(Below.refl _ _).alloc (Nat.le_refl _) _⟩
theorem shapeOf_26 (w:World):Calls Tryz.prog 196 #[.string ⟨#[111,117,116]⟩] w fun e w'=>e=.returned (.tuple #[.agg #[.int .i64 0,.int .i64 0,.int .i64 0,.bool true],.bool true])∧Below w.heap.size w w':=by
 go_enter Tryz.func196,Tryz.ntmps196
 go_wp2
 exact bodyPost_ret (v:=.tuple #[.agg #[.int .i64 0,.int .i64 0,.int .i64 0,.bool true],.bool true]) (by simp[results,Tryz.results196,go_sem]) rfl ⟨rfl,(Below.refl _ _).alloc (Nat.le_refl _) _⟩
theorem shapeOf_27 (w:World):Calls Tryz.prog 196 #[.string ⟨#[111,117,116,114]⟩] w fun e w'=>e=.returned (.tuple #[.agg #[.int .i64 0,.int .i64 1,.int .i64 0,.bool false],.bool true])∧Below w.heap.size w w':=by
 go_enter Tryz.func196,Tryz.ntmps196
 go_wp2
 exact bodyPost_ret (v:=.tuple #[.agg #[.int .i64 0,.int .i64 1,.int .i64 0,.bool false],.bool true]) (by simp[results,Tryz.results196,go_sem]) rfl ⟨rfl,(Below.refl _ _).alloc (Nat.le_refl _) _⟩
theorem shapeOf_0 (s:ByteArray) (h1:(s.toList==[115,101,116])=false) (h2:(s.toList==[99,111,112,121])=false) (h3:(s.toList==[97,100,100])=false) (h4:(s.toList==[115,117,98])=false) (h5:(s.toList==[97,110,100])=false) (h6:(s.toList==[111,114])=false) (h7:(s.toList==[120,111,114])=false) (h8:(s.toList==[110,111,114])=false) (h9:(s.toList==[115,108,116])=false) (h10:(s.toList==[115,108,116,117])=false) (h11:(s.toList==[115,104,108])=false) (h12:(s.toList==[115,104,114])=false) (h13:(s.toList==[115,97,114])=false) (h14:(s.toList==[109,117,108])=false) (h15:(s.toList==[109,117,108,104])=false) (h16:(s.toList==[109,117,108,104,117])=false) (h17:(s.toList==[113,117,111])=false) (h18:(s.toList==[114,101,109])=false) (h19:(s.toList==[113,117,111,117])=false) (h20:(s.toList==[114,101,109,117])=false) (h21:(s.toList==[111,118,101,114,43])=false) (h22:(s.toList==[111,118,101,114,45])=false) (h23:(s.toList==[108,111,97,100])=false) (h24:(s.toList==[115,116,111,114,101])=false) (h25:(s.toList==[105,102])=false) (h26:(s.toList==[111,117,116])=false) (h27:(s.toList==[111,117,116,114])=false) (w:World):Calls Tryz.prog 196 #[.string s] w fun e w'=>e=.returned (.tuple #[.agg #[.int .i64 0,.int .i64 0,.int .i64 0,.bool false],.bool false])∧Below w.heap.size w w':=by
 go_enter Tryz.func196,Tryz.ntmps196
 go_wp2
 exact bodyPost_ret (v:=.tuple #[.agg #[.int .i64 0,.int .i64 0,.int .i64 0,.bool false],.bool false]) (by simp[results,Tryz.results196,go_sem]) rfl ⟨rfl,(Below.refl _ _).alloc (Nat.le_refl _) _⟩
theorem shapeOf_any (s:ByteArray) (w:World):Calls Tryz.prog 196 #[.string s] w fun e w'=>e=.returned (shpV (kn s))∧Below w.heap.size w w':=by
 by_cases h:kn s=0
 ·rw[h];exact shapeOf_0 s (kn_ne h 1 (by omega) (by omega)) (kn_ne h 2 (by omega) (by omega)) (kn_ne h 3 (by omega) (by omega)) (kn_ne h 4 (by omega) (by omega)) (kn_ne h 5 (by omega) (by omega)) (kn_ne h 6 (by omega) (by omega)) (kn_ne h 7 (by omega) (by omega)) (kn_ne h 8 (by omega) (by omega)) (kn_ne h 9 (by omega) (by omega)) (kn_ne h 10 (by omega) (by omega)) (kn_ne h 11 (by omega) (by omega)) (kn_ne h 12 (by omega) (by omega)) (kn_ne h 13 (by omega) (by omega)) (kn_ne h 14 (by omega) (by omega)) (kn_ne h 15 (by omega) (by omega)) (kn_ne h 16 (by omega) (by omega)) (kn_ne h 17 (by omega) (by omega)) (kn_ne h 18 (by omega) (by omega)) (kn_ne h 19 (by omega) (by omega)) (kn_ne h 20 (by omega) (by omega)) (kn_ne h 21 (by omega) (by omega)) (kn_ne h 22 (by omega) (by omega)) (kn_ne h 23 (by omega) (by omega)) (kn_ne h 24 (by omega) (by omega)) (kn_ne h 25 (by omega) (by omega)) (kn_ne h 26 (by omega) (by omega)) (kn_ne h 27 (by omega) (by omega)) w
 ·have hs:=kn_word h
  have hl:=kn_lt s
  generalize kn s=k at *
  subst hs
  have hk:k=1∨k=2∨k=3∨k=4∨k=5∨k=6∨k=7∨k=8∨k=9∨k=10∨k=11∨k=12∨k=13∨k=14∨k=15∨k=16∨k=17∨k=18∨k=19∨k=20∨k=21∨k=22∨k=23∨k=24∨k=25∨k=26∨k=27:=by omega
  rcases hk with rfl|rfl|rfl|rfl|rfl|rfl|rfl|rfl|rfl|rfl|rfl|rfl|rfl|rfl|rfl|rfl|rfl|rfl|rfl|rfl|rfl|rfl|rfl|rfl|rfl|rfl|rfl
  ·exact shapeOf_1 w
  ·exact shapeOf_2 w
  ·exact shapeOf_3 w
  ·exact shapeOf_4 w
  ·exact shapeOf_5 w
  ·exact shapeOf_6 w
  ·exact shapeOf_7 w
  ·exact shapeOf_8 w
  ·exact shapeOf_9 w
  ·exact shapeOf_10 w
  ·exact shapeOf_11 w
  ·exact shapeOf_12 w
  ·exact shapeOf_13 w
  ·exact shapeOf_14 w
  ·exact shapeOf_15 w
  ·exact shapeOf_16 w
  ·exact shapeOf_17 w
  ·exact shapeOf_18 w
  ·exact shapeOf_19 w
  ·exact shapeOf_20 w
  ·exact shapeOf_21 w
  ·exact shapeOf_22 w
  ·exact shapeOf_23 w
  ·exact shapeOf_24 w
  ·exact shapeOf_25 w
  ·exact shapeOf_26 w
  ·exact shapeOf_27 w
theorem allows_any (r:Nat) (hr:r≤4) (n:Int) (w:World):Calls Tryz.prog 197 #[.int .i64 r,.int .i64 n] w fun e w'=>e=.returned (.bool (alw r n))∧w'=w:=by
 have h:r=0∨r=1∨r=2∨r=3∨r=4:=by omega
 rcases h with rfl|rfl|rfl|rfl|rfl
 ·go_enter Tryz.func197,Tryz.ntmps197
  go_wp2
  go_ret
  exact ⟨rfl,rfl⟩
 ·have e:Hid (alw 1 n=(decide (0≤n)&&decide (n<64))):=rfl
  go_enter Tryz.func197,Tryz.ntmps197
  go_wp2
  all_goals
   go_ret
   refine ⟨?_,rfl⟩
   show Ending.returned (.bool _)=.returned (.bool (alw 1 n))
   rw[e.out]
   congr 2
   rw[Bool.eq_iff_iff];simp;omega
 ·have e:Hid (alw 2 n=(decide (1≤n)&&decide (n<64))):=rfl
  go_enter Tryz.func197,Tryz.ntmps197
  go_wp2
  all_goals
   go_ret
   refine ⟨?_,rfl⟩
   show Ending.returned (.bool _)=.returned (.bool (alw 2 n))
   rw[e.out]
   congr 2
   rw[Bool.eq_iff_iff];simp;omega
 ·by_cases h:n=1∨n=2∨n=4∨n=-1∨n=-2
  ·have e:Hid (alw 3 n=true):=by show _=_;unfold alw;simpa using h
   rcases h with rfl|rfl|rfl|rfl|rfl
   all_goals
    go_enter Tryz.func197,Tryz.ntmps197
    go_wp2
    go_ret
    exact ⟨rfl,rfl⟩
  ·have e:Hid (alw 3 n=false):=by show _=_;unfold alw;simpa using h
   obtain ⟨h1,h2,h3,h4,h5⟩:n≠1∧n≠2∧n≠4∧n≠-1∧n≠-2:=by omega
   have d1:(n==1)=false:=by simpa using h1
   have d2:(n==2)=false:=by simpa using h2
   have d3:(n==4)=false:=by simpa using h3
   have d4:(n==-1)=false:=by simpa using h4
   have d5:(n==-2)=false:=by simpa using h5
   clear h h1 h2 h3 h4 h5
   go_enter Tryz.func197,Tryz.ntmps197
   go_wp2
   go_ret
   exact ⟨by rw[e.out];simp,rfl⟩
 ·by_cases h:n=1∨n=2∨n=4
  ·have e:Hid (alw 4 n=true):=by show _=_;unfold alw;simpa using h
   rcases h with rfl|rfl|rfl
   all_goals
    go_enter Tryz.func197,Tryz.ntmps197
    go_wp2
    go_ret
    exact ⟨rfl,rfl⟩
  ·have e:Hid (alw 4 n=false):=by show _=_;unfold alw;simpa using h
   obtain ⟨h1,h2,h3⟩:n≠1∧n≠2∧n≠4:=by omega
   have d1:(n==1)=false:=by simpa using h1
   have d2:(n==2)=false:=by simpa using h2
   have d3:(n==4)=false:=by simpa using h3
   clear h h1 h2 h3
   go_enter Tryz.func197,Tryz.ntmps197
   go_wp2
   go_ret
   exact ⟨by rw[e.out];simp,rfl⟩
end Go.Proofs.YtflagpkmebdckaaGreatDoor
