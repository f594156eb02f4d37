
import Derived.Test.YtflagpkmebdckaaGreatDoorQCode
import Derived.Test.YtflagpkmebdckaaGreatDoorKApp
import Derived.Test.YtflagpkmebdckaaGreatDoorQIrChk3
import Derived.Test.YtflagpkmebdckaaGreatDoorKOptFns
import Derived.Test.YtflagpkmebdckaaGreatDoorKGHost1
import Derived.Test.YtflagpkmebdckaaGreatDoorKEqSt0
import Derived.Test.YtflagpkmebdckaaGreatDoorKMk4
namespace Go.Proofs.YtflagpkmebdckaaGreatDoor
open Go.RowKit Go.Maps
open Num
set_option linter.unusedVariables false
theorem CErr.block {pe:Nat→Addr} {w w':World} {f:Int × Int} {v:Value} (C:CErr pe w f v) (h:∀ fb,v=.iface 202 (.pointer (some ⟨fb,0,none⟩))→w'.heap[fb]?=w.heap[fb]?):CErr pe w' f v:=by
 rcases C with h1|⟨h1,h2,fb,h3,h4,h5⟩
 ·exact .inl h1
 ·exact .inr ⟨h1,h2,fb,h3,(World.cell?_of_block (a:=⟨fb,0,none⟩) (h fb h3)).trans h4,(World.cell?_of_block (a:=⟨fb,1,none⟩) (h fb h3)).trans h5⟩
theorem maker_lit:Tryz.zeroCells151=(Array.replicate 132 (Value.int .i64 0)).setIfInBounds 0 (.slice none 0 0):=by kernel_rfl
theorem MkC.new (w:World):MkC (w.alloc (.cells Tryz.zeroCells151 151)) w.heap.size mk0 (.slice none 0 0):=by
 refine ⟨Tryz.zeroCells151,heap_alloc_new w _,by rw[maker_lit];simp,fun j hj=>?_⟩
 rw[maker_lit]
 by_cases h0:j=0
 ·subst h0;rw[Array.getElem?_setIfInBounds_self,if_pos (by simp)];rfl
 ·rw[Array.getElem?_setIfInBounds_ne (by omega)]
  have:(Array.replicate 132 (Value.int .i64 0))[j]?=some (.int .i64 0):=by simp[hj]
  rw[this]
  have hc:(1≤j∧j<65)∨(65≤j∧j<129)∨j=129∨j=130∨j=131:=by omega
  rcases hc with hc|hc|hc|hc|hc
  ·rw[mkF_r hc.1 hc.2];rfl
  ·rw[mkF_a hc.1 hc.2];rfl
  ·subst hc;rfl
  ·subst hc;rfl
  ·subst hc;rfl
def peS (S:Nat→Addr) (n:Nat):Addr:=S (n-1)
theorem num_is (n:Nat) (h1:1≤n) (h2:n≤10):num (n-1)=(n:Int):=by unfold num;rw[if_pos (by omega)];omega
theorem set_self {w:World} {g i:Nat} {cs:Array Value} {t:TypeId} {v:Value} (h:w.heap[g]?=some (.cells cs t (0,0))) (hv:cs[i]?=some v):w.setCell ⟨g,i,none⟩ v=w:=by
 have hc:cs.setIfInBounds i v=cs:=by
  apply Array.ext_getElem?
  intro j
  rw[Array.getElem?_setIfInBounds]
  by_cases e:i=j
  ·subst e
   have hi:i<cs.size:=(Array.getElem?_eq_some_iff.1 hv).1
   simp[hi]at hv ⊢
   exact hv.symm
  ·simp[e]
 have hh:(w.setCell ⟨g,i,none⟩ v).heap=w.heap:=by
  apply Array.ext_getElem?
  intro k
  by_cases hk:k=g
  ·subst hk
   rw[heap_setCell_same w k i cs t v h,h,hc]
  ·exact heap_setCell_other _ _ _ _ hk
 show ({ w with heap:=(w.setCell ⟨g,i,none⟩ v).heap }:World)=w
 rw[hh]
theorem ram_ltG {w:World} {sb bp bw bh N:Nat} {m:Nat→Int} {wt ht:Int→Bool} (R:RamIs w sb bp bw bh N m wt ht):sb<w.heap.size∧bp<w.heap.size∧bw<w.heap.size∧bh<w.heap.size :=
 ⟨World.block_lt_of_cell? _ _ R.c0,R.ps.lt,R.ws.lt,R.hs.lt⟩
theorem st_rowG (w:World) (S:St):StRow (w.alloc (.cells (stA S) 25)) w.heap.size S :=
 ⟨stA S,heap_alloc_new w _,stA_size S,fun j hj=>stA_get S hj⟩
def hS1:St:={ zS with nx:=4 }
def hS0:St:={ hS1 with r:=fun j=>if j=1 then 5 else if j=2 then 6 else 0 }
def hL:List Opx:=[⟨kindS 2,1,2,0,0,0⟩,⟨kindS 2,2,1,0,0,0⟩,⟨kindS 26,0,0,0,8,0⟩]
def hX:Nat→Int:=setX (setX (begX hS0) 1 6) 2 5
set_option maxRecDepth 100000
set_option maxHeartbeats 2000000
theorem coded_any (S:Nat→Addr) {w:World} (EE:Errs S w) (n:Nat) (h1:1≤n) (h2:n≤10) :
  Calls Tryz.prog 20 #[.iface 332 (.pointer (some (peS S n))),.int .i64 n] w fun e w'=>e=.returned (.bool true)∧Below w.heap.size w w':=by
 have hcb:=code_bare S (S (n-1)) (n-1) _ EE (.inl ⟨by omega,rfl⟩) (EE.row (n-1) (by omega))
 rw[num_is n h1 h2]at hcb
 unfold peS
 clear EE
 generalize S (n-1)=ad at *
 have hnn:((n:Int)==(n:Int))=true:=by simp
 go_enter Tryz.func20,Tryz.ntmps20
 go_wp2_with fail
 refine hcb.mono ?_
 rintro e w1 ⟨rfl,hb⟩
 go_wp2
 go_ret
 exact ⟨rfl,hb⟩
section
variable {w : World}
end
section
variable {w : World}
end
theorem DMem.blocksP {w w':World} {rb gb kb hb:Nat} {m:Nat→Int} {wt ht:Int→Bool} (D:DMem w rb gb kb hb m wt ht) (h:∀ k,k=rb∨k=gb∨k=kb∨k=hb→w'.heap[k]?=w.heap[k]?):DMem w' rb gb kb hb m wt ht :=
 ⟨D.d.blocks fun k hk=>h k (by rcases hk with e|e|e<;>simp[e]),(World.cell?_of_block (a:=⟨rb,2,none⟩) (h rb (by simp))).trans D.c2,fun p hp=>(World.cell?_of_block (a:=⟨hb,p,none⟩) (h hb (by simp))).trans (D.hc p hp),fun p=>(World.frozen?_of_block (a:=⟨kb,p,none⟩) (h kb (by simp))).trans (D.fk p),fun p=>(World.frozen?_of_block (a:=⟨hb,p,none⟩) (h hb (by simp))).trans (D.fh p),D.ng,D.nr,D.nk,D.kr,fun p=>(World.frozen?_of_block (a:=⟨rb,p,none⟩) (h rb (by simp))).trans (D.fr p)⟩
theorem DMem.hlt {w:World} {rb gb kb hb:Nat} {m:Nat→Int} {wt ht:Int→Bool} (D:DMem w rb gb kb hb m wt ht):rb<w.heap.size∧gb<w.heap.size∧kb<w.heap.size∧hb<w.heap.size:=⟨D.d.lt (.inl rfl),D.d.lt (.inr (.inl rfl)),D.d.lt (.inr (.inr rfl)),World.block_lt_of_cell? _ _ (D.hc 0 (by omega))⟩
theorem Rn.below {w w' wz:World} {sb rb g0:Nat} {S:St} {m:Nat→Int} (R:Rn w w' sb rb g0 S m) (h:Below wz.heap.size wz w) (h1:wz.heap.size≤sb) (h2:wz.heap.size≤rb):Below wz.heap.size wz w' :=
 ⟨R.os.trans h.os,R.tape.trans h.tape,R.output.trans h.output,Nat.le_trans h.size R.sz,fun k hk=>(R.bk k (Nat.lt_of_lt_of_le hk h.size) (by omega) (by omega)).trans (h.block k hk)⟩
def ozA:Oz→Int
 | .trap t=>t
 | _=>0
def ozF:Oz→Bool
 | .fell=>true
 | _=>false
theorem runT_any {w:World} {rb gb kb hb:Nat} {m:Nat→Int} {wt ht:Int→Bool} (D:DMem w rb gb kb hb m wt ht) (sb:Nat) (S:St) (hS:StRow w sb S) (ok:S.ok) (c0:0≤S.ct) (c1:S.ct≤1099511627776) (hsr:sb≠rb) (hsg:gb≠sb) {v:Value} {rs:List (List Opx)} (R:RowsI w v rs) (F:Few rs) (many:Int) (m0:1≤many) (m1:many≤24) (hw:∀ row∈rs,∀ o∈row,opE o many=0) :
  Calls Tryz.prog 68 #[v,.int .i64 many,.pointer (some ⟨sb,0,none⟩),.pointer (some ⟨rb,0,none⟩)] w fun e w'=>e=.returned (.agg #[.bool (ozT (runZ wt rs (nwX (rgS S) 34) m)),.int .i64 (ozA (runZ wt rs (nwX (rgS S) 34) m)),.bool (ozF (runZ wt rs (nwX (rgS S) 34) m))])∧Rn w w' sb rb gb (ozS S many (runZ wt rs (nwX (rgS S) 34) m)) (ozM m (runZ wt rs (nwX (rgS S) 34) m)):=by
 refine (runOf_any D sb (stV S) hS (rgS S) (rgS_v S) (rgS_bd ok) S.ct S.pc S.nx rfl rfl rfl c0 c1 hsr R F many m0 m1 hw).mono ?_
 intro e w' h
 have hsb:=hS.lt
 have hg:=D.d.lt (.inr (.inl rfl))
 cases hz:runZ wt rs (nwX (rgS S) 34) m with
 | trap t =>
  rw[hz]at h
  obtain ⟨rfl,hb⟩:=h
  exact ⟨rfl,⟨hS.stays hb,⟨gb,(D.d.stays hb).c0,.inl rfl,fun i hi=>(D.d.stays hb).cell i hi⟩,fun k hk _ _=>hb.block k hk,hb.size,hb.os,hb.tape,hb.output⟩⟩
 | fell =>
  rw[hz]at h
  obtain ⟨rfl,hb⟩:=h
  exact ⟨rfl,⟨hS.stays hb,⟨gb,(D.d.stays hb).c0,.inl rfl,fun i hi=>(D.d.stays hb).cell i hi⟩,fun k hk _ _=>hb.block k hk,hb.size,hb.os,hb.tape,hb.output⟩⟩
 | leave M =>
  rw[hz]at h
  obtain ⟨rfl,h1,⟨gb',h2,h3,h4⟩,h5,h6,h7,h8,h9⟩:=h
  exact ⟨rfl,⟨RowIs.congrP h1 (stF_st S M many),⟨gb',h2,.inr h3,h4⟩,h5,h6,h7,h8,h9⟩⟩
end Go.Proofs.YtflagpkmebdckaaGreatDoor
