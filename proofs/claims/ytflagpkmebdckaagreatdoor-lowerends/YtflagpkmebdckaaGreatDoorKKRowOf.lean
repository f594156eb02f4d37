
import Derived.Handy
import Derived.Test.YtflagpkmebdckaaGreatDoorKOptFns
import Derived.Test.YtflagpkmebdckaaGreatDoorKKDecode
import Derived.Test.YtflagpkmebdckaaGreatDoorKRunPure
import Derived.Test.YtflagpkmebdckaaGreatDoorKKTxt
import Derived.Test.YtflagpkmebdckaaGreatDoorKMk4
import Derived.Test.YtflagpkmebdckaaGreatDoorKKRowsOf
namespace Go.Proofs.YtflagpkmebdckaaGreatDoor.K
open Go.RowKit Go.Extern.Stop Go.Stop Go.Extern
open Num Tab Fm
set_option linter.unusedVariables false
set_option maxHeartbeats 1000000
structure RowAt (b k:Nat) (w:World):Prop where
 c0:w.cell? ⟨b,k*6,none⟩=some (.string ⟨(nme k).toArray⟩)
 c1:w.cell? ⟨b,k*6+1,none⟩=some (.int .i64 (mj k))
 c2:w.cell? ⟨b,k*6+2,none⟩=some (.int .i64 (mn k))
 c3:w.cell? ⟨b,k*6+3,none⟩=some (.string ⟨(flds k).toArray⟩)
 c4:w.cell? ⟨b,k*6+4,none⟩=some (.string ⟨(ordr k).toArray⟩)
 c5:w.cell? ⟨b,k*6+5,none⟩=some (.string ⟨(kindR k).toArray⟩)
def TabAt (b:Nat) (w:World):Prop:=∀ k,k<54→RowAt b k w
theorem tabAt_alloc (w:World):TabAt w.heap.size (w.alloc (.cells rowCells 198)):=fun k hk=>by
 have h:=fun j hj=>rowCells_at k hk j hj
 have g:∀ o,(w.alloc (.cells rowCells 198)).cell? ⟨w.heap.size,o,none⟩=rowCells[o]?:=fun o=>by rw[World.cell?_alloc_at _ _ _ _ rfl]
 constructor
 ·rw[g,show k*6=6*k+0 by omega,h 0 (by omega)];rfl
 ·rw[g,show k*6+1=6*k+1 by omega,h 1 (by omega)];rfl
 ·rw[g,show k*6+2=6*k+2 by omega,h 2 (by omega)];rfl
 ·rw[g,show k*6+3=6*k+3 by omega,h 3 (by omega)];rfl
 ·rw[g,show k*6+4=6*k+4 by omega,h 4 (by omega)];rfl
 ·rw[g,show k*6+5=6*k+5 by omega,h 5 (by omega)];rfl
theorem TabAt.stays {b:Nat} {w w':World} (t:TabAt b w) (h:Below w.heap.size w w'):TabAt b w':=fun k hk=>by
 have r:=t k hk
 have s:∀ {o v},w.cell? ⟨b,o,none⟩=some v→w'.cell? ⟨b,o,none⟩=some v:=fun e=>by rw[h.cell (cell_lt e)];exact e
 exact ⟨s r.c0,s r.c1,s r.c2,s r.c3,s r.c4,s r.c5⟩
theorem rows_any' (w:World):Calls Tryz.prog 174 #[] w fun e w'=>e=.returned (.slice (some ⟨w.heap.size,0,none⟩) 54 54)∧Below w.heap.size w w'∧TabAt w.heap.size w':=by
 refine (rows_any w).mono ?_
 rintro e w' ⟨rfl,rfl⟩
 exact ⟨rfl,(Below.refl _ _).alloc (Nat.le_refl _) _,tabAt_alloc w⟩
theorem rowOf_in (k:Nat) (h0:1≤(k:Int)) (h1:(k:Int)<54) (w:World):Calls Tryz.prog 117 #[.int .i64 k] w fun e w'=>e=.returned (.agg #[.string ⟨(nme k).toArray⟩,.int .i64 (mj k),.int .i64 (mn k),.string ⟨(flds k).toArray⟩,.string ⟨(ordr k).toArray⟩,.string ⟨(kindR k).toArray⟩])∧Below w.heap.size w w':=by
 go_enter Tryz.func117,Tryz.ntmps117
 go_wp2_with fail
 refine (rows_any' _).mono ?_
 rintro e w1 ⟨rfl,hb,ht⟩
 obtain ⟨c0,c1,c2,c3,c4,c5⟩:=ht k (by omega)
 simp only[World.size_alloc]at c0 c1 c2 c3 c4 c5
 have hz:w.heap.size<w1.heap.size:=by have:=hb.size;simp at this;omega
 have bA:Below w.heap.size w w1:=((Below.refl _ _).alloc (Nat.le_refl _) _).trans (hb.mono (by simp))
 obtain ⟨d0,d1,d2,d3,d4,d5⟩:(w1.cell? ⟨w.heap.size,0,none⟩=some (.string ⟨#[]⟩))∧(w1.cell? ⟨w.heap.size,1,none⟩=some (.int .i64 0))∧(w1.cell? ⟨w.heap.size,2,none⟩=some (.int .i64 0))∧(w1.cell? ⟨w.heap.size,3,none⟩=some (.string ⟨#[]⟩))∧(w1.cell? ⟨w.heap.size,4,none⟩=some (.string ⟨#[]⟩))∧(w1.cell? ⟨w.heap.size,5,none⟩=some (.string ⟨#[]⟩)):=by
  have g:∀ o,w1.cell? ⟨w.heap.size,o,none⟩=_:=fun o=>hb.cell (p:=⟨w.heap.size,o,none⟩) (by simp)
  refine ⟨?_,?_,?_,?_,?_,?_⟩<;>(rw[g];simp)
 have f0:∀ o,w1.frozen? ⟨w.heap.size,o,none⟩=false:=fun o=>by rw[hb.frozen (p:=⟨w.heap.size,o,none⟩) (by simp)];simp
 go_wp2
 exact bodyPost_ret (v:=.agg #[.string ⟨(nme k).toArray⟩,.int .i64 (mj k),.int .i64 (mn k),.string ⟨(flds k).toArray⟩,.string ⟨(ordr k).toArray⟩,.string ⟨(kindR k).toArray⟩]) (by simp[results,Tryz.results117,go_sem,d0,d1,d2,d3,d4,d5]) rfl ⟨rfl,(((((bA.setCell (by simp) _).setCell (by simp) _).setCell (by simp) _).setCell (by simp) _).setCell (by simp) _).setCell (by simp) _⟩
theorem rowOf_out (op:Int) (h:op<1∨54≤op) (w:World):Calls Tryz.prog 117 #[.int .i64 op] w fun e w'=>e=.returned (.agg #[.string ⟨#[]⟩,.int .i64 0,.int .i64 0,.string ⟨#[]⟩,.string ⟨#[]⟩,.string ⟨#[]⟩])∧Below w.heap.size w w':=by
 rcases h with h|h
 all_goals
  try have h':¬ op<1:=by omega
  go_enter Tryz.func117,Tryz.ntmps117
  go_wp2_with fail
  refine (rows_any' _).mono ?_
  rintro e w1 ⟨rfl,hb,ht⟩
  clear ht
  have hz:w.heap.size<w1.heap.size:=by have:=hb.size;simp at this;omega
  have bA:Below w.heap.size w w1:=((Below.refl _ _).alloc (Nat.le_refl _) _).trans (hb.mono (by simp))
  obtain ⟨d0,d1,d2,d3,d4,d5⟩:(w1.cell? ⟨w.heap.size,0,none⟩=some (.string ⟨#[]⟩))∧(w1.cell? ⟨w.heap.size,1,none⟩=some (.int .i64 0))∧(w1.cell? ⟨w.heap.size,2,none⟩=some (.int .i64 0))∧(w1.cell? ⟨w.heap.size,3,none⟩=some (.string ⟨#[]⟩))∧(w1.cell? ⟨w.heap.size,4,none⟩=some (.string ⟨#[]⟩))∧(w1.cell? ⟨w.heap.size,5,none⟩=some (.string ⟨#[]⟩)):=by
   have g:∀ o,w1.cell? ⟨w.heap.size,o,none⟩=_:=fun o=>hb.cell (p:=⟨w.heap.size,o,none⟩) (by simp)
   refine ⟨?_,?_,?_,?_,?_,?_⟩<;>(rw[g];simp)
  have f0:∀ o,w1.frozen? ⟨w.heap.size,o,none⟩=false:=fun o=>by rw[hb.frozen (p:=⟨w.heap.size,o,none⟩) (by simp)];simp
  go_wp2
  exact bodyPost_ret (v:=.agg #[.string ⟨#[]⟩,.int .i64 0,.int .i64 0,.string ⟨#[]⟩,.string ⟨#[]⟩,.string ⟨#[]⟩]) (by simp[results,Tryz.results117,go_sem,d0,d1,d2,d3,d4,d5]) rfl ⟨rfl,(((((bA.setCell (by simp) _).setCell (by simp) _).setCell (by simp) _).setCell (by simp) _).setCell (by simp) _).setCell (by simp) _⟩
end Go.Proofs.YtflagpkmebdckaaGreatDoor.K
namespace Go.Proofs.YtflagpkmebdckaaGreatDoor
open Go.RowKit Go.Maps
open Num
set_option linter.unusedVariables false
set_option maxRecDepth 100000
set_option maxHeartbeats 1000000
theorem fieldKindD (a b c d e f:Value) (w:World):(Instr.field 198 (.agg #[a,b,c,d,e,f]) 5).run Tryz.prog w=.ok f w:=by kernel_rfl
theorem kdZ (k:Nat) (hk:k<54) (w:World):Calls Tryz.prog 61 #[.int .i64 k] w fun e w'=>e=.returned (.string ⟨(Tab.kind k).toArray⟩)∧Below w.heap.size w w':=by
 by_cases hz:k=0
 ·subst hz
  go_enter Tryz.func61,Tryz.ntmps61
  go_wp2
  go_ret
  exact ⟨rfl,Below.refl _ _⟩
 ·have h0:((k:Int)==0)=false:=by simp;omega
  have e:Hid (K.kindR k=Tab.kind k):=by
   show K.kindR k=_
   unfold K.kindR;rw[if_neg hz]
  have hfk:=fieldKindD
  go_enter Tryz.func61,Tryz.ntmps61
  go_wp2_with fail
  refine (K.rowOf_in k (by omega) (by omega) _).mono ?_
  rintro e w' ⟨rfl,hb⟩
  go_wp2
  go_ret
  exact ⟨by rw[←e.out];rfl,hb⟩
theorem kind_br {k:Nat}:k<54→Tab.kind k=[98,114,97,110,99,104]→(k=31∨k=32∨k=33∨k=34∨k=29∨k=30∨k=7∨k=8):=by
 have h:∀ k,k<54→Tab.kind k=[98,114,97,110,99,104]→(k=31∨k=32∨k=33∨k=34∨k=29∨k=30∨k=7∨k=8):=by decide
 exact h k
theorem kind_ld {k:Nat}:k<54→Tab.kind k=[108,111,97,100]→46≤k∧k≤53:=by
 have h:∀ k,k<54→Tab.kind k=[108,111,97,100]→46≤k∧k≤53:=by decide
 exact h k
theorem kind_st {k:Nat}:k<54→Tab.kind k=[115,116,111,114,101]→51≤k∧k≤53:=by
 have h:∀ k,k<54→Tab.kind k=[115,116,111,114,101]→51≤k∧k≤53:=by decide
 exact h k
theorem kind_sm {k:Nat}:k<54→Tab.kind k=[115,117,109]→(1≤k∧k≤6)∨(11≤k∧k≤28)∨(35≤k∧k≤42):=by
 have h:∀ k,k<54→Tab.kind k=[115,117,109]→(1≤k∧k≤6)∨(11≤k∧k≤28)∨(35≤k∧k≤42):=by decide
 exact h k
structure DBus (w:World) (base db rb gb kb hb:Nat) (b:Bs) (wt ht:Int→Bool) (vt:Value):Prop where
 c0:w.cell? ⟨db,0,none⟩=some (.pointer (some ⟨rb,0,none⟩))
 c1:w.cell? ⟨db,1,none⟩=some (.string (outS b.out))
 c2:w.cell? ⟨db,2,none⟩=some (.int .u32 b.lamp)
 c3:w.cell? ⟨db,3,none⟩=some vt
 fz:∀ j,w.frozen? ⟨db,j,none⟩=false
 rt:w.ownsRow base 187 4 vt b.tr.length (b.tr.flatMap accC)
 D:DMem w rb gb kb hb b.m wt ht
 lb:db<base
 lr:rb<base
 lg:gb<base
 lk:kb<base
 lh:hb<base
 nr:db≠rb
 ng:db≠gb
 nk:db≠kb
 nh:db≠hb
 bs:base≤w.heap.size
def DX (db gb hb:Nat) (vt:Value) (k:Nat):Prop:=k=db∨k=gb∨k=hb∨vt.ownBlock=some k
section
variable {w : World} {base db rb gb kb hb : Nat} {b : Bs} {wt ht : Int → Bool} {vt : Value}
theorem DBus.blocks {w':World} (B:DBus w base db rb gb kb hb b wt ht vt) (hz:w.heap.size≤w'.heap.size) (h:∀ k,k=db∨k=rb∨k=gb∨k=kb∨k=hb∨vt.ownBlock=some k→w'.heap[k]?=w.heap[k]?):DBus w' base db rb gb kb hb b wt ht vt:=by
 have hs:=h db (Or.inl rfl)
 have c:∀ (j:Nat) (v:Value),w.cell? ⟨db,j,none⟩=some v→w'.cell? ⟨db,j,none⟩=some v:=fun j v e=>(World.cell?_of_block (a:=⟨db,j,none⟩) hs).trans e
 exact ⟨c _ _ B.c0,c _ _ B.c1,c _ _ B.c2,c _ _ B.c3,fun j=>(World.frozen?_of_block (a:=⟨db,j,none⟩) hs).trans (B.fz j),owns_blocks B.rt (fun k e=>h k (by simp[e])),B.D.blk (fun k e=>h k (by rcases e with rfl|rfl|rfl|rfl<;>simp)),B.lb,B.lr,B.lg,B.lk,B.lh,B.nr,B.ng,B.nk,B.nh,Nat.le_trans B.bs hz⟩
theorem DBus.lt (B:DBus w base db rb gb kb hb b wt ht vt) {k:Nat} (h:k=db∨k=rb∨k=gb∨k=kb∨k=hb∨vt.ownBlock=some k):k<w.heap.size:=by
 have:=B.bs;have:=B.lb;have:=B.lr;have:=B.lg;have:=B.lk;have:=B.lh
 rcases h with rfl|rfl|rfl|rfl|rfl|h
 ·omega
 ·omega
 ·omega
 ·omega
 ·omega
 ·exact (B.rt.lt k h).2
theorem DBus.stays {w':World} (B:DBus w base db rb gb kb hb b wt ht vt) (h:Below w.heap.size w w'):DBus w' base db rb gb kb hb b wt ht vt:=B.blocks h.size fun k hk=>h.block k (B.lt hk)
theorem DBus.kept {w':World} {X:Nat→Prop} (B:DBus w base db rb gb kb hb b wt ht vt) (h:Kept w w' X) (hx:∀ k,k=db∨k=rb∨k=gb∨k=kb∨k=hb∨vt.ownBlock=some k→¬ X k):DBus w' base db rb gb kb hb b wt ht vt:=B.blocks h.size fun k hk=>h.block k (B.lt hk) (hx k hk)
theorem DX.mem {db gb hb:Nat} {vt:Value} {w w':World} (h:Kept w w' (fun k=>k=gb∨k=hb)):Kept w w' (DX db gb hb vt):=h.mono fun k hk=>hk.elim (fun e=>Or.inr (Or.inl e)) (fun e=>Or.inr (Or.inr (Or.inl e)))
theorem DX.trans {w w1 w2:World} {vt':Value} (t:Kept w w1 (DX db gb hb vt)) (u:Kept w1 w2 (DX db gb hb vt')) (hm:Moved w vt vt'):Kept w w2 (DX db gb hb vt) :=
 t.trans u fun k hk h=>by
  rcases h with h|h|h|h
  ·exact Or.inl h
  ·exact Or.inr (Or.inl h)
  ·exact Or.inr (Or.inr (Or.inl h))
  ·rcases hm k h with e|e
   ·exact Or.inr (Or.inr (Or.inr e))
   ·exact absurd hk (by omega)
theorem DBus.own {w':World} {m':Nat→Int} {ht':Int→Bool} (B:DBus w base db rb gb kb hb b wt ht vt) (D:DMem w' rb gb kb hb m' wt ht') (t:Kept w w' (fun k=>k=gb∨k=hb)):DBus w' base db rb gb kb hb { b with m:=m' } wt ht' vt:=by
 have hs:=t.block db (Nat.lt_of_lt_of_le B.lb B.bs) (by have:=B.ng;have:=B.nh;simp;omega)
 have c:∀ (j:Nat) (v:Value),w.cell? ⟨db,j,none⟩=some v→w'.cell? ⟨db,j,none⟩=some v:=fun j v e=>(World.cell?_of_block (a:=⟨db,j,none⟩) hs).trans e
 exact ⟨c _ _ B.c0,c _ _ B.c1,c _ _ B.c2,c _ _ B.c3,fun j=>(World.frozen?_of_block (a:=⟨db,j,none⟩) hs).trans (B.fz j),owns_blocks B.rt (fun k e=>t.block k (B.rt.lt k e).2 (by have:=(B.rt.lt k e).1;have:=B.lg;have:=B.lh;simp;omega)),D,B.lb,B.lr,B.lg,B.lk,B.lh,B.nr,B.ng,B.nk,B.nh,Nat.le_trans B.bs t.size⟩
theorem DBus.putTr (B:DBus w base db rb gb kb hb b wt ht vt) {o:Obj} {w1:World} {v':Value} {x:Acc} (ho:w1.ownsRow base 187 4 v' (b.tr.length+1) (b.tr.flatMap accC++accC x)) (hg:(w.alloc o).grownBy w1 vt.ownBlock) (hm:Moved (w.alloc o) vt v') :
  (w1.cell? ⟨db,3,none⟩=some vt∧w1.frozen? ⟨db,3,none⟩=false)∧DBus (w1.setCell ⟨db,3,none⟩ v') base db rb gb kb hb { b with tr:=b.tr++[x] } wt ht v'∧Kept w (w1.setCell ⟨db,3,none⟩ v') (DX db gb hb vt)∧Moved w vt v':=by
 have hz:w.heap.size<w1.heap.size:=by have:=hg.size;simp at this;omega
 have hmw:Moved w vt v':=fun k hk=>(hm k hk).imp id (fun h=>by simp at h;omega)
 have hk:∀ k,k<w.heap.size→vt.ownBlock≠some k→w1.heap[k]?=w.heap[k]?:=fun k hk h=>(hg.block k (by simp;omega) (fun e=>h e.symm)).trans (Below.heap_alloc w o k hk)
 have hlow:∀ k,k<base→w1.heap[k]?=w.heap[k]?:=fun k hb=>hk k (by have:=B.bs;omega) (fun e=>by have:=(B.rt.lt k e).1;omega)
 have hs:=hlow db B.lb
 have c:∀ (j:Nat) (v:Value),w.cell? ⟨db,j,none⟩=some v→w1.cell? ⟨db,j,none⟩=some v:=fun j v e=>(World.cell?_of_block (a:=⟨db,j,none⟩) hs).trans e
 have f:∀ j,w1.frozen? ⟨db,j,none⟩=false:=fun j=>(World.frozen?_of_block (a:=⟨db,j,none⟩) hs).trans (B.fz j)
 have oth:∀ (j:Nat) (v:Value),j≠3→w.cell? ⟨db,j,none⟩=some v→(w1.setCell ⟨db,3,none⟩ v').cell? ⟨db,j,none⟩=some v:=fun j v hj e=>by
  rw[World.cell?_setCell_other _ _ _ _ (by intro e;injection e with e1 e2;exact hj e2.symm)];exact c j v e
 have blk:∀ k,k≠db→(w1.setCell ⟨db,3,none⟩ v').heap[k]?=w1.heap[k]?:=fun k h=>Below.heap_setCell w1 ⟨db,3,none⟩ v' k h
 refine ⟨⟨c _ _ B.c3,f 3⟩,⟨oth 0 _ (by omega) B.c0,oth 1 _ (by omega) B.c1,oth 2 _ (by omega) B.c2,World.cell?_setCell_same _ _ _ (c _ _ B.c3),fun j=>by rw[World.frozen?_setCell];exact f j,?_,?_,B.lb,B.lr,B.lg,B.lk,B.lh,B.nr,B.ng,B.nk,B.nh,?_⟩,?_,hmw⟩
 ·show World.ownsRow _ _ _ _ _ (b.tr++[x]).length ((b.tr++[x]).flatMap accC)
  rw[List.length_append,←trC_add]
  refine owns_blocks ho fun k e=>blk k ?_
  have:=(ho.lt k e).1;have:=B.lb;omega
 ·refine B.D.blk fun k e=>?_
  have h1:=B.nr;have h2:=B.ng;have h3:=B.nk;have h4:=B.nh;have l1:=B.lr;have l2:=B.lg;have l3:=B.lk;have l4:=B.lh
  rcases e with rfl|rfl|rfl|rfl
  ·exact (blk _ (Ne.symm h1)).trans (hlow _ l1)
  ·exact (blk _ (Ne.symm h2)).trans (hlow _ l2)
  ·exact (blk _ (Ne.symm h3)).trans (hlow _ l3)
  ·exact (blk _ (Ne.symm h4)).trans (hlow _ l4)
 ·have:=B.bs;simp;omega
 ·exact ⟨hg.os,hg.tape,hg.output,by simp;omega,fun k hkk hx=>(blk k (fun e=>hx (Or.inl e))).trans (hk k hkk (fun e=>hx (Or.inr (Or.inr (Or.inr e)))))⟩
theorem DBus.putLamp (B:DBus w base db rb gb kb hb b wt ht vt) (x:Int):DBus (w.setCell ⟨db,2,none⟩ (.int .u32 x)) base db rb gb kb hb { b with lamp:=x } wt ht vt∧Kept w (w.setCell ⟨db,2,none⟩ (.int .u32 x)) (DX db gb hb vt):=by
 have oth:∀ (j:Nat) (v:Value),j≠2→w.cell? ⟨db,j,none⟩=some v→(w.setCell ⟨db,2,none⟩ (.int .u32 x)).cell? ⟨db,j,none⟩=some v:=fun j v hj e=>by
  rw[World.cell?_setCell_other _ _ _ _ (by intro e;injection e with e1 e2;exact hj e2.symm)];exact e
 have blk:∀ k,k≠db→(w.setCell ⟨db,2,none⟩ (.int .u32 x)).heap[k]?=w.heap[k]?:=fun k h=>Below.heap_setCell w ⟨db,2,none⟩ _ k h
 refine ⟨⟨oth 0 _ (by omega) B.c0,oth 1 _ (by omega) B.c1,World.cell?_setCell_same _ _ _ B.c2,oth 3 _ (by omega) B.c3,fun j=>by rw[World.frozen?_setCell];exact B.fz j,?_,?_,B.lb,B.lr,B.lg,B.lk,B.lh,B.nr,B.ng,B.nk,B.nh,?_⟩,?_⟩
 ·exact owns_blocks B.rt fun k e=>blk k (by have:=(B.rt.lt k e).1;have:=B.lb;omega)
 ·refine B.D.blk fun k e=>?_
  have h1:=B.nr;have h2:=B.ng;have h3:=B.nk;have h4:=B.nh
  rcases e with rfl|rfl|rfl|rfl
  ·exact blk _ (Ne.symm h1)
  ·exact blk _ (Ne.symm h2)
  ·exact blk _ (Ne.symm h3)
  ·exact blk _ (Ne.symm h4)
 ·have:=B.bs;simp;omega
 ·exact Kept.setCell w ⟨db,2,none⟩ _ _ (Or.inl rfl)
theorem DBus.putOut (B:DBus w base db rb gb kb hb b wt ht vt) (x:Int):DBus (w.setCell ⟨db,1,none⟩ (.string (outS (b.out++[x])))) base db rb gb kb hb { b with out:=b.out++[x] } wt ht vt∧Kept w (w.setCell ⟨db,1,none⟩ (.string (outS (b.out++[x])))) (DX db gb hb vt):=by
 have oth:∀ (j:Nat) (v:Value),j≠1→w.cell? ⟨db,j,none⟩=some v→(w.setCell ⟨db,1,none⟩ (.string (outS (b.out++[x])))).cell? ⟨db,j,none⟩=some v:=fun j v hj e=>by
  rw[World.cell?_setCell_other _ _ _ _ (by intro e;injection e with e1 e2;exact hj e2.symm)];exact e
 have blk:∀ k,k≠db→(w.setCell ⟨db,1,none⟩ (.string (outS (b.out++[x])))).heap[k]?=w.heap[k]?:=fun k h=>Below.heap_setCell w ⟨db,1,none⟩ _ k h
 refine ⟨⟨oth 0 _ (by omega) B.c0,World.cell?_setCell_same _ _ _ B.c1,oth 2 _ (by omega) B.c2,oth 3 _ (by omega) B.c3,fun j=>by rw[World.frozen?_setCell];exact B.fz j,?_,?_,B.lb,B.lr,B.lg,B.lk,B.lh,B.nr,B.ng,B.nk,B.nh,?_⟩,?_⟩
 ·exact owns_blocks B.rt fun k e=>blk k (by have:=(B.rt.lt k e).1;have:=B.lb;omega)
 ·refine B.D.blk fun k e=>?_
  have h1:=B.nr;have h2:=B.ng;have h3:=B.nk;have h4:=B.nh
  rcases e with rfl|rfl|rfl|rfl
  ·exact blk _ (Ne.symm h1)
  ·exact blk _ (Ne.symm h2)
  ·exact blk _ (Ne.symm h3)
  ·exact blk _ (Ne.symm h4)
 ·have:=B.bs;simp;omega
 ·exact Kept.setCell w ⟨db,1,none⟩ _ _ (Or.inl rfl)
end
set_option maxHeartbeats 2000000
theorem outS_add (out:List Int) (x:Int):outS out++⟨#[UInt8.ofNat x.toNat]⟩=outS (out++[x]):=by
 apply ByteArray.ext
 simp[outS,strOfNums]
theorem hcell (n:Int) (w:World):∀ i,i<1→(w.alloc (.cells #[.int .u8 n] 5)).cell? ⟨w.heap.size,0+i,none⟩=some (.int .u8 ([n].getD i 0)):=by
 intro i hi
 have h:i=0:=by omega
 subst h;simp
theorem byte_any (n:Int) (h0:0≤n) (h1:n<256) (w:World):Calls Tryz.prog 244 #[.int .i64 n] w fun e w'=>e=.returned (.string ⟨#[UInt8.ofNat n.toNat]⟩)∧w'=w.alloc (.cells #[.int .u8 n] 5):=by
 have hcv:(convert 92 9 (.slice (some ⟨w.heap.size,0,none⟩) 1 1)).run Tryz.prog (w.alloc (.cells #[.int .u8 n] 5))=.ok (.string ⟨#[UInt8.ofNat n.toNat]⟩) (w.alloc (.cells #[.int .u8 n] 5)):=by
  have:=run_convert_bytes_arg (P:=Tryz.prog) (w.alloc (.cells #[.int .u8 n] 5)) 92 5 Tryz.underlying92 Tryz.underlying5 w.heap.size 0 1 1 [n] rfl (hcell n w) 9 Tryz.underlying9
  rw[this];rfl
 go_enter Tryz.func244,Tryz.ntmps244
 go_wp2
 go_ret
 exact ⟨rfl,rfl⟩
section
variable {w : World} {base db rb gb kb hb : Nat} {b : Bs} {wt ht : Int → Bool} {vt : Value}
theorem dbstore_mem (B:DBus w base db rb gb kb hb b wt ht vt) (a s v c:Int) (h0:0≤a) (ha:a<16384) (v0:0≤v) (v1:v<4294967296) (hc:chk a s=0) :
  Calls Tryz.prog 234 #[.pointer (some ⟨db,0,none⟩),.int .u32 a,.int .i64 s,.int .u32 v,.int .i64 c] w fun e w'=>e=.returned (.int .i64 0)∧DBus w' base db rb gb kb hb { b with m:=upd b.m a s v } wt (hitN wt ht a) vt∧Kept w w' (DX db gb hb vt):=by
 have hst:=dstoreH_ok B.D a s v h0 (by omega) v0 v1 hc
 have c0:=B.c0
 have BH:Hid (DBus w base db rb gb kb hb b wt ht vt):=B
 clear B hc
 go_enter Tryz.func234,Tryz.ntmps234
 go_wp2_with fail
 refine hst.mono ?_
 rintro e w2 ⟨rfl,D2,G2⟩
 clear hst
 go_wp2
 go_ret
 exact ⟨rfl,BH.out.own D2 G2,DX.mem G2⟩
theorem dbstore_low (B:DBus w base db rb gb kb hb b wt ht vt) (a s v c:Int) (h0:0≤a) (ha:a<16384) (s0:-9223372036854775808≤s) (s1:s≤9223372036854775807) (hc:chk a s≠0) :
  Calls Tryz.prog 234 #[.pointer (some ⟨db,0,none⟩),.int .u32 a,.int .i64 s,.int .u32 v,.int .i64 c] w fun e w'=>e=.returned (.int .i64 (rc a s))∧w'=w:=by
 have hst:=dstore_no w (.pointer (some ⟨rb,0,none⟩)) a s v h0 (by omega) s0 s1 hc
 have c0:=B.c0
 clear B hc
 generalize rc a s=r at *
 go_enter Tryz.func234,Tryz.ntmps234
 go_wp2_with fail
 refine hst.mono ?_
 rintro e w2 ⟨rfl,rfl⟩
 clear hst
 go_wp2
 go_ret
 exact ⟨rfl,rfl⟩
theorem dbstore_high (w:World) (p:Value) (a s v c:Int) (ha:16384≤a) (h1:a<4294967296) (s0:-9223372036854775808≤s) (s1:s≤9223372036854775807) (hd:dev a s=false) (hc:chk a s≠0) :
  Calls Tryz.prog 234 #[p,.int .u32 a,.int .i64 s,.int .u32 v,.int .i64 c] w fun e w'=>e=.returned (.int .i64 (rc a s))∧w'=w:=by
 have hst:=devErr_any a s ha h1 s0 s1 w
 rw[if_neg (by rw[hd];decide)]at hst
 have hp:=rc_no hc
 clear hc hd
 generalize rc a s=r at *
 go_enter Tryz.func234,Tryz.ntmps234
 go_wp2_with fail
 refine hst.mono ?_
 rintro e w2 ⟨rfl,rfl⟩
 clear hst
 go_wp2
 go_ret
 exact ⟨rfl,rfl⟩
theorem dbstore_dev (B:DBus w base db rb gb kb hb b wt ht vt) (a s v c:Int) (h0:0≤a) (h1:a<4294967296) (s0:-9223372036854775808≤s) (s1:s≤9223372036854775807) (v0:0≤v) (v1:v<4294967296) (hn:b.out.length≤1000) (hn2:b.tr.length≤1000) (hd:dev a s=true) :
  Calls Tryz.prog 234 #[.pointer (some ⟨db,0,none⟩),.int .u32 a,.int .i64 s,.int .u32 v,.int .i64 c] w fun e w'=>e=.returned (.int .i64 0)∧∃ vt',DBus w' base db rb gb kb hb ⟨b.m,outN b.out a v,lampN b.lamp a v,b.tr++[⟨c,true,a,v⟩]⟩ wt ht vt'∧Kept w w' (DX db gb hb vt)∧Moved w vt vt':=by
 obtain ⟨i0,hi,hz0,hz1,hz2⟩:=info_parts info55
 have ha:16384≤a:=by unfold dev at hd;simp at hd;omega
 have hst:=devErr_any a s ha h1 s0 s1 w
 rw[if_pos hd]at hst
 clear hd
 have BH:Hid (DBus w base db rb gb kb hb b wt ht vt):=B
 clear B
 go_enter Tryz.func234,Tryz.ntmps234
 go_wp2_with fail
 refine hst.mono ?_
 rintro e w' ⟨rfl,rfl⟩
 clear hst
 by_cases hA:a=65536
 ·have HO:Hid (outN b.out a v=b.out++[v%256]∧lampN b.lamp a v=b.lamp):=⟨by unfold outN;rw[if_pos hA],by unfold lampN;rw[if_neg (by omega)]⟩
  have e1:(a==65536)=true:=by simpa using hA
  clear hA
  have c1:=BH.out.c1
  have f1:=BH.out.fz 1
  have hpa:∀ W:World,Calls Tryz.prog 46 #[.int .u32 v,.int .i64 0,.int .i64 8] W fun e w'=>e=.returned (.int .i64 (v%256))∧w'=W:=by
   intro W
   have:=part_any v 0 8 v0 v1 (by omega) (by omega) (by omega) (by omega) W
   rwa [pw8,show pw 0=1 by decide,Int.ediv_one]at this
  have hby:=fun W=>byte_any (v%256) (by omega) (by omega) W
  obtain ⟨l,hl,hll⟩:∃ l:List UInt8,outS b.out=⟨l.toArray⟩∧(l.length:Int)≤1000:=⟨b.out.map fun n=>UInt8.ofNat n.toNat,rfl,by simp;omega⟩
  have HL:Hid (outS b.out=⟨l.toArray⟩):=hl
  have hdb:db<w'.heap.size:=BH.out.lt (Or.inl rfl)
  rw[hl]at c1
  clear hl
  go_upto_region 8 with fail
  go_region_with (first|(go_at_call 46;refine (hpa _).mono ?_;rintro e w2 ⟨rfl,rfl⟩)|(go_at_call 244;refine (hby _).mono ?_;rintro e w2 ⟨rfl,rfl⟩))
  all_goals
   have hS:(⟨l.toArray⟩:ByteArray)++⟨#[UInt8.ofNat (v%256).toNat]⟩=outS (b.out++[v%256]):=by rw[←HL.out];exact outS_add b.out _
   rw[hS]
   have P1:=BH.out.putOut (v%256)
   have hA:Below (w'.setCell ⟨db,1,none⟩ (.string (outS (b.out++[v%256])))).heap.size (w'.setCell ⟨db,1,none⟩ (.string (outS (b.out++[v%256])))) (((w'.setCell ⟨db,1,none⟩ (.string (outS (b.out++[v%256])))).alloc (.cells #[.int .u8 (v%256)] 5)).drew):=below_drew ((Below.refl _ _).alloc (Nat.le_refl _) _)
   have B1:Hid (DBus (((w'.setCell ⟨db,1,none⟩ (.string (outS (b.out++[v%256])))).alloc (.cells #[.int .u8 (v%256)] 5)).drew) base db rb gb kb hb { b with out:=b.out++[v%256] } wt ht vt):=P1.1.stays hA
   have T1:Hid (Kept w' (((w'.setCell ⟨db,1,none⟩ (.string (outS (b.out++[v%256])))).alloc (.cells #[.int .u8 (v%256)] 5)).drew) (DX db gb hb vt)):=by
    have t:=P1.2
    exact t.trans (Kept.of_below (DX db gb hb vt) hA) (fun _ _ h=>h)
   clear P1 hA hS hpa hby c1 f1 HL hll
   generalize ((w'.setCell ⟨db,1,none⟩ (.string (outS (b.out++[v%256])))).alloc (.cells #[.int .u8 (v%256)] 5)).drew=w1 at *
   clear BH
   have c3:=B1.out.c3
   have hbs:base≤w1.heap.size:=B1.out.bs
   have hnews:=acc_cells w1 ⟨c,true,a,v⟩
   go_wp2_with (at_builtin;refine wpList_append_moved rfl _ _ 37 rfl base 187 i0 (.agg #[.int .i64 0,.bool false,.int .u32 0,.int .u32 0]) 4 24 Tryz.underlying37 hi hz0 hz1 hz2 rfl (by decide) vt b.tr.length (b.tr.flatMap accC) rfl (B1.out.rt.alloc _) ⟨w1.heap.size,0,none⟩ 1 1 (accC ⟨c,true,a,v⟩) rfl rfl hnews (by simp[Value.oneCell',accC]) (by unfold maxLen;omega) (by omega) (by simp;omega) ?_;intro v' w2 ho hg hm;obtain ⟨g',cap',rfl⟩:=owns_pos ho;have hp:=B1.out.putTr ho hg hm;obtain ⟨⟨hc1,hf1⟩,hp2⟩:=hp)
   go_ret
   exact ⟨rfl,_,by rw[HO.out.1,HO.out.2];exact hp2.1,T1.out.trans hp2.2.1 (fun _ _ h=>h),fun k hk=>(hp2.2.2 k hk).imp id (fun h=>Nat.le_trans T1.out.size h)⟩
 ·have e1:(a==65536)=false:=by simpa using hA
  by_cases hB:a=65544
  ·have HO:Hid (outN b.out a v=b.out∧lampN b.lamp a v=v):=⟨by unfold outN;rw[if_neg hA],by unfold lampN;rw[if_pos hB]⟩
   have e2:(a==65544)=true:=by simpa using hB
   clear hA hB
   have c2:=BH.out.c2
   have f2:=BH.out.fz 2
   go_upto_region 11 with fail
   have B1:Hid (DBus (w'.setCell ⟨db,2,none⟩ (.int .u32 v)) base db rb gb kb hb { b with lamp:=v } wt ht vt):=(BH.out.putLamp v).1
   have T1:Hid (Kept w' (w'.setCell ⟨db,2,none⟩ (.int .u32 v)) (DX db gb hb vt)):=(BH.out.putLamp v).2
   clear c2 f2
   generalize w'.setCell ⟨db,2,none⟩ (.int .u32 v)=w1 at *
   clear BH
   have c3:=B1.out.c3
   have hbs:base≤w1.heap.size:=B1.out.bs
   have hnews:=acc_cells w1 ⟨c,true,a,v⟩
   go_wp2_with (at_builtin;refine wpList_append_moved rfl _ _ 37 rfl base 187 i0 (.agg #[.int .i64 0,.bool false,.int .u32 0,.int .u32 0]) 4 24 Tryz.underlying37 hi hz0 hz1 hz2 rfl (by decide) vt b.tr.length (b.tr.flatMap accC) rfl (B1.out.rt.alloc _) ⟨w1.heap.size,0,none⟩ 1 1 (accC ⟨c,true,a,v⟩) rfl rfl hnews (by simp[Value.oneCell',accC]) (by unfold maxLen;omega) (by omega) (by simp;omega) ?_;intro v' w2 ho hg hm;obtain ⟨g',cap',rfl⟩:=owns_pos ho;have hp:=B1.out.putTr ho hg hm;obtain ⟨⟨hc1,hf1⟩,hp2⟩:=hp)
   go_ret
   exact ⟨rfl,_,by rw[HO.out.1,HO.out.2];exact hp2.1,T1.out.trans hp2.2.1 (fun _ _ h=>h),fun k hk=>(hp2.2.2 k hk).imp id (fun h=>Nat.le_trans T1.out.size h)⟩
  ·have HO:Hid (outN b.out a v=b.out∧lampN b.lamp a v=b.lamp):=⟨by unfold outN;rw[if_neg hA],by unfold lampN;rw[if_neg hB]⟩
   have e2:(a==65544)=false:=by simpa using hB
   clear hA hB
   go_upto_region 11 with fail
   obtain ⟨w1,hw1⟩:∃ w1,w1=w':=⟨_,rfl⟩
   have B1:Hid (DBus w1 base db rb gb kb hb b wt ht vt):=by rw[hw1];exact BH.out
   have T1:Hid (Kept w' w1 (DX db gb hb vt)):=by rw[hw1];exact Kept.refl _ _
   rw[←hw1]
   clear hw1
   clear BH
   have c3:=B1.out.c3
   have hbs:base≤w1.heap.size:=B1.out.bs
   have hnews:=acc_cells w1 ⟨c,true,a,v⟩
   go_wp2_with (at_builtin;refine wpList_append_moved rfl _ _ 37 rfl base 187 i0 (.agg #[.int .i64 0,.bool false,.int .u32 0,.int .u32 0]) 4 24 Tryz.underlying37 hi hz0 hz1 hz2 rfl (by decide) vt b.tr.length (b.tr.flatMap accC) rfl (B1.out.rt.alloc _) ⟨w1.heap.size,0,none⟩ 1 1 (accC ⟨c,true,a,v⟩) rfl rfl hnews (by simp[Value.oneCell',accC]) (by unfold maxLen;omega) (by omega) (by simp;omega) ?_;intro v' w2 ho hg hm;obtain ⟨g',cap',rfl⟩:=owns_pos ho;have hp:=B1.out.putTr ho hg hm;obtain ⟨⟨hc1,hf1⟩,hp2⟩:=hp)
   go_ret
   exact ⟨rfl,_,by rw[HO.out.1,HO.out.2];exact hp2.1,T1.out.trans hp2.2.1 (fun _ _ h=>h),fun k hk=>(hp2.2.2 k hk).imp id (fun h=>Nat.le_trans T1.out.size h)⟩
theorem dbload_mem (B:DBus w base db rb gb kb hb b wt ht vt) (a s c:Int) (sgn:Bool) (h0:0≤a) (ha:a<16384) (hc:chk a s=0) :
  Calls Tryz.prog 233 #[.pointer (some ⟨db,0,none⟩),.int .u32 a,.int .i64 s,.bool sgn,.int .i64 c] w fun e w'=>e=.returned (.tuple #[.int .u32 (ld b.m a s sgn),.int .i64 0])∧w'=w:=by
 have hst:=dload_ok B.D.d a s sgn h0 (by omega) hc
 have c0:=B.c0
 clear B hc
 go_enter Tryz.func233,Tryz.ntmps233
 go_wp2_with fail
 refine hst.mono ?_
 rintro e w2 ⟨rfl,rfl⟩
 clear hst
 go_wp2
 go_ret2
 exact ⟨rfl,rfl⟩
theorem dbload_low (B:DBus w base db rb gb kb hb b wt ht vt) (a s c:Int) (sgn:Bool) (h0:0≤a) (ha:a<16384) (s0:-9223372036854775808≤s) (s1:s≤9223372036854775807) (hc:chk a s≠0) :
  Calls Tryz.prog 233 #[.pointer (some ⟨db,0,none⟩),.int .u32 a,.int .i64 s,.bool sgn,.int .i64 c] w fun e w'=>e=.returned (.tuple #[.int .u32 0,.int .i64 (rc a s)])∧w'=w:=by
 have hst:=dload_no w (.pointer (some ⟨rb,0,none⟩)) a s sgn h0 (by omega) s0 s1 hc
 have c0:=B.c0
 clear B hc
 generalize rc a s=r at *
 go_enter Tryz.func233,Tryz.ntmps233
 go_wp2_with fail
 refine hst.mono ?_
 rintro e w2 ⟨rfl,rfl⟩
 clear hst
 go_wp2
 go_ret2
 exact ⟨rfl,rfl⟩
theorem dbload_high (w:World) (p:Value) (a s c:Int) (sgn:Bool) (ha:16384≤a) (h1:a<4294967296) (s0:-9223372036854775808≤s) (s1:s≤9223372036854775807) (hd:dev a s=false) (hc:chk a s≠0) :
  Calls Tryz.prog 233 #[p,.int .u32 a,.int .i64 s,.bool sgn,.int .i64 c] w fun e w'=>e=.returned (.tuple #[.int .u32 0,.int .i64 (rc a s)])∧w'=w:=by
 have hst:=devErr_any a s ha h1 s0 s1 w
 rw[if_neg (by rw[hd];decide)]at hst
 have hp:=rc_no hc
 clear hc hd
 generalize rc a s=r at *
 go_enter Tryz.func233,Tryz.ntmps233
 go_wp2_with fail
 refine hst.mono ?_
 rintro e w2 ⟨rfl,rfl⟩
 clear hst
 go_wp2
 go_ret2
 exact ⟨rfl,rfl⟩
theorem dbload_dev (B:DBus w base db rb gb kb hb b wt ht vt) (a s c:Int) (sgn:Bool) (h0:0≤a) (h1:a<4294967296) (s0:-9223372036854775808≤s) (s1:s≤9223372036854775807) (q0:-9223372036854775808≤c) (q1:c≤9223372036854775807) (hn2:b.tr.length≤1000) (hd:dev a s=true) :
  Calls Tryz.prog 233 #[.pointer (some ⟨db,0,none⟩),.int .u32 a,.int .i64 s,.bool sgn,.int .i64 c] w fun e w'=>e=.returned (.tuple #[.int .u32 (devV a c b.lamp),.int .i64 0])∧∃ vt',DBus w' base db rb gb kb hb ⟨b.m,b.out,b.lamp,b.tr++[⟨c,false,a,devV a c b.lamp⟩]⟩ wt ht vt'∧Kept w w' (DX db gb hb vt)∧Moved w vt vt':=by
 obtain ⟨i0,hi,hz0,hz1,hz2⟩:=info_parts info55
 have ha:16384≤a:=by unfold dev at hd;simp at hd;omega
 have hst:=devErr_any a s ha h1 s0 s1 w
 rw[if_pos hd]at hst
 clear hd
 have hwd:=wdA c q0 q1 w
 have BH:Hid (DBus w base db rb gb kb hb b wt ht vt):=B
 have c2:=B.c2
 have c3:=B.c3
 have hbs:base≤w.heap.size:=B.bs
 clear B
 by_cases hA:a=65540
 ·have HV:Hid (devV a c b.lamp=lo c):=by show _=_;unfold devV lo;rw[if_pos hA]
  have e1:(a==65540)=true:=by simpa using hA
  have hnews:=acc_cells w ⟨c,false,a,lo c⟩
  rw[HV.out]
  clear hA
  generalize lo c=dv at *
  go_enter Tryz.func233,Tryz.ntmps233
  go_wp2_with fail
  refine hst.mono ?_
  rintro e w' ⟨rfl,rfl⟩
  clear hst
  go_wp2_with fail
  refine hwd.mono ?_
  rintro e w'' ⟨rfl,rfl⟩
  clear hwd
  go_wp2_with (at_builtin;refine wpList_append_moved rfl _ _ 37 rfl base 187 i0 (.agg #[.int .i64 0,.bool false,.int .u32 0,.int .u32 0]) 4 24 Tryz.underlying37 hi hz0 hz1 hz2 rfl (by decide) vt b.tr.length (b.tr.flatMap accC) rfl (BH.out.rt.alloc _) ⟨_,0,none⟩ 1 1 (accC ⟨c,false,a,dv⟩) rfl rfl hnews (by simp[Value.oneCell',accC]) (by unfold maxLen;omega) (by omega) (by simp;omega) ?_;intro v' w2 ho hg hm;obtain ⟨g',cap',rfl⟩:=owns_pos ho;have hp:=BH.out.putTr ho hg hm;obtain ⟨⟨hc1,hf1⟩,hp2⟩:=hp)
  go_ret2
  exact ⟨rfl,_,hp2.1,hp2.2.1,hp2.2.2⟩
 ·have e1:(a==65540)=false:=by simpa using hA
  by_cases hB:a=65544
  ·have HV:Hid (devV a c b.lamp=b.lamp):=by show _=_;unfold devV;rw[if_neg hA,if_pos hB]
   have e2:(a==65544)=true:=by simpa using hB
   have hnews:=acc_cells w ⟨c,false,a,b.lamp⟩
   rw[HV.out]
   clear hA hB hwd
   go_enter Tryz.func233,Tryz.ntmps233
   go_wp2_with fail
   refine hst.mono ?_
   rintro e w' ⟨rfl,rfl⟩
   clear hst
   go_wp2_with (at_builtin;refine wpList_append_moved rfl _ _ 37 rfl base 187 i0 (.agg #[.int .i64 0,.bool false,.int .u32 0,.int .u32 0]) 4 24 Tryz.underlying37 hi hz0 hz1 hz2 rfl (by decide) vt b.tr.length (b.tr.flatMap accC) rfl (BH.out.rt.alloc _) ⟨_,0,none⟩ 1 1 (accC ⟨c,false,a,b.lamp⟩) rfl rfl hnews (by simp[Value.oneCell',accC]) (by unfold maxLen;omega) (by omega) (by simp;omega) ?_;intro v' w2 ho hg hm;obtain ⟨g',cap',rfl⟩:=owns_pos ho;have hp:=BH.out.putTr ho hg hm;obtain ⟨⟨hc1,hf1⟩,hp2⟩:=hp)
   go_ret2
   exact ⟨rfl,_,hp2.1,hp2.2.1,hp2.2.2⟩
  ·have HV:Hid (devV a c b.lamp=0):=by show _=_;unfold devV;rw[if_neg hA,if_neg hB]
   have e2:(a==65544)=false:=by simpa using hB
   have hnews:=acc_cells w ⟨c,false,a,0⟩
   rw[HV.out]
   clear hA hB hwd
   go_enter Tryz.func233,Tryz.ntmps233
   go_wp2_with fail
   refine hst.mono ?_
   rintro e w' ⟨rfl,rfl⟩
   clear hst
   go_wp2_with (at_builtin;refine wpList_append_moved rfl _ _ 37 rfl base 187 i0 (.agg #[.int .i64 0,.bool false,.int .u32 0,.int .u32 0]) 4 24 Tryz.underlying37 hi hz0 hz1 hz2 rfl (by decide) vt b.tr.length (b.tr.flatMap accC) rfl (BH.out.rt.alloc _) ⟨_,0,none⟩ 1 1 (accC ⟨c,false,a,0⟩) rfl rfl hnews (by simp[Value.oneCell',accC]) (by unfold maxLen;omega) (by omega) (by simp;omega) ?_;intro v' w2 ho hg hm;obtain ⟨g',cap',rfl⟩:=owns_pos ho;have hp:=BH.out.putTr ho hg hm;obtain ⟨⟨hc1,hf1⟩,hp2⟩:=hp)
   go_ret2
   exact ⟨rfl,_,hp2.1,hp2.2.1,hp2.2.2⟩
end
def htD (wt ht:Int→Bool) (a s:Int):Int→Bool:=if dev a s=true then ht else if chk a s=0 then hitN wt ht a else ht
def erD (a s:Int):Int:=if bad a s=true then rc a s else 0
theorem erD_pos {a s:Int} (h:bad a s=true):0<erD a s:=by
 unfold erD;rw[if_pos h]
 refine rc_no ?_
 unfold bad at h;simp at h;exact h.2
theorem erD_zero {a s:Int} (h:bad a s=false):erD a s=0:=by unfold erD;rw[if_neg (by rw[h];decide)]
section
variable {w : World} {base db rb gb kb hb : Nat} {b : Bs} {wt ht : Int → Bool} {vt : Value}
theorem dbstore_all (B:DBus w base db rb gb kb hb b wt ht vt) (a s v c:Int) (h0:0≤a) (h1:a<4294967296) (s0:-9223372036854775808≤s) (s1:s≤9223372036854775807) (v0:0≤v) (v1:v<4294967296) (hn:b.out.length≤1000) (hn2:b.tr.length≤1000) :
  Calls Tryz.prog 234 #[.pointer (some ⟨db,0,none⟩),.int .u32 a,.int .i64 s,.int .u32 v,.int .i64 c] w fun e w'=>e=.returned (.int .i64 (erD a s))∧∃ vt',DBus w' base db rb gb kb hb (b.put a s v c) wt (htD wt ht a s) vt'∧Kept w w' (DX db gb hb vt)∧Moved w vt vt':=by
 by_cases hd:dev a s=true
 ·refine (dbstore_dev B a s v c h0 h1 s0 s1 v0 v1 hn hn2 hd).mono ?_
  rintro e w' ⟨rfl,vt',B',T,M⟩
  refine ⟨by rw[erD_zero (by simp[bad,hd])],vt',?_,T,M⟩
  unfold Bs.put htD;rw[if_pos hd,if_pos hd];exact B'
 ·have hd':dev a s=false:=by simpa using hd
  by_cases hc:chk a s=0
  ·have hf:=(chk_ok hc).2.2
   refine (dbstore_mem B a s v c h0 (by omega) v0 v1 hc).mono ?_
   rintro e w' ⟨rfl,B',T⟩
   refine ⟨by rw[erD_zero (by simp[bad,hc])],vt,?_,T,Moved.refl _ _⟩
   unfold Bs.put htD;rw[if_neg hd,if_neg hd,if_pos hc,if_pos hc];exact B'
  ·have er:erD a s=rc a s:=by unfold erD;rw[if_pos (by simp[bad,hd',hc])]
   have eb:b.put a s v c=b:=by unfold Bs.put;rw[if_neg hd,if_neg hc]
   have eh:htD wt ht a s=ht:=by unfold htD;rw[if_neg hd,if_neg hc]
   rw[er,eb,eh]
   by_cases hl:a<16384
   ·refine (dbstore_low B a s v c h0 hl s0 s1 hc).mono ?_
    rintro e w' ⟨rfl,rfl⟩
    exact ⟨rfl,vt,B,Kept.refl _ _,Moved.refl _ _⟩
   ·refine (dbstore_high w _ a s v c (by omega) h1 s0 s1 hd' hc).mono ?_
    rintro e w' ⟨rfl,rfl⟩
    exact ⟨rfl,vt,B,Kept.refl _ _,Moved.refl _ _⟩
theorem dbload_all (B:DBus w base db rb gb kb hb b wt ht vt) (a s c:Int) (sgn:Bool) (h0:0≤a) (h1:a<4294967296) (s0:-9223372036854775808≤s) (s1:s≤9223372036854775807) (c0:-9223372036854775808≤c) (c1:c≤9223372036854775807) (hn2:b.tr.length≤1000) :
  Calls Tryz.prog 233 #[.pointer (some ⟨db,0,none⟩),.int .u32 a,.int .i64 s,.bool sgn,.int .i64 c] w fun e w'=>e=.returned (.tuple #[.int .u32 (b.val a s sgn c),.int .i64 (erD a s)])∧∃ vt',DBus w' base db rb gb kb hb (b.got a s c) wt ht vt'∧Kept w w' (DX db gb hb vt)∧Moved w vt vt':=by
 by_cases hd:dev a s=true
 ·refine (dbload_dev B a s c sgn h0 h1 s0 s1 c0 c1 hn2 hd).mono ?_
  rintro e w' ⟨rfl,vt',B',T,M⟩
  refine ⟨by rw[erD_zero (by simp[bad,hd])];unfold Bs.val;rw[if_pos hd],vt',?_,T,M⟩
  unfold Bs.got;rw[if_pos hd];exact B'
 ·have hd':dev a s=false:=by simpa using hd
  have eg:b.got a s c=b:=by unfold Bs.got;rw[if_neg hd]
  rw[eg]
  by_cases hc:chk a s=0
  ·have hf:=(chk_ok hc).2.2
   refine (dbload_mem B a s c sgn h0 (by omega) hc).mono ?_
   rintro e w' ⟨rfl,rfl⟩
   refine ⟨by rw[erD_zero (by simp[bad,hc])];unfold Bs.val;rw[if_neg hd,if_pos hc],vt,B,Kept.refl _ _,Moved.refl _ _⟩
  ·have er:erD a s=rc a s:=by unfold erD;rw[if_pos (by simp[bad,hd',hc])]
   have ev:b.val a s sgn c=0:=by unfold Bs.val;rw[if_neg hd,if_neg hc]
   rw[er,ev]
   by_cases hl:a<16384
   ·refine (dbload_low B a s c sgn h0 hl s0 s1 hc).mono ?_
    rintro e w' ⟨rfl,rfl⟩
    exact ⟨rfl,vt,B,Kept.refl _ _,Moved.refl _ _⟩
   ·refine (dbload_high w _ a s c sgn (by omega) h1 s0 s1 hd' hc).mono ?_
    rintro e w' ⟨rfl,rfl⟩
    exact ⟨rfl,vt,B,Kept.refl _ _,Moved.refl _ _⟩
end
set_option maxHeartbeats 8000000
structure Dap (sb base db rb gb kb hb:Nat):Prop where
 lt:sb<base
 s1:sb≠db
 s2:sb≠rb
 s3:sb≠gb
 s4:sb≠kb
 s5:sb≠hb
def DM (sb db gb hb:Nat) (vt:Value) (k:Nat):Prop:=k=sb∨DX db gb hb vt k
theorem Kept.dmS {w w':World} {sb db gb hb:Nat} {vt:Value} (h:Kept w w' (·=sb)):Kept w w' (DM sb db gb hb vt):=h.mono fun _ e=>Or.inl e
theorem Kept.dmX {w w':World} {sb db gb hb:Nat} {vt:Value} (h:Kept w w' (DX db gb hb vt)):Kept w w' (DM sb db gb hb vt):=h.mono fun _ e=>Or.inr e
section
variable {w : World} {sb base db rb gb kb hb : Nat} {b : Bs} {wt ht : Int → Bool} {vt : Value} {S : St} {k s t d : Nat} {m : Int}
theorem DBus.st {w':World} (B:DBus w base db rb gb kb hb b wt ht vt) (h:Kept w w' (·=sb)) (ap:Dap sb base db rb gb kb hb):DBus w' base db rb gb kb hb b wt ht vt :=
 B.kept h fun k hk e=>by
  subst e
  rcases hk with h|h|h|h|h|h
  ·exact ap.s1 h
  ·exact ap.s2 h
  ·exact ap.s3 h
  ·exact ap.s4 h
  ·exact ap.s5 h
  ·have:=(B.rt.lt _ h).1;have:=ap.lt;omega
theorem Dap.no (ap:Dap sb base db rb gb kb hb) (B:DBus w base db rb gb kb hb b wt ht vt):¬ DX db gb hb vt sb:=by
 rintro (h|h|h|h)
 ·exact ap.s1 h
 ·exact ap.s3 h
 ·exact ap.s5 h
 ·have:=(B.rt.lt _ h).1;have:=ap.lt;omega
theorem DBus.far (B:DBus w base db rb gb kb hb b wt ht vt) {ib:Nat} (h:w.heap.size≤ib):¬ DX db gb hb vt ib:=by
 intro e
 have:=B.lt (k:=ib) (by rcases e with h|h|h|h<;>simp[h])
 omega
theorem adI_eq (S:St) (k s:Nat) (m:Int) (hk:46≤k∧k≤53):adI S k s m=lo (S.r s+wd m 16 true):=by unfold adI immI;rw[if_neg (by omega)]
theorem szI_bd (k:Nat):1≤szI k∧szI k≤4:=by unfold szI;(repeat' split)<;>omega
theorem loadd_sw (A:StAt w sb S) (B:DBus w base db rb gb kb hb b wt ht vt) (ap:Dap sb base db rb gb kb hb) (ok:S.ok) (hs:s<32) (ht':t<32) (hd:d<32) (m0:0≤m) (m1:m<4294967296) (hn:b.out.length≤1000) (hn2:b.tr.length≤1000) (hk:46≤k∧k≤53) (hg:sgI k=true) (hbad:bad (adI S k s m) (szI k)=true):Calls Tryz.prog 192 #[.pointer (some ⟨sb,0,none⟩),.pointer (some ⟨db,0,none⟩),.agg #[.int .i64 k,.int .i64 s,.int .i64 t,.int .i64 d,.int .u32 m]] w fun e w'=>e=.returned (.int .i64 4)∧∃ vt',StAt w' sb { S with bd:=adI S k s m }∧DBus w' base db rb gb kb hb (b.got (adI S k s m) (szI k) S.ct) wt ht vt'∧Kept w w' (DM sb db gb hb vt)∧Moved w vt vt':=by
 have had:u32 (adI S k s m):=lo_bd _
 have hsz:=szI_bd k
 have hwb:u32 (wd m 16 true):=wd_bd m0 m1 _
 have hi:=fun W=>imA k s t d m m0 m1 W
 have hpl:=fun W=>p2A (S.r s) (wd m 16 true) (ok.r s).1 (ok.r s).2 hwb.1 hwb.2 W
 have hso:=fun W=>sizeOf_any k hk W
 rw[←adI_eq S k s m hk]at hpl
 have c0:=ok.c0
 have c1:=ok.c1
 have hr:=ok.r t
 have hbA:Below w.heap.size w (w.alloc (.cells #[.int .i64 k,.int .i64 s,.int .i64 t,.int .i64 d,.int .u32 m] 113)):=(Below.refl _ _).alloc (Nat.le_refl _) _
 have D0:Hid (Dq (w.alloc (.cells #[.int .i64 k,.int .i64 s,.int .i64 t,.int .i64 d,.int .u32 m] 113)) w.heap.size sb S k s t d m):=Dq.start A ok k hs ht' hd m0 m1
 have B0:Hid (DBus (w.alloc (.cells #[.int .i64 k,.int .i64 s,.int .i64 t,.int .i64 d,.int .u32 m] 113)) base db rb gb kb hb b wt ht vt):=B.stays hbA
 have K0:Kept w (w.alloc (.cells #[.int .i64 k,.int .i64 s,.int .i64 t,.int .i64 d,.int .u32 m] 113)) (DM sb db gb hb vt):=Kept.of_below _ hbA
 have hfar:¬ DX db gb hb vt w.heap.size:=B.far (Nat.le_refl _)
 have hnos:¬ DX db gb hb vt sb:=ap.no B
 have hmv:∀ {w1:World} {x y:Value},Kept w w1 (DM sb db gb hb vt)→Moved w1 x y→Moved w x y:=fun h1 h k hk=>(h k hk).imp id (fun e=>Nat.le_trans h1.size e)
 have hmv:=@hmv
 clear A B hbA
 have hl:=fun (W:World) (X:DBus W base db rb gb kb hb b wt ht vt)=>dbload_all X (adI S k s m) (szI k) S.ct (sgI k) had.1 had.2 (by omega) (by omega) c0 (by omega) hn2
 have her:0<erD (adI S k s m) (szI k):=erD_pos hbad
 rw[hg]at hso hl
 rw[if_pos rfl]at hso
 clear hg hbad
 generalize b.val (adI S k s m) (szI k) true S.ct=v at *
 generalize b.got (adI S k s m) (szI k) S.ct=bg at *
 generalize erD (adI S k s m) (szI k)=er at *
 generalize adI S k s m=a at *
 generalize szI k=z at *
 generalize wd m 16 true=wi at *
 obtain ⟨z0,z1⟩:=hsz
 obtain ⟨a0,a1⟩:=had
 have hzd:decide (-z<0)=true:=by simp;omega
 go_enter Tryz.func192,Tryz.ntmps192
 go_upto_region 1 with fail
 generalize w.alloc (.cells #[.int .i64 k,.int .i64 s,.int .i64 t,.int .i64 d,.int .u32 m] 113)=W at *
 generalize w.heap.size=ib at *
 have i0:=D0.out.i0
 have i1:=D0.out.i1
 have i2:=D0.out.i2
 have i3:=D0.out.i3
 have i4:=D0.out.i4
 have qs:=D0.out.a.reg D0.out.hs
 have fs:=D0.out.a.fz s
 have hs':(s:Int)<32:=by have:=D0.out.hs;omega
 clear i0 i2 i3 i4 qs fs i1
 go_upto_region 1 with fail
 refine zP 11 [(0,0),(1,0),(2,1),(3,0),(4,0),(5,0),(6,1),(7,1),(8,2),(9,2),(10,0)] (fun W=>Dq W ib sb S k s t d m) (by kernel_rfl) (by kernel_rfl) (fun _ _ _ d _ h=>by cases d<;>first|exact h|exact Dq.drew h) D0.out.drew ?_
 repeat (first|(refine zF (by rfl) (by rfl) (fun W=>by (go_simp;try with_reducible rfl)) (fun K hK=>?_);go_simp;refine hK _ ?_;clear hK K)|(refine zQ (by rfl) (by rfl) (fun W hW=>by (have i0:=hW.i0;have i1:=hW.i1;have i2:=hW.i2;have i3:=hW.i3;have i4:=hW.i4;have qs:=hW.a.reg hW.hs;go_simp;try with_reducible rfl)) (fun K hK=>?_);go_simp;refine hK _ ?_;clear hK K))
 refine zSr (by rfl) (by rfl) (fun K hK=>?_)
 go_simp
 refine (hi _).mono ?_
 rintro e_ w_ ⟨rfl,hbx⟩
 refine hK _ _ (fun _=>D0.out.drew.stays hbx) ?_
 clear hK K
 repeat (first|(refine zF (by rfl) (by rfl) (fun W=>by (go_simp;try with_reducible rfl)) (fun K hK=>?_);go_simp;refine hK _ ?_;clear hK K)|(refine zQ (by rfl) (by rfl) (fun W hW=>by (have i0:=hW.i0;have i1:=hW.i1;have i2:=hW.i2;have i3:=hW.i3;have i4:=hW.i4;have qs:=hW.a.reg hW.hs;go_simp;try with_reducible rfl)) (fun K hK=>?_);go_simp;refine hK _ ?_;clear hK K))
 refine zSr (by rfl) (by rfl) (fun K hK=>?_)
 go_simp
 refine (hpl _).mono ?_
 rintro e_ w_ ⟨rfl,rfl⟩
 refine hK _ _ (fun _=>D0.out.drew.stays hbx) ?_
 clear hK K
 repeat (first|(refine zF (by rfl) (by rfl) (fun W=>by (go_simp;try with_reducible rfl)) (fun K hK=>?_);go_simp;refine hK _ ?_;clear hK K)|(refine zQ (by rfl) (by rfl) (fun W hW=>by (have i0:=hW.i0;have i1:=hW.i1;have i2:=hW.i2;have i3:=hW.i3;have i4:=hW.i4;have qs:=hW.a.reg hW.hs;go_simp;try with_reducible rfl)) (fun K hK=>?_);go_simp;refine hK _ ?_;clear hK K))
 refine zN ?_
 have D1:Hid (Dq w_ ib sb S k s t d m):=D0.out.drew.stays hbx
 have B1:Hid (DBus w_ base db rb gb kb hb b wt ht vt):=(B0.out.stays (below_drew (Below.refl _ _))).stays hbx
 have K1:Kept w w_ (DM sb db gb hb vt):=(K0.trans (Kept.drew _ _) (fun _ _ h=>h)).trans (Kept.of_below _ hbx) (fun _ _ h=>h)
 clear hbx D0 B0 K0
 generalize w_=W1 at *
 have i0:=D1.out.i0
 obtain ⟨-,-,-,-,-,-,-,-,-,-,q42⟩:=D1.out.a.told
 have hl1:=hl W1 B1.out
 go_wp2_with (go_at_call 232;refine (hso _).mono ?_;rintro e w2 ⟨rfl,rfl⟩)
 refine hl1.mono ?_
 rintro e w2 ⟨rfl,vt2,B2,T2,M2⟩
 have D2:Hid (Dq w2 ib sb S k s t d m):=D1.out.kept T2 hfar hnos
 have B2H:Hid (DBus w2 base db rb gb kb hb bg wt ht vt2):=B2
 have K2:Kept w w2 (DM sb db gb hb vt):=K1.trans T2.dmX (fun _ _ h=>h)
 have MM:Hid (Moved w vt vt2):=hmv K1 M2
 clear B2 T2 M2 hl1 hl q42 i0 K1 B1 D1
 obtain ⟨-,-,-,-,-,-,-,-,q40,-⟩:=D2.out.a.told
 have f40:=D2.out.a.fz 40
 have A1:=D2.out.a.putBd a
 have KS:Kept w2 (w2.setCell ⟨sb,40,none⟩ (.int .u32 a)) (·=sb):=Kept.setCell _ _ _ _ rfl
 go_wp2
 go_ret
 exact ⟨rfl,vt2,A1,B2H.out.st KS ap,K2.trans KS.dmS (fun _ _ h=>h),MM.out⟩
theorem loadd_sr (A:StAt w sb S) (B:DBus w base db rb gb kb hb b wt ht vt) (ap:Dap sb base db rb gb kb hb) (ok:S.ok) (hs:s<32) (ht':t<32) (hd:d<32) (m0:0≤m) (m1:m<4294967296) (hn:b.out.length≤1000) (hn2:b.tr.length≤1000) (hk:46≤k∧k≤53) (hg:sgI k=true) (hbad:bad (adI S k s m) (szI k)=false):Calls Tryz.prog 192 #[.pointer (some ⟨sb,0,none⟩),.pointer (some ⟨db,0,none⟩),.agg #[.int .i64 k,.int .i64 s,.int .i64 t,.int .i64 d,.int .u32 m]] w fun e w'=>e=.returned (.int .i64 (-1))∧∃ vt',StAt w' sb (S.putR t (b.val (adI S k s m) (szI k) (sgI k) S.ct))∧DBus w' base db rb gb kb hb (b.got (adI S k s m) (szI k) S.ct) wt ht vt'∧Kept w w' (DM sb db gb hb vt)∧Moved w vt vt':=by
 have had:u32 (adI S k s m):=lo_bd _
 have hsz:=szI_bd k
 have hwb:u32 (wd m 16 true):=wd_bd m0 m1 _
 have hi:=fun W=>imA k s t d m m0 m1 W
 have hpl:=fun W=>p2A (S.r s) (wd m 16 true) (ok.r s).1 (ok.r s).2 hwb.1 hwb.2 W
 have hso:=fun W=>sizeOf_any k hk W
 rw[←adI_eq S k s m hk]at hpl
 have c0:=ok.c0
 have c1:=ok.c1
 have hr:=ok.r t
 have hbA:Below w.heap.size w (w.alloc (.cells #[.int .i64 k,.int .i64 s,.int .i64 t,.int .i64 d,.int .u32 m] 113)):=(Below.refl _ _).alloc (Nat.le_refl _) _
 have D0:Hid (Dq (w.alloc (.cells #[.int .i64 k,.int .i64 s,.int .i64 t,.int .i64 d,.int .u32 m] 113)) w.heap.size sb S k s t d m):=Dq.start A ok k hs ht' hd m0 m1
 have B0:Hid (DBus (w.alloc (.cells #[.int .i64 k,.int .i64 s,.int .i64 t,.int .i64 d,.int .u32 m] 113)) base db rb gb kb hb b wt ht vt):=B.stays hbA
 have K0:Kept w (w.alloc (.cells #[.int .i64 k,.int .i64 s,.int .i64 t,.int .i64 d,.int .u32 m] 113)) (DM sb db gb hb vt):=Kept.of_below _ hbA
 have hfar:¬ DX db gb hb vt w.heap.size:=B.far (Nat.le_refl _)
 have hnos:¬ DX db gb hb vt sb:=ap.no B
 have hmv:∀ {w1:World} {x y:Value},Kept w w1 (DM sb db gb hb vt)→Moved w1 x y→Moved w x y:=fun h1 h k hk=>(h k hk).imp id (fun e=>Nat.le_trans h1.size e)
 have hmv:=@hmv
 clear A B hbA
 have hl:=fun (W:World) (X:DBus W base db rb gb kb hb b wt ht vt)=>dbload_all X (adI S k s m) (szI k) S.ct (sgI k) had.1 had.2 (by omega) (by omega) c0 (by omega) hn2
 have her:erD (adI S k s m) (szI k)=0:=erD_zero hbad
 rw[her]at hl
 rw[hg]at hso hl ⊢
 rw[if_pos rfl]at hso
 clear hg hbad
 generalize b.val (adI S k s m) (szI k) true S.ct=v at *
 generalize b.got (adI S k s m) (szI k) S.ct=bg at *
 clear her
 generalize adI S k s m=a at *
 generalize szI k=z at *
 generalize wd m 16 true=wi at *
 obtain ⟨z0,z1⟩:=hsz
 obtain ⟨a0,a1⟩:=had
 have hzd:decide (-z<0)=true:=by simp;omega
 go_enter Tryz.func192,Tryz.ntmps192
 go_upto_region 1 with fail
 generalize w.alloc (.cells #[.int .i64 k,.int .i64 s,.int .i64 t,.int .i64 d,.int .u32 m] 113)=W at *
 generalize w.heap.size=ib at *
 have i0:=D0.out.i0
 have i1:=D0.out.i1
 have i2:=D0.out.i2
 have i3:=D0.out.i3
 have i4:=D0.out.i4
 have qs:=D0.out.a.reg D0.out.hs
 have fs:=D0.out.a.fz s
 have hs':(s:Int)<32:=by have:=D0.out.hs;omega
 clear i0 i2 i3 i4 qs fs i1
 go_upto_region 1 with fail
 refine zP 11 [(0,0),(1,0),(2,1),(3,0),(4,0),(5,0),(6,1),(7,1),(8,2),(9,2),(10,0)] (fun W=>Dq W ib sb S k s t d m) (by kernel_rfl) (by kernel_rfl) (fun _ _ _ d _ h=>by cases d<;>first|exact h|exact Dq.drew h) D0.out.drew ?_
 repeat (first|(refine zF (by rfl) (by rfl) (fun W=>by (go_simp;try with_reducible rfl)) (fun K hK=>?_);go_simp;refine hK _ ?_;clear hK K)|(refine zQ (by rfl) (by rfl) (fun W hW=>by (have i0:=hW.i0;have i1:=hW.i1;have i2:=hW.i2;have i3:=hW.i3;have i4:=hW.i4;have qs:=hW.a.reg hW.hs;go_simp;try with_reducible rfl)) (fun K hK=>?_);go_simp;refine hK _ ?_;clear hK K))
 refine zSr (by rfl) (by rfl) (fun K hK=>?_)
 go_simp
 refine (hi _).mono ?_
 rintro e_ w_ ⟨rfl,hbx⟩
 refine hK _ _ (fun _=>D0.out.drew.stays hbx) ?_
 clear hK K
 repeat (first|(refine zF (by rfl) (by rfl) (fun W=>by (go_simp;try with_reducible rfl)) (fun K hK=>?_);go_simp;refine hK _ ?_;clear hK K)|(refine zQ (by rfl) (by rfl) (fun W hW=>by (have i0:=hW.i0;have i1:=hW.i1;have i2:=hW.i2;have i3:=hW.i3;have i4:=hW.i4;have qs:=hW.a.reg hW.hs;go_simp;try with_reducible rfl)) (fun K hK=>?_);go_simp;refine hK _ ?_;clear hK K))
 refine zSr (by rfl) (by rfl) (fun K hK=>?_)
 go_simp
 refine (hpl _).mono ?_
 rintro e_ w_ ⟨rfl,rfl⟩
 refine hK _ _ (fun _=>D0.out.drew.stays hbx) ?_
 clear hK K
 repeat (first|(refine zF (by rfl) (by rfl) (fun W=>by (go_simp;try with_reducible rfl)) (fun K hK=>?_);go_simp;refine hK _ ?_;clear hK K)|(refine zQ (by rfl) (by rfl) (fun W hW=>by (have i0:=hW.i0;have i1:=hW.i1;have i2:=hW.i2;have i3:=hW.i3;have i4:=hW.i4;have qs:=hW.a.reg hW.hs;go_simp;try with_reducible rfl)) (fun K hK=>?_);go_simp;refine hK _ ?_;clear hK K))
 refine zN ?_
 have D1:Hid (Dq w_ ib sb S k s t d m):=D0.out.drew.stays hbx
 have B1:Hid (DBus w_ base db rb gb kb hb b wt ht vt):=(B0.out.stays (below_drew (Below.refl _ _))).stays hbx
 have K1:Kept w w_ (DM sb db gb hb vt):=(K0.trans (Kept.drew _ _) (fun _ _ h=>h)).trans (Kept.of_below _ hbx) (fun _ _ h=>h)
 clear hbx D0 B0 K0
 generalize w_=W1 at *
 have i0:=D1.out.i0
 obtain ⟨-,-,-,-,-,-,-,-,-,-,q42⟩:=D1.out.a.told
 have hl1:=hl W1 B1.out
 go_wp2_with (go_at_call 232;refine (hso _).mono ?_;rintro e w2 ⟨rfl,rfl⟩)
 refine hl1.mono ?_
 rintro e w2 ⟨rfl,vt2,B2,T2,M2⟩
 have D2:Hid (Dq w2 ib sb S k s t d m):=D1.out.kept T2 hfar hnos
 have B2H:Hid (DBus w2 base db rb gb kb hb bg wt ht vt2):=B2
 have K2:Kept w w2 (DM sb db gb hb vt):=K1.trans T2.dmX (fun _ _ h=>h)
 have MM:Hid (Moved w vt vt2):=hmv K1 M2
 clear B2 T2 M2 hl1 hl q42 i0 K1 B1 D1
 have qt:=D2.out.a.reg D2.out.ht
 have ft:=D2.out.a.fz t
 have ht':(t:Int)<32:=by have:=D2.out.ht;omega
 go_upto_region 10 with fail
 obtain ⟨W,hWe⟩:∃ W,W=w2:=⟨_,rfl⟩
 rw[←hWe]at D2 B2H K2 qt ft ⊢
 clear hWe
 refine zP 7 [(0,0),(1,0),(2,1),(3,0),(4,0),(5,0),(6,0),(7,2)] (fun W=>Dq W ib sb S k s t d m) (by kernel_rfl) (by kernel_rfl) (fun _ _ _ d _ h=>by cases d<;>first|exact h|exact Dq.drew h) D2.out.drew ?_
 repeat (first|(refine zF (by rfl) (by rfl) (fun W=>by (go_simp;try with_reducible rfl)) (fun K hK=>?_);go_simp;refine hK _ ?_;clear hK K)|(refine zQ (by rfl) (by rfl) (fun W hW=>by (have i2:=hW.i2;go_simp;try with_reducible rfl)) (fun K hK=>?_);go_simp;refine hK _ ?_;clear hK K))
 refine zSr (by rfl) (by rfl) (fun K hK=>?_)
 go_simp
 refine hK _ _ (fun h=>absurd h (by decide)) ?_
 clear hK K
 refine zN ?_
 have A1:=(D2.out.a.putR t D2.out.ht v).drew
 have KS:Kept W (W.setCell ⟨sb,t,none⟩ (.int .u32 v)).drew (·=sb):=((Kept.refl W (·=sb)).put t (.int .u32 v)).trans (Kept.drew _ _) (fun _ _ h=>h)
 clear qt ft
 generalize (W.setCell ⟨sb,t,none⟩ (.int .u32 v)).drew=W3 at *
 go_wp2
 go_ret
 exact ⟨rfl,vt2,A1,B2H.out.st KS ap,K2.trans KS.dmS (fun _ _ h=>h),MM.out⟩
theorem loadd_uw (A:StAt w sb S) (B:DBus w base db rb gb kb hb b wt ht vt) (ap:Dap sb base db rb gb kb hb) (ok:S.ok) (hs:s<32) (ht':t<32) (hd:d<32) (m0:0≤m) (m1:m<4294967296) (hn:b.out.length≤1000) (hn2:b.tr.length≤1000) (hk:46≤k∧k≤53) (hg:sgI k=false) (hbad:bad (adI S k s m) (szI k)=true):Calls Tryz.prog 192 #[.pointer (some ⟨sb,0,none⟩),.pointer (some ⟨db,0,none⟩),.agg #[.int .i64 k,.int .i64 s,.int .i64 t,.int .i64 d,.int .u32 m]] w fun e w'=>e=.returned (.int .i64 4)∧∃ vt',StAt w' sb { S with bd:=adI S k s m }∧DBus w' base db rb gb kb hb (b.got (adI S k s m) (szI k) S.ct) wt ht vt'∧Kept w w' (DM sb db gb hb vt)∧Moved w vt vt':=by
 have had:u32 (adI S k s m):=lo_bd _
 have hsz:=szI_bd k
 have hwb:u32 (wd m 16 true):=wd_bd m0 m1 _
 have hi:=fun W=>imA k s t d m m0 m1 W
 have hpl:=fun W=>p2A (S.r s) (wd m 16 true) (ok.r s).1 (ok.r s).2 hwb.1 hwb.2 W
 have hso:=fun W=>sizeOf_any k hk W
 rw[←adI_eq S k s m hk]at hpl
 have c0:=ok.c0
 have c1:=ok.c1
 have hr:=ok.r t
 have hbA:Below w.heap.size w (w.alloc (.cells #[.int .i64 k,.int .i64 s,.int .i64 t,.int .i64 d,.int .u32 m] 113)):=(Below.refl _ _).alloc (Nat.le_refl _) _
 have D0:Hid (Dq (w.alloc (.cells #[.int .i64 k,.int .i64 s,.int .i64 t,.int .i64 d,.int .u32 m] 113)) w.heap.size sb S k s t d m):=Dq.start A ok k hs ht' hd m0 m1
 have B0:Hid (DBus (w.alloc (.cells #[.int .i64 k,.int .i64 s,.int .i64 t,.int .i64 d,.int .u32 m] 113)) base db rb gb kb hb b wt ht vt):=B.stays hbA
 have K0:Kept w (w.alloc (.cells #[.int .i64 k,.int .i64 s,.int .i64 t,.int .i64 d,.int .u32 m] 113)) (DM sb db gb hb vt):=Kept.of_below _ hbA
 have hfar:¬ DX db gb hb vt w.heap.size:=B.far (Nat.le_refl _)
 have hnos:¬ DX db gb hb vt sb:=ap.no B
 have hmv:∀ {w1:World} {x y:Value},Kept w w1 (DM sb db gb hb vt)→Moved w1 x y→Moved w x y:=fun h1 h k hk=>(h k hk).imp id (fun e=>Nat.le_trans h1.size e)
 have hmv:=@hmv
 clear A B hbA
 have hl:=fun (W:World) (X:DBus W base db rb gb kb hb b wt ht vt)=>dbload_all X (adI S k s m) (szI k) S.ct (sgI k) had.1 had.2 (by omega) (by omega) c0 (by omega) hn2
 have her:0<erD (adI S k s m) (szI k):=erD_pos hbad
 rw[hg]at hso hl
 rw[if_neg (by decide)]at hso
 clear hg hbad
 generalize b.val (adI S k s m) (szI k) false S.ct=v at *
 generalize b.got (adI S k s m) (szI k) S.ct=bg at *
 generalize erD (adI S k s m) (szI k)=er at *
 generalize adI S k s m=a at *
 generalize szI k=z at *
 generalize wd m 16 true=wi at *
 obtain ⟨z0,z1⟩:=hsz
 obtain ⟨a0,a1⟩:=had
 have hzd:decide (z<0)=false:=by simp;omega
 go_enter Tryz.func192,Tryz.ntmps192
 go_upto_region 1 with fail
 generalize w.alloc (.cells #[.int .i64 k,.int .i64 s,.int .i64 t,.int .i64 d,.int .u32 m] 113)=W at *
 generalize w.heap.size=ib at *
 have i0:=D0.out.i0
 have i1:=D0.out.i1
 have i2:=D0.out.i2
 have i3:=D0.out.i3
 have i4:=D0.out.i4
 have qs:=D0.out.a.reg D0.out.hs
 have fs:=D0.out.a.fz s
 have hs':(s:Int)<32:=by have:=D0.out.hs;omega
 clear i0 i2 i3 i4 qs fs i1
 go_upto_region 1 with fail
 refine zP 11 [(0,0),(1,0),(2,1),(3,0),(4,0),(5,0),(6,1),(7,1),(8,2),(9,2),(10,0)] (fun W=>Dq W ib sb S k s t d m) (by kernel_rfl) (by kernel_rfl) (fun _ _ _ d _ h=>by cases d<;>first|exact h|exact Dq.drew h) D0.out.drew ?_
 repeat (first|(refine zF (by rfl) (by rfl) (fun W=>by (go_simp;try with_reducible rfl)) (fun K hK=>?_);go_simp;refine hK _ ?_;clear hK K)|(refine zQ (by rfl) (by rfl) (fun W hW=>by (have i0:=hW.i0;have i1:=hW.i1;have i2:=hW.i2;have i3:=hW.i3;have i4:=hW.i4;have qs:=hW.a.reg hW.hs;go_simp;try with_reducible rfl)) (fun K hK=>?_);go_simp;refine hK _ ?_;clear hK K))
 refine zSr (by rfl) (by rfl) (fun K hK=>?_)
 go_simp
 refine (hi _).mono ?_
 rintro e_ w_ ⟨rfl,hbx⟩
 refine hK _ _ (fun _=>D0.out.drew.stays hbx) ?_
 clear hK K
 repeat (first|(refine zF (by rfl) (by rfl) (fun W=>by (go_simp;try with_reducible rfl)) (fun K hK=>?_);go_simp;refine hK _ ?_;clear hK K)|(refine zQ (by rfl) (by rfl) (fun W hW=>by (have i0:=hW.i0;have i1:=hW.i1;have i2:=hW.i2;have i3:=hW.i3;have i4:=hW.i4;have qs:=hW.a.reg hW.hs;go_simp;try with_reducible rfl)) (fun K hK=>?_);go_simp;refine hK _ ?_;clear hK K))
 refine zSr (by rfl) (by rfl) (fun K hK=>?_)
 go_simp
 refine (hpl _).mono ?_
 rintro e_ w_ ⟨rfl,rfl⟩
 refine hK _ _ (fun _=>D0.out.drew.stays hbx) ?_
 clear hK K
 repeat (first|(refine zF (by rfl) (by rfl) (fun W=>by (go_simp;try with_reducible rfl)) (fun K hK=>?_);go_simp;refine hK _ ?_;clear hK K)|(refine zQ (by rfl) (by rfl) (fun W hW=>by (have i0:=hW.i0;have i1:=hW.i1;have i2:=hW.i2;have i3:=hW.i3;have i4:=hW.i4;have qs:=hW.a.reg hW.hs;go_simp;try with_reducible rfl)) (fun K hK=>?_);go_simp;refine hK _ ?_;clear hK K))
 refine zN ?_
 have D1:Hid (Dq w_ ib sb S k s t d m):=D0.out.drew.stays hbx
 have B1:Hid (DBus w_ base db rb gb kb hb b wt ht vt):=(B0.out.stays (below_drew (Below.refl _ _))).stays hbx
 have K1:Kept w w_ (DM sb db gb hb vt):=(K0.trans (Kept.drew _ _) (fun _ _ h=>h)).trans (Kept.of_below _ hbx) (fun _ _ h=>h)
 clear hbx D0 B0 K0
 generalize w_=W1 at *
 have i0:=D1.out.i0
 obtain ⟨-,-,-,-,-,-,-,-,-,-,q42⟩:=D1.out.a.told
 have hl1:=hl W1 B1.out
 go_wp2_with (go_at_call 232;refine (hso _).mono ?_;rintro e w2 ⟨rfl,rfl⟩)
 refine hl1.mono ?_
 rintro e w2 ⟨rfl,vt2,B2,T2,M2⟩
 have D2:Hid (Dq w2 ib sb S k s t d m):=D1.out.kept T2 hfar hnos
 have B2H:Hid (DBus w2 base db rb gb kb hb bg wt ht vt2):=B2
 have K2:Kept w w2 (DM sb db gb hb vt):=K1.trans T2.dmX (fun _ _ h=>h)
 have MM:Hid (Moved w vt vt2):=hmv K1 M2
 clear B2 T2 M2 hl1 hl q42 i0 K1 B1 D1
 obtain ⟨-,-,-,-,-,-,-,-,q40,-⟩:=D2.out.a.told
 have f40:=D2.out.a.fz 40
 have A1:=D2.out.a.putBd a
 have KS:Kept w2 (w2.setCell ⟨sb,40,none⟩ (.int .u32 a)) (·=sb):=Kept.setCell _ _ _ _ rfl
 go_wp2
 go_ret
 exact ⟨rfl,vt2,A1,B2H.out.st KS ap,K2.trans KS.dmS (fun _ _ h=>h),MM.out⟩
theorem loadd_ur (A:StAt w sb S) (B:DBus w base db rb gb kb hb b wt ht vt) (ap:Dap sb base db rb gb kb hb) (ok:S.ok) (hs:s<32) (ht':t<32) (hd:d<32) (m0:0≤m) (m1:m<4294967296) (hn:b.out.length≤1000) (hn2:b.tr.length≤1000) (hk:46≤k∧k≤53) (hg:sgI k=false) (hbad:bad (adI S k s m) (szI k)=false):Calls Tryz.prog 192 #[.pointer (some ⟨sb,0,none⟩),.pointer (some ⟨db,0,none⟩),.agg #[.int .i64 k,.int .i64 s,.int .i64 t,.int .i64 d,.int .u32 m]] w fun e w'=>e=.returned (.int .i64 (-1))∧∃ vt',StAt w' sb (S.putR t (b.val (adI S k s m) (szI k) (sgI k) S.ct))∧DBus w' base db rb gb kb hb (b.got (adI S k s m) (szI k) S.ct) wt ht vt'∧Kept w w' (DM sb db gb hb vt)∧Moved w vt vt':=by
 have had:u32 (adI S k s m):=lo_bd _
 have hsz:=szI_bd k
 have hwb:u32 (wd m 16 true):=wd_bd m0 m1 _
 have hi:=fun W=>imA k s t d m m0 m1 W
 have hpl:=fun W=>p2A (S.r s) (wd m 16 true) (ok.r s).1 (ok.r s).2 hwb.1 hwb.2 W
 have hso:=fun W=>sizeOf_any k hk W
 rw[←adI_eq S k s m hk]at hpl
 have c0:=ok.c0
 have c1:=ok.c1
 have hr:=ok.r t
 have hbA:Below w.heap.size w (w.alloc (.cells #[.int .i64 k,.int .i64 s,.int .i64 t,.int .i64 d,.int .u32 m] 113)):=(Below.refl _ _).alloc (Nat.le_refl _) _
 have D0:Hid (Dq (w.alloc (.cells #[.int .i64 k,.int .i64 s,.int .i64 t,.int .i64 d,.int .u32 m] 113)) w.heap.size sb S k s t d m):=Dq.start A ok k hs ht' hd m0 m1
 have B0:Hid (DBus (w.alloc (.cells #[.int .i64 k,.int .i64 s,.int .i64 t,.int .i64 d,.int .u32 m] 113)) base db rb gb kb hb b wt ht vt):=B.stays hbA
 have K0:Kept w (w.alloc (.cells #[.int .i64 k,.int .i64 s,.int .i64 t,.int .i64 d,.int .u32 m] 113)) (DM sb db gb hb vt):=Kept.of_below _ hbA
 have hfar:¬ DX db gb hb vt w.heap.size:=B.far (Nat.le_refl _)
 have hnos:¬ DX db gb hb vt sb:=ap.no B
 have hmv:∀ {w1:World} {x y:Value},Kept w w1 (DM sb db gb hb vt)→Moved w1 x y→Moved w x y:=fun h1 h k hk=>(h k hk).imp id (fun e=>Nat.le_trans h1.size e)
 have hmv:=@hmv
 clear A B hbA
 have hl:=fun (W:World) (X:DBus W base db rb gb kb hb b wt ht vt)=>dbload_all X (adI S k s m) (szI k) S.ct (sgI k) had.1 had.2 (by omega) (by omega) c0 (by omega) hn2
 have her:erD (adI S k s m) (szI k)=0:=erD_zero hbad
 rw[her]at hl
 rw[hg]at hso hl ⊢
 rw[if_neg (by decide)]at hso
 clear hg hbad
 generalize b.val (adI S k s m) (szI k) false S.ct=v at *
 generalize b.got (adI S k s m) (szI k) S.ct=bg at *
 clear her
 generalize adI S k s m=a at *
 generalize szI k=z at *
 generalize wd m 16 true=wi at *
 obtain ⟨z0,z1⟩:=hsz
 obtain ⟨a0,a1⟩:=had
 have hzd:decide (z<0)=false:=by simp;omega
 go_enter Tryz.func192,Tryz.ntmps192
 go_upto_region 1 with fail
 generalize w.alloc (.cells #[.int .i64 k,.int .i64 s,.int .i64 t,.int .i64 d,.int .u32 m] 113)=W at *
 generalize w.heap.size=ib at *
 have i0:=D0.out.i0
 have i1:=D0.out.i1
 have i2:=D0.out.i2
 have i3:=D0.out.i3
 have i4:=D0.out.i4
 have qs:=D0.out.a.reg D0.out.hs
 have fs:=D0.out.a.fz s
 have hs':(s:Int)<32:=by have:=D0.out.hs;omega
 clear i0 i2 i3 i4 qs fs i1
 go_upto_region 1 with fail
 refine zP 11 [(0,0),(1,0),(2,1),(3,0),(4,0),(5,0),(6,1),(7,1),(8,2),(9,2),(10,0)] (fun W=>Dq W ib sb S k s t d m) (by kernel_rfl) (by kernel_rfl) (fun _ _ _ d _ h=>by cases d<;>first|exact h|exact Dq.drew h) D0.out.drew ?_
 repeat (first|(refine zF (by rfl) (by rfl) (fun W=>by (go_simp;try with_reducible rfl)) (fun K hK=>?_);go_simp;refine hK _ ?_;clear hK K)|(refine zQ (by rfl) (by rfl) (fun W hW=>by (have i0:=hW.i0;have i1:=hW.i1;have i2:=hW.i2;have i3:=hW.i3;have i4:=hW.i4;have qs:=hW.a.reg hW.hs;go_simp;try with_reducible rfl)) (fun K hK=>?_);go_simp;refine hK _ ?_;clear hK K))
 refine zSr (by rfl) (by rfl) (fun K hK=>?_)
 go_simp
 refine (hi _).mono ?_
 rintro e_ w_ ⟨rfl,hbx⟩
 refine hK _ _ (fun _=>D0.out.drew.stays hbx) ?_
 clear hK K
 repeat (first|(refine zF (by rfl) (by rfl) (fun W=>by (go_simp;try with_reducible rfl)) (fun K hK=>?_);go_simp;refine hK _ ?_;clear hK K)|(refine zQ (by rfl) (by rfl) (fun W hW=>by (have i0:=hW.i0;have i1:=hW.i1;have i2:=hW.i2;have i3:=hW.i3;have i4:=hW.i4;have qs:=hW.a.reg hW.hs;go_simp;try with_reducible rfl)) (fun K hK=>?_);go_simp;refine hK _ ?_;clear hK K))
 refine zSr (by rfl) (by rfl) (fun K hK=>?_)
 go_simp
 refine (hpl _).mono ?_
 rintro e_ w_ ⟨rfl,rfl⟩
 refine hK _ _ (fun _=>D0.out.drew.stays hbx) ?_
 clear hK K
 repeat (first|(refine zF (by rfl) (by rfl) (fun W=>by (go_simp;try with_reducible rfl)) (fun K hK=>?_);go_simp;refine hK _ ?_;clear hK K)|(refine zQ (by rfl) (by rfl) (fun W hW=>by (have i0:=hW.i0;have i1:=hW.i1;have i2:=hW.i2;have i3:=hW.i3;have i4:=hW.i4;have qs:=hW.a.reg hW.hs;go_simp;try with_reducible rfl)) (fun K hK=>?_);go_simp;refine hK _ ?_;clear hK K))
 refine zN ?_
 have D1:Hid (Dq w_ ib sb S k s t d m):=D0.out.drew.stays hbx
 have B1:Hid (DBus w_ base db rb gb kb hb b wt ht vt):=(B0.out.stays (below_drew (Below.refl _ _))).stays hbx
 have K1:Kept w w_ (DM sb db gb hb vt):=(K0.trans (Kept.drew _ _) (fun _ _ h=>h)).trans (Kept.of_below _ hbx) (fun _ _ h=>h)
 clear hbx D0 B0 K0
 generalize w_=W1 at *
 have i0:=D1.out.i0
 obtain ⟨-,-,-,-,-,-,-,-,-,-,q42⟩:=D1.out.a.told
 have hl1:=hl W1 B1.out
 go_wp2_with (go_at_call 232;refine (hso _).mono ?_;rintro e w2 ⟨rfl,rfl⟩)
 refine hl1.mono ?_
 rintro e w2 ⟨rfl,vt2,B2,T2,M2⟩
 have D2:Hid (Dq w2 ib sb S k s t d m):=D1.out.kept T2 hfar hnos
 have B2H:Hid (DBus w2 base db rb gb kb hb bg wt ht vt2):=B2
 have K2:Kept w w2 (DM sb db gb hb vt):=K1.trans T2.dmX (fun _ _ h=>h)
 have MM:Hid (Moved w vt vt2):=hmv K1 M2
 clear B2 T2 M2 hl1 hl q42 i0 K1 B1 D1
 have qt:=D2.out.a.reg D2.out.ht
 have ft:=D2.out.a.fz t
 have ht':(t:Int)<32:=by have:=D2.out.ht;omega
 go_upto_region 10 with fail
 obtain ⟨W,hWe⟩:∃ W,W=w2:=⟨_,rfl⟩
 rw[←hWe]at D2 B2H K2 qt ft ⊢
 clear hWe
 refine zP 7 [(0,0),(1,0),(2,1),(3,0),(4,0),(5,0),(6,0),(7,2)] (fun W=>Dq W ib sb S k s t d m) (by kernel_rfl) (by kernel_rfl) (fun _ _ _ d _ h=>by cases d<;>first|exact h|exact Dq.drew h) D2.out.drew ?_
 repeat (first|(refine zF (by rfl) (by rfl) (fun W=>by (go_simp;try with_reducible rfl)) (fun K hK=>?_);go_simp;refine hK _ ?_;clear hK K)|(refine zQ (by rfl) (by rfl) (fun W hW=>by (have i2:=hW.i2;go_simp;try with_reducible rfl)) (fun K hK=>?_);go_simp;refine hK _ ?_;clear hK K))
 refine zSr (by rfl) (by rfl) (fun K hK=>?_)
 go_simp
 refine hK _ _ (fun h=>absurd h (by decide)) ?_
 clear hK K
 refine zN ?_
 have A1:=(D2.out.a.putR t D2.out.ht v).drew
 have KS:Kept W (W.setCell ⟨sb,t,none⟩ (.int .u32 v)).drew (·=sb):=((Kept.refl W (·=sb)).put t (.int .u32 v)).trans (Kept.drew _ _) (fun _ _ h=>h)
 clear qt ft
 generalize (W.setCell ⟨sb,t,none⟩ (.int .u32 v)).drew=W3 at *
 go_wp2
 go_ret
 exact ⟨rfl,vt2,A1,B2H.out.st KS ap,K2.trans KS.dmS (fun _ _ h=>h),MM.out⟩
theorem stored_w (A:StAt w sb S) (B:DBus w base db rb gb kb hb b wt ht vt) (ap:Dap sb base db rb gb kb hb) (ok:S.ok) (hs:s<32) (ht':t<32) (hd:d<32) (m0:0≤m) (m1:m<4294967296) (hn:b.out.length≤1000) (hn2:b.tr.length≤1000) (hk:46≤k∧k≤53) (hg:sgI k=false) (hbad:bad (adI S k s m) (szI k)=true):Calls Tryz.prog 193 #[.pointer (some ⟨sb,0,none⟩),.pointer (some ⟨db,0,none⟩),.agg #[.int .i64 k,.int .i64 s,.int .i64 t,.int .i64 d,.int .u32 m]] w fun e w'=>e=.returned (.int .i64 5)∧∃ vt',StAt w' sb { S with bd:=adI S k s m }∧DBus w' base db rb gb kb hb (b.put (adI S k s m) (szI k) (S.r t) S.ct) wt (htD wt ht (adI S k s m) (szI k)) vt'∧Kept w w' (DM sb db gb hb vt)∧Moved w vt vt':=by
 have had:u32 (adI S k s m):=lo_bd _
 have hsz:=szI_bd k
 have hwb:u32 (wd m 16 true):=wd_bd m0 m1 _
 have hi:=fun W=>imA k s t d m m0 m1 W
 have hpl:=fun W=>p2A (S.r s) (wd m 16 true) (ok.r s).1 (ok.r s).2 hwb.1 hwb.2 W
 have hso:=fun W=>sizeOf_any k hk W
 rw[←adI_eq S k s m hk]at hpl
 have c0:=ok.c0
 have c1:=ok.c1
 have hr:=ok.r t
 have hbA:Below w.heap.size w (w.alloc (.cells #[.int .i64 k,.int .i64 s,.int .i64 t,.int .i64 d,.int .u32 m] 113)):=(Below.refl _ _).alloc (Nat.le_refl _) _
 have D0:Hid (Dq (w.alloc (.cells #[.int .i64 k,.int .i64 s,.int .i64 t,.int .i64 d,.int .u32 m] 113)) w.heap.size sb S k s t d m):=Dq.start A ok k hs ht' hd m0 m1
 have B0:Hid (DBus (w.alloc (.cells #[.int .i64 k,.int .i64 s,.int .i64 t,.int .i64 d,.int .u32 m] 113)) base db rb gb kb hb b wt ht vt):=B.stays hbA
 have K0:Kept w (w.alloc (.cells #[.int .i64 k,.int .i64 s,.int .i64 t,.int .i64 d,.int .u32 m] 113)) (DM sb db gb hb vt):=Kept.of_below _ hbA
 have hfar:¬ DX db gb hb vt w.heap.size:=B.far (Nat.le_refl _)
 have hnos:¬ DX db gb hb vt sb:=ap.no B
 have hmv:∀ {w1:World} {x y:Value},Kept w w1 (DM sb db gb hb vt)→Moved w1 x y→Moved w x y:=fun h1 h k hk=>(h k hk).imp id (fun e=>Nat.le_trans h1.size e)
 have hmv:=@hmv
 clear A B hbA
 have hl:=fun (W:World) (X:DBus W base db rb gb kb hb b wt ht vt)=>dbstore_all X (adI S k s m) (szI k) (S.r t) S.ct had.1 had.2 (by omega) (by omega) hr.1 hr.2 hn hn2
 have her:0<erD (adI S k s m) (szI k):=erD_pos hbad
 rw[hg,if_neg (by decide)]at hso
 clear hg hbad
 generalize b.put (adI S k s m) (szI k) (S.r t) S.ct=bg at *
 generalize htD wt ht (adI S k s m) (szI k)=hg at *
 generalize erD (adI S k s m) (szI k)=er at *
 generalize adI S k s m=a at *
 generalize szI k=z at *
 generalize wd m 16 true=wi at *
 obtain ⟨z0,z1⟩:=hsz
 obtain ⟨a0,a1⟩:=had
 go_enter Tryz.func193,Tryz.ntmps193
 go_upto_region 1 with fail
 generalize w.alloc (.cells #[.int .i64 k,.int .i64 s,.int .i64 t,.int .i64 d,.int .u32 m] 113)=W at *
 generalize w.heap.size=ib at *
 have i0:=D0.out.i0
 have i1:=D0.out.i1
 have i2:=D0.out.i2
 have i3:=D0.out.i3
 have i4:=D0.out.i4
 have qs:=D0.out.a.reg D0.out.hs
 have fs:=D0.out.a.fz s
 have hs':(s:Int)<32:=by have:=D0.out.hs;omega
 clear i0 i2 i3 i4 qs fs i1
 go_upto_region 1 with fail
 refine zP 11 [(0,0),(1,0),(2,1),(3,0),(4,0),(5,0),(6,1),(7,1),(8,2),(9,2),(10,0)] (fun W=>Dq W ib sb S k s t d m) (by kernel_rfl) (by kernel_rfl) (fun _ _ _ d _ h=>by cases d<;>first|exact h|exact Dq.drew h) D0.out.drew ?_
 repeat (first|(refine zF (by rfl) (by rfl) (fun W=>by (go_simp;try with_reducible rfl)) (fun K hK=>?_);go_simp;refine hK _ ?_;clear hK K)|(refine zQ (by rfl) (by rfl) (fun W hW=>by (have i0:=hW.i0;have i1:=hW.i1;have i2:=hW.i2;have i3:=hW.i3;have i4:=hW.i4;have qs:=hW.a.reg hW.hs;go_simp;try with_reducible rfl)) (fun K hK=>?_);go_simp;refine hK _ ?_;clear hK K))
 refine zSr (by rfl) (by rfl) (fun K hK=>?_)
 go_simp
 refine (hi _).mono ?_
 rintro e_ w_ ⟨rfl,hbx⟩
 refine hK _ _ (fun _=>D0.out.drew.stays hbx) ?_
 clear hK K
 repeat (first|(refine zF (by rfl) (by rfl) (fun W=>by (go_simp;try with_reducible rfl)) (fun K hK=>?_);go_simp;refine hK _ ?_;clear hK K)|(refine zQ (by rfl) (by rfl) (fun W hW=>by (have i0:=hW.i0;have i1:=hW.i1;have i2:=hW.i2;have i3:=hW.i3;have i4:=hW.i4;have qs:=hW.a.reg hW.hs;go_simp;try with_reducible rfl)) (fun K hK=>?_);go_simp;refine hK _ ?_;clear hK K))
 refine zSr (by rfl) (by rfl) (fun K hK=>?_)
 go_simp
 refine (hpl _).mono ?_
 rintro e_ w_ ⟨rfl,rfl⟩
 refine hK _ _ (fun _=>D0.out.drew.stays hbx) ?_
 clear hK K
 repeat (first|(refine zF (by rfl) (by rfl) (fun W=>by (go_simp;try with_reducible rfl)) (fun K hK=>?_);go_simp;refine hK _ ?_;clear hK K)|(refine zQ (by rfl) (by rfl) (fun W hW=>by (have i0:=hW.i0;have i1:=hW.i1;have i2:=hW.i2;have i3:=hW.i3;have i4:=hW.i4;have qs:=hW.a.reg hW.hs;go_simp;try with_reducible rfl)) (fun K hK=>?_);go_simp;refine hK _ ?_;clear hK K))
 refine zN ?_
 have D1:Hid (Dq w_ ib sb S k s t d m):=D0.out.drew.stays hbx
 have B1:Hid (DBus w_ base db rb gb kb hb b wt ht vt):=(B0.out.stays (below_drew (Below.refl _ _))).stays hbx
 have K1:Kept w w_ (DM sb db gb hb vt):=(K0.trans (Kept.drew _ _) (fun _ _ h=>h)).trans (Kept.of_below _ hbx) (fun _ _ h=>h)
 clear hbx D0 B0 K0
 generalize w_=W1 at *
 have hl1:=hl W1.drew (B1.out.stays (below_drew (Below.refl _ _)))
 have qt:=D1.out.a.reg D1.out.ht
 have ft:=D1.out.a.fz t
 have ht':(t:Int)<32:=by have:=D1.out.ht;omega
 clear qt ft
 go_upto_region 2 with fail
 refine zP 18 [(0,0),(1,0),(2,0),(3,1),(5,0),(6,0),(7,1),(8,0),(9,0),(10,0),(11,1),(12,0),(13,0),(14,0),(15,1),(4,2),(16,2),(17,0)] (fun W=>Dq W ib sb S k s t d m) (by kernel_rfl) (by kernel_rfl) (fun _ _ _ d _ h=>by cases d<;>first|exact h|exact Dq.drew h) D1.out.drew ?_
 repeat (first|(refine zF (by rfl) (by rfl) (fun W=>by (go_simp;try with_reducible rfl)) (fun K hK=>?_);go_simp;refine hK _ ?_;clear hK K)|(refine zQ (by rfl) (by rfl) (fun W hW=>by (have i0:=hW.i0;have i2:=hW.i2;have qt:=hW.a.reg hW.ht;have q42:=hW.a.told.2.2.2.2.2.2.2.2.2.2;go_simp;try with_reducible rfl)) (fun K hK=>?_);go_simp;refine hK _ ?_;clear hK K))
 refine zSr (by rfl) (by rfl) (fun K hK=>?_)
 go_simp
 refine (hso _).mono ?_
 rintro e_ w_ ⟨rfl,rfl⟩
 refine hK _ _ (fun _=>D1.out.drew) ?_
 clear hK K
 repeat (first|(refine zF (by rfl) (by rfl) (fun W=>by (go_simp;try with_reducible rfl)) (fun K hK=>?_);go_simp;refine hK _ ?_;clear hK K)|(refine zQ (by rfl) (by rfl) (fun W hW=>by (have i0:=hW.i0;have i2:=hW.i2;have qt:=hW.a.reg hW.ht;have q42:=hW.a.told.2.2.2.2.2.2.2.2.2.2;go_simp;try with_reducible rfl)) (fun K hK=>?_);go_simp;refine hK _ ?_;clear hK K))
 refine zSr (by rfl) (by rfl) (fun K hK=>?_)
 go_simp
 refine hl1.mono ?_
 rintro e_ w2 ⟨rfl,vt2,B2,T2,M2⟩
 refine hK _ _ (fun _=>D1.out.drew.kept T2 hfar hnos) ?_
 clear hK K
 repeat (first|(refine zF (by rfl) (by rfl) (fun W=>by (go_simp;try with_reducible rfl)) (fun K hK=>?_);go_simp;refine hK _ ?_;clear hK K)|(refine zQ (by rfl) (by rfl) (fun W hW=>by (have i0:=hW.i0;have i2:=hW.i2;have qt:=hW.a.reg hW.ht;have q42:=hW.a.told.2.2.2.2.2.2.2.2.2.2;go_simp;try with_reducible rfl)) (fun K hK=>?_);go_simp;refine hK _ ?_;clear hK K))
 refine zN ?_
 have D2:Hid (Dq w2 ib sb S k s t d m):=D1.out.drew.kept T2 hfar hnos
 have B2H:Hid (DBus w2 base db rb gb kb hb bg wt hg vt2):=B2
 have KD:Kept w W1.drew (DM sb db gb hb vt):=K1.trans (Kept.drew _ _) (fun _ _ h=>h)
 have K2:Kept w w2 (DM sb db gb hb vt):=KD.trans T2.dmX (fun _ _ h=>h)
 have MM:Hid (Moved w vt vt2):=hmv KD M2
 clear B2 T2 M2 hl1 hl K1 B1 D1 KD
 generalize w2=W2 at *
 obtain ⟨-,-,-,-,-,-,-,-,q40,-⟩:=D2.out.a.told
 have f40:=D2.out.a.fz 40
 have A1:=D2.out.a.putBd a
 have KS:Kept W2 (W2.setCell ⟨sb,40,none⟩ (.int .u32 a)) (·=sb):=Kept.setCell _ _ _ _ rfl
 go_wp2
 go_ret
 exact ⟨rfl,vt2,A1,B2H.out.st KS ap,K2.trans KS.dmS (fun _ _ h=>h),MM.out⟩
theorem stored_r (A:StAt w sb S) (B:DBus w base db rb gb kb hb b wt ht vt) (ap:Dap sb base db rb gb kb hb) (ok:S.ok) (hs:s<32) (ht':t<32) (hd:d<32) (m0:0≤m) (m1:m<4294967296) (hn:b.out.length≤1000) (hn2:b.tr.length≤1000) (hk:46≤k∧k≤53) (hg:sgI k=false) (hbad:bad (adI S k s m) (szI k)=false):Calls Tryz.prog 193 #[.pointer (some ⟨sb,0,none⟩),.pointer (some ⟨db,0,none⟩),.agg #[.int .i64 k,.int .i64 s,.int .i64 t,.int .i64 d,.int .u32 m]] w fun e w'=>e=.returned (.int .i64 (-1))∧∃ vt',StAt w' sb S∧DBus w' base db rb gb kb hb (b.put (adI S k s m) (szI k) (S.r t) S.ct) wt (htD wt ht (adI S k s m) (szI k)) vt'∧Kept w w' (DM sb db gb hb vt)∧Moved w vt vt':=by
 have had:u32 (adI S k s m):=lo_bd _
 have hsz:=szI_bd k
 have hwb:u32 (wd m 16 true):=wd_bd m0 m1 _
 have hi:=fun W=>imA k s t d m m0 m1 W
 have hpl:=fun W=>p2A (S.r s) (wd m 16 true) (ok.r s).1 (ok.r s).2 hwb.1 hwb.2 W
 have hso:=fun W=>sizeOf_any k hk W
 rw[←adI_eq S k s m hk]at hpl
 have c0:=ok.c0
 have c1:=ok.c1
 have hr:=ok.r t
 have hbA:Below w.heap.size w (w.alloc (.cells #[.int .i64 k,.int .i64 s,.int .i64 t,.int .i64 d,.int .u32 m] 113)):=(Below.refl _ _).alloc (Nat.le_refl _) _
 have D0:Hid (Dq (w.alloc (.cells #[.int .i64 k,.int .i64 s,.int .i64 t,.int .i64 d,.int .u32 m] 113)) w.heap.size sb S k s t d m):=Dq.start A ok k hs ht' hd m0 m1
 have B0:Hid (DBus (w.alloc (.cells #[.int .i64 k,.int .i64 s,.int .i64 t,.int .i64 d,.int .u32 m] 113)) base db rb gb kb hb b wt ht vt):=B.stays hbA
 have K0:Kept w (w.alloc (.cells #[.int .i64 k,.int .i64 s,.int .i64 t,.int .i64 d,.int .u32 m] 113)) (DM sb db gb hb vt):=Kept.of_below _ hbA
 have hfar:¬ DX db gb hb vt w.heap.size:=B.far (Nat.le_refl _)
 have hnos:¬ DX db gb hb vt sb:=ap.no B
 have hmv:∀ {w1:World} {x y:Value},Kept w w1 (DM sb db gb hb vt)→Moved w1 x y→Moved w x y:=fun h1 h k hk=>(h k hk).imp id (fun e=>Nat.le_trans h1.size e)
 have hmv:=@hmv
 clear A B hbA
 have hl:=fun (W:World) (X:DBus W base db rb gb kb hb b wt ht vt)=>dbstore_all X (adI S k s m) (szI k) (S.r t) S.ct had.1 had.2 (by omega) (by omega) hr.1 hr.2 hn hn2
 have her:erD (adI S k s m) (szI k)=0:=erD_zero hbad
 rw[her]at hl
 rw[hg,if_neg (by decide)]at hso
 clear hg hbad
 generalize b.put (adI S k s m) (szI k) (S.r t) S.ct=bg at *
 generalize htD wt ht (adI S k s m) (szI k)=hg at *
 clear her
 generalize adI S k s m=a at *
 generalize szI k=z at *
 generalize wd m 16 true=wi at *
 obtain ⟨z0,z1⟩:=hsz
 obtain ⟨a0,a1⟩:=had
 go_enter Tryz.func193,Tryz.ntmps193
 go_upto_region 1 with fail
 generalize w.alloc (.cells #[.int .i64 k,.int .i64 s,.int .i64 t,.int .i64 d,.int .u32 m] 113)=W at *
 generalize w.heap.size=ib at *
 have i0:=D0.out.i0
 have i1:=D0.out.i1
 have i2:=D0.out.i2
 have i3:=D0.out.i3
 have i4:=D0.out.i4
 have qs:=D0.out.a.reg D0.out.hs
 have fs:=D0.out.a.fz s
 have hs':(s:Int)<32:=by have:=D0.out.hs;omega
 clear i0 i2 i3 i4 qs fs i1
 go_upto_region 1 with fail
 refine zP 11 [(0,0),(1,0),(2,1),(3,0),(4,0),(5,0),(6,1),(7,1),(8,2),(9,2),(10,0)] (fun W=>Dq W ib sb S k s t d m) (by kernel_rfl) (by kernel_rfl) (fun _ _ _ d _ h=>by cases d<;>first|exact h|exact Dq.drew h) D0.out.drew ?_
 repeat (first|(refine zF (by rfl) (by rfl) (fun W=>by (go_simp;try with_reducible rfl)) (fun K hK=>?_);go_simp;refine hK _ ?_;clear hK K)|(refine zQ (by rfl) (by rfl) (fun W hW=>by (have i0:=hW.i0;have i1:=hW.i1;have i2:=hW.i2;have i3:=hW.i3;have i4:=hW.i4;have qs:=hW.a.reg hW.hs;go_simp;try with_reducible rfl)) (fun K hK=>?_);go_simp;refine hK _ ?_;clear hK K))
 refine zSr (by rfl) (by rfl) (fun K hK=>?_)
 go_simp
 refine (hi _).mono ?_
 rintro e_ w_ ⟨rfl,hbx⟩
 refine hK _ _ (fun _=>D0.out.drew.stays hbx) ?_
 clear hK K
 repeat (first|(refine zF (by rfl) (by rfl) (fun W=>by (go_simp;try with_reducible rfl)) (fun K hK=>?_);go_simp;refine hK _ ?_;clear hK K)|(refine zQ (by rfl) (by rfl) (fun W hW=>by (have i0:=hW.i0;have i1:=hW.i1;have i2:=hW.i2;have i3:=hW.i3;have i4:=hW.i4;have qs:=hW.a.reg hW.hs;go_simp;try with_reducible rfl)) (fun K hK=>?_);go_simp;refine hK _ ?_;clear hK K))
 refine zSr (by rfl) (by rfl) (fun K hK=>?_)
 go_simp
 refine (hpl _).mono ?_
 rintro e_ w_ ⟨rfl,rfl⟩
 refine hK _ _ (fun _=>D0.out.drew.stays hbx) ?_
 clear hK K
 repeat (first|(refine zF (by rfl) (by rfl) (fun W=>by (go_simp;try with_reducible rfl)) (fun K hK=>?_);go_simp;refine hK _ ?_;clear hK K)|(refine zQ (by rfl) (by rfl) (fun W hW=>by (have i0:=hW.i0;have i1:=hW.i1;have i2:=hW.i2;have i3:=hW.i3;have i4:=hW.i4;have qs:=hW.a.reg hW.hs;go_simp;try with_reducible rfl)) (fun K hK=>?_);go_simp;refine hK _ ?_;clear hK K))
 refine zN ?_
 have D1:Hid (Dq w_ ib sb S k s t d m):=D0.out.drew.stays hbx
 have B1:Hid (DBus w_ base db rb gb kb hb b wt ht vt):=(B0.out.stays (below_drew (Below.refl _ _))).stays hbx
 have K1:Kept w w_ (DM sb db gb hb vt):=(K0.trans (Kept.drew _ _) (fun _ _ h=>h)).trans (Kept.of_below _ hbx) (fun _ _ h=>h)
 clear hbx D0 B0 K0
 generalize w_=W1 at *
 have hl1:=hl W1.drew (B1.out.stays (below_drew (Below.refl _ _)))
 have qt:=D1.out.a.reg D1.out.ht
 have ft:=D1.out.a.fz t
 have ht':(t:Int)<32:=by have:=D1.out.ht;omega
 clear qt ft
 go_upto_region 2 with fail
 refine zP 18 [(0,0),(1,0),(2,0),(3,1),(5,0),(6,0),(7,1),(8,0),(9,0),(10,0),(11,1),(12,0),(13,0),(14,0),(15,1),(4,2),(16,2),(17,0)] (fun W=>Dq W ib sb S k s t d m) (by kernel_rfl) (by kernel_rfl) (fun _ _ _ d _ h=>by cases d<;>first|exact h|exact Dq.drew h) D1.out.drew ?_
 repeat (first|(refine zF (by rfl) (by rfl) (fun W=>by (go_simp;try with_reducible rfl)) (fun K hK=>?_);go_simp;refine hK _ ?_;clear hK K)|(refine zQ (by rfl) (by rfl) (fun W hW=>by (have i0:=hW.i0;have i2:=hW.i2;have qt:=hW.a.reg hW.ht;have q42:=hW.a.told.2.2.2.2.2.2.2.2.2.2;go_simp;try with_reducible rfl)) (fun K hK=>?_);go_simp;refine hK _ ?_;clear hK K))
 refine zSr (by rfl) (by rfl) (fun K hK=>?_)
 go_simp
 refine (hso _).mono ?_
 rintro e_ w_ ⟨rfl,rfl⟩
 refine hK _ _ (fun _=>D1.out.drew) ?_
 clear hK K
 repeat (first|(refine zF (by rfl) (by rfl) (fun W=>by (go_simp;try with_reducible rfl)) (fun K hK=>?_);go_simp;refine hK _ ?_;clear hK K)|(refine zQ (by rfl) (by rfl) (fun W hW=>by (have i0:=hW.i0;have i2:=hW.i2;have qt:=hW.a.reg hW.ht;have q42:=hW.a.told.2.2.2.2.2.2.2.2.2.2;go_simp;try with_reducible rfl)) (fun K hK=>?_);go_simp;refine hK _ ?_;clear hK K))
 refine zSr (by rfl) (by rfl) (fun K hK=>?_)
 go_simp
 refine hl1.mono ?_
 rintro e_ w2 ⟨rfl,vt2,B2,T2,M2⟩
 refine hK _ _ (fun _=>D1.out.drew.kept T2 hfar hnos) ?_
 clear hK K
 repeat (first|(refine zF (by rfl) (by rfl) (fun W=>by (go_simp;try with_reducible rfl)) (fun K hK=>?_);go_simp;refine hK _ ?_;clear hK K)|(refine zQ (by rfl) (by rfl) (fun W hW=>by (have i0:=hW.i0;have i2:=hW.i2;have qt:=hW.a.reg hW.ht;have q42:=hW.a.told.2.2.2.2.2.2.2.2.2.2;go_simp;try with_reducible rfl)) (fun K hK=>?_);go_simp;refine hK _ ?_;clear hK K))
 refine zN ?_
 have D2:Hid (Dq w2 ib sb S k s t d m):=D1.out.drew.kept T2 hfar hnos
 have B2H:Hid (DBus w2 base db rb gb kb hb bg wt hg vt2):=B2
 have KD:Kept w W1.drew (DM sb db gb hb vt):=K1.trans (Kept.drew _ _) (fun _ _ h=>h)
 have K2:Kept w w2 (DM sb db gb hb vt):=KD.trans T2.dmX (fun _ _ h=>h)
 have MM:Hid (Moved w vt vt2):=hmv KD M2
 clear B2 T2 M2 hl1 hl K1 B1 D1 KD
 generalize w2=W2 at *
 have A1:=D2.out.a
 go_wp2
 go_ret
 exact ⟨rfl,vt2,A1,B2H.out,K2,MM.out⟩
theorem loadD_any (A:StAt w sb S) (B:DBus w base db rb gb kb hb b wt ht vt) (ap:Dap sb base db rb gb kb hb) (ok:S.ok) (hs:s<32) (ht':t<32) (hd:d<32) (m0:0≤m) (m1:m<4294967296) (hn:b.out.length≤1000) (hn2:b.tr.length≤1000) (hk:46≤k∧k≤53):Calls Tryz.prog 192 #[.pointer (some ⟨sb,0,none⟩),.pointer (some ⟨db,0,none⟩),.agg #[.int .i64 k,.int .i64 s,.int .i64 t,.int .i64 d,.int .u32 m]] w fun e w'=>e=.returned (.int .i64 (if bad (adI S k s m) (szI k)=true then 4 else -1))∧∃ vt',StAt w' sb (if bad (adI S k s m) (szI k)=true then { S with bd:=adI S k s m } else S.putR t (b.val (adI S k s m) (szI k) (sgI k) S.ct))∧DBus w' base db rb gb kb hb (b.got (adI S k s m) (szI k) S.ct) wt ht vt'∧Kept w w' (DM sb db gb hb vt)∧Moved w vt vt':=by
 cases hbad:bad (adI S k s m) (szI k) with
 | true =>
  rw[if_pos rfl,if_pos rfl]
  cases hg:sgI k with
  | true=>exact loadd_sw A B ap ok hs ht' hd m0 m1 hn hn2 hk hg hbad
  | false=>exact loadd_uw A B ap ok hs ht' hd m0 m1 hn hn2 hk hg hbad
 | false =>
  rw[if_neg (by decide),if_neg (by decide)]
  cases hg:sgI k with
  | true=>have h:=loadd_sr (d:=d) A B ap ok hs ht' hd m0 m1 hn hn2 hk hg hbad;rw[hg]at h;exact h
  | false=>have h:=loadd_ur (d:=d) A B ap ok hs ht' hd m0 m1 hn hn2 hk hg hbad;rw[hg]at h;exact h
theorem storeD_any (A:StAt w sb S) (B:DBus w base db rb gb kb hb b wt ht vt) (ap:Dap sb base db rb gb kb hb) (ok:S.ok) (hs:s<32) (ht':t<32) (hd:d<32) (m0:0≤m) (m1:m<4294967296) (hn:b.out.length≤1000) (hn2:b.tr.length≤1000) (hk:51≤k∧k≤53):Calls Tryz.prog 193 #[.pointer (some ⟨sb,0,none⟩),.pointer (some ⟨db,0,none⟩),.agg #[.int .i64 k,.int .i64 s,.int .i64 t,.int .i64 d,.int .u32 m]] w fun e w'=>e=.returned (.int .i64 (if bad (adI S k s m) (szI k)=true then 5 else -1))∧∃ vt',StAt w' sb (if bad (adI S k s m) (szI k)=true then { S with bd:=adI S k s m } else S)∧DBus w' base db rb gb kb hb (b.put (adI S k s m) (szI k) (S.r t) S.ct) wt (htD wt ht (adI S k s m) (szI k)) vt'∧Kept w w' (DM sb db gb hb vt)∧Moved w vt vt':=by
 have hg:sgI k=false:=by unfold sgI;simp;omega
 cases hbad:bad (adI S k s m) (szI k) with
 | true=>rw[if_pos rfl,if_pos rfl];exact stored_w A B ap ok hs ht' hd m0 m1 hn hn2 (by omega) hg hbad
 | false=>rw[if_neg (by decide),if_neg (by decide)];exact stored_r A B ap ok hs ht' hd m0 m1 hn hn2 (by omega) hg hbad
end
section
variable {w : World} {sb : Nat} {S : St} {k s t d : Nat} {m : Int}
end
set_option maxHeartbeats 1000000
section
variable {w : World} {bx by_ bb sb bp bw bh N : Nat} {m : Nat → Int} {wt ht : Int → Bool} {out : List Int} {lamp : Int} {tr : List Acc} {vo vt : Value}
end
theorem newDBus_any {w:World} {v:Value} {xs:List Int} (X:WordsIn w v xs) (hx:xs.length≤5000) :
  Calls Tryz.prog 9 #[v] w fun e w'=>∃ db rb gb kb hb:Nat,e=.returned (.pointer (some ⟨db,0,none⟩))∧DBus w' w'.heap.size db rb gb kb hb ⟨mw xs,[],0,[]⟩ F0 F0 (.slice none 0 0)∧Below w.heap.size w w'∧w.heap.size≤db∧w.heap.size≤rb∧w.heap.size≤gb∧w.heap.size≤kb∧w.heap.size≤hb:=by
 have hnw:=dnew_any X hx
 clear X hx
 go_enter Tryz.func9,Tryz.ntmps9
 go_wp2_with fail
 refine hnw.mono ?_
 rintro e w1 ⟨rb,gb,kb,hb_,rfl,D,hb,l1,l2,l3,l4⟩
 clear hnw
 go_wp2
 go_ret
 have hA:Below w1.heap.size w1 (w1.alloc (.cells #[.pointer (some ⟨rb,0,none⟩),.string ⟨#[]⟩,.int .u32 0,.slice none 0 0] 39)):=(Below.refl _ _).alloc (Nat.le_refl _) _
 have d1:=D.lts (Or.inl rfl)
 have d2:=D.lts (Or.inr (Or.inl rfl))
 have d3:=D.lts (Or.inr (Or.inr (Or.inl rfl)))
 have d4:=D.lts (Or.inr (Or.inr (Or.inr rfl)))
 have hz:=hb.size
 refine ⟨w1.heap.size,rb,gb,kb,hb_,rfl,⟨by simp,by simp;rfl,by simp,by simp,fun j=>by simp,World.ownsRow_nil _ _ _ _,D.stays hA,by simp,by simp;omega,by simp;omega,by simp;omega,by simp;omega,by omega,by omega,by omega,by omega,Nat.le_refl _⟩,hb.trans (hA.mono hz),by omega,by omega,by omega,by omega,by omega⟩
section
variable {w : World} {bx by_ bb sb bp bw bh N : Nat} {b : Bs} {wt ht wt' ht' : Int → Bool} {vo vt : Value} {base' db rb gb kb hb : Nat} {vt' : Value}
theorem DBus.told (M:DBus w base' db rb gb kb hb b wt' ht' vt'):w.cell? ⟨db,0,none⟩=some (.pointer (some ⟨rb,0,none⟩))∧w.cell? ⟨db,1,none⟩=some (.string (outS b.out))∧w.cell? ⟨db,2,none⟩=some (.int .u32 b.lamp)∧w.cell? ⟨db,3,none⟩=some vt'∧w.cell? ⟨rb,0,none⟩=some (.slice (some ⟨gb,0,none⟩) 4096 4096):=⟨M.c0,M.c1,M.c2,M.c3,M.D.d.c0⟩
end
end Go.Proofs.YtflagpkmebdckaaGreatDoor
