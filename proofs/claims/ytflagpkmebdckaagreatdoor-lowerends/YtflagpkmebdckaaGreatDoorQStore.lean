
import Derived.StillTailTactics
import Derived.Test.YtflagpkmebdckaaGreatDoorKNum
import Derived.Test.YtflagpkmebdckaaGreatDoorKWatch
namespace Go.Proofs.YtflagpkmebdckaaGreatDoor
open Go.RowKit Go.Maps
open Num
set_option linter.unusedVariables false
set_option maxRecDepth 100000
set_option maxHeartbeats 4000000
structure Turned (w w':World) (b c:Nat):Prop where
 os:w'.os=w.os
 tape:w'.tape=w.tape
 output:w'.output=w.output
 size:w.heap.size≤w'.heap.size
 block:∀ k,k<w.heap.size→k≠b→k≠c→w'.heap[k]?=w.heap[k]?
theorem Turned.below {w0 w w':World} {B b c:Nat} (h:Turned w w' b c) (h0:Below B w0 w) (hB:B≤w0.heap.size) (hb:B≤b) (hc:B≤c):Below B w0 w' :=
 ⟨h.os.trans h0.os,h.tape.trans h0.tape,h.output.trans h0.output,Nat.le_trans h0.size h.size,fun k hk=>(h.block k (by have:=h0.size;omega) (by omega) (by omega)).trans (h0.block k hk)⟩
theorem Turned.of_below {w w2 w3:World} {b c:Nat} (t:Turned w w2 b c) (h:Below w2.heap.size w2 w3):Turned w w3 b c :=
 ⟨h.os.trans t.os,h.tape.trans t.tape,h.output.trans t.output,Nat.le_trans t.size h.size,fun k hk n1 n2=>(h.block k (Nat.lt_of_lt_of_le hk t.size)).trans (t.block k hk n1 n2)⟩
theorem Turned.of_grown {w w2 w3:World} {b c d:Nat} (t:Turned w w2 b c) (h:w2.grownBy w3 (some d)) (hd:d=b∨d=c):Turned w w3 b c :=
 ⟨h.os.trans t.os,h.tape.trans t.tape,h.output.trans t.output,Nat.le_trans t.size h.size,fun k hk n1 n2=>(h.block k (Nat.lt_of_lt_of_le hk t.size) (by intro e;injection e with e;rcases hd with hd|hd<;>omega)).trans (t.block k hk n1 n2)⟩
theorem grown_of_drew {W w2:World} {r:Option Nat} (h:W.drew.grownBy w2 r):W.grownBy w2 r:=⟨h.os,h.tape,h.output,h.size,h.block⟩
theorem RamIs.mono {w:World} {sb bp bw bh N N':Nat} {m:Nat→Int} {wt ht:Int→Bool} (R:RamIs w sb bp bw bh N m wt ht) (h:N≤N'):RamIs w sb bp bw bh N' m wt ht :=
 ⟨R.c0,R.c1,R.c2,R.pw,R.ph,R.wh,R.sp,R.sh,R.ps.mono h,R.ws.mono h,R.hs.mono h,R.mb⟩
theorem RamIs.hits {w:World} {sb bp bw bh N:Nat} {m:Nat→Int} {wt ht ht':Int→Bool} (R:RamIs w sb bp bw bh N m wt ht) (h:∀ x,ht x=ht' x):RamIs w sb bp bw bh N m wt ht':=by
 obtain rfl:ht=ht':=funext h
 exact R
theorem setRow_new (w:World) (old cs:Array Value) (t:TypeId):(w.alloc (.cells old t)).setRow w.heap.size cs=w.alloc (.cells cs t):=by
 unfold World.setRow World.alloc
 congr 1
 apply Array.ext
 ·simp
 ·intro k h1 h2
  simp only[Array.getElem_modify,Array.getElem_push]
  by_cases hk:k<w.heap.size
  ·simp[hk];omega
  ·have:k=w.heap.size:=by simp at h2;omega
   subst this;simp
theorem wpList_alloc61 {ops:Array Oper} {rest:List Oper} {o:Oper} {a:Act} {w:World} {Q:Exit→Act→World→Prop} (hg:o.guard=none) (hop:o.op=Op.alloc 101)
  (h:wpList Tryz.prog ops Q rest (a.put o.dst (.pointer (some ⟨w.heap.size,0,none⟩))) (w.alloc (.cells zeroPg 101))):wpList Tryz.prog ops Q (o :: rest) a w:=by
 refine wpList_plain hg fun K hK=>?_
 unfold Oper.wp
 have e:(execOp a.eval o).run Tryz.prog w=.ok (.value (.pointer (some ⟨w.heap.size,0,none⟩))) (w.alloc (.cells zeroPg 101)):=by
  unfold execOp;rw[hop]
  simp[Instr.alloc,newVar,newRow,Value.cells,go_sem]
  rfl
 rw[e,Oper.upon_value]
 exact hK _ _ h
theorem wpList_store61 {ops:Array Oper} {rest:List Oper} {o:Oper} {a:Act} {w:World} {Q:Exit→Act→World→Prop} (hgd:o.guard=none) (x y:Operand) (ho:o.op=.store 101 x y)
  (old cells:Array Value) (hx:a.eval x=.pointer (some ⟨w.heap.size,0,none⟩)) (hy:a.eval y=.agg cells) (ho:old.size=64) (hs:cells.size=64) (h1:cells.all (·.oneCell')=true)
  (h:wpList Tryz.prog ops Q rest (a.put o.dst undef) (w.alloc (.cells cells 101))):wpList Tryz.prog ops Q (o :: rest) a (w.alloc (.cells old 101)):=by
 refine wpList_store_row hgd 101 x y ‹_› w.heap.size cells hx hy 101 old (heap_alloc_new w _) (by rw[info61,hs]) (by omega) h1 ?_
 rw[setRow_new];exact h
theorem pgA_set (m m':Nat→Int) (n i:Nat) (x:Int) (hi:i<64) (hx:m' (64*n+i)=x) (ho:∀ j,j<64→j≠i→m' (64*n+j)=m (64*n+j)):(pgA m n).setIfInBounds i (.int .u32 x)=pgA m' n:=by
 apply Array.ext_getElem?
 intro k
 by_cases hk:k<64
 ·rw[pgA_get m' n k hk]
  by_cases e:i=k
  ·subst e;rw[Array.getElem?_setIfInBounds_self,if_pos (by rw[pgA_size];exact hk),hx]
  ·rw[Array.getElem?_setIfInBounds_ne e,pgA_get m n k hk,ho k hk (Ne.symm e)]
 ·rw[Array.getElem?_eq_none (by rw[Array.size_setIfInBounds,pgA_size];omega),Array.getElem?_eq_none (by rw[pgA_size];omega)]
theorem wpStill_load {P:Program} {ops:Array Oper} {w:World} {Q:Act→Prop} {a:Act} {o:Oper} {rest:List Oper} (hg:o.guard=none) (t:TypeId) (x:Operand) (ho:o.op=.load t x) (A:Addr) (hx:a.eval x=.pointer (some A)) (v:Value)
  (hrun:(loadVar t A).run P w=.ok v w) (h:wpStill P ops w Q rest (a.put o.dst v)):wpStill P ops w Q (o :: rest) a:=by
 refine wpStill_step fun K hK=>?_
 have hw:Region.wanted o (yielded ops a.tmps)=true:=by simp[Region.wanted,hg]
 rw[if_pos hw]
 unfold Oper.still
 have e:(execOp a.eval o).run P w=.ok (.value v) w:=by
  unfold execOp
  simp[ho,hx,Instr.loadAt,Instr.sureAddr,hrun]
 rw[e,Oper.stillUpon_value]
 exact hK _ h
theorem drew_lit (W:World):({ heap:=W.heap,tape:=W.tape,drawn:=W.drawn+1,os:=W.os,output:=W.output }:World)=W.drew:=rfl
theorem store_ok {w:World} {sb bp bw bh N:Nat} {m:Nat→Int} {wt ht:Int→Bool} (R:RamIs w sb bp bw bh N m wt ht) (a s v:Int) (h0:0≤a) (h1:a<4294967296) (v0:0≤v) (v1:v<4294967296) (hN:N+1<maxLen) (hc:chk a s=0) :
  Calls Tryz.prog 11 #[.pointer (some ⟨sb,0,none⟩),.int .u32 a,.int .i64 s,.int .u32 v] w fun e w'=>e=.returned .nilIface∧RamIs w' sb bp bw bh (N+2) (upd m a s v) wt (fun x=>if x=a/256∧wt (a/256)=true then true else ht x)∧Turned w w' bp bh:=by
 obtain ⟨hs,hm,hf⟩:=chk_ok hc
 have c0:=R.c0
 have c2:=R.c2
 have hz:sb<w.heap.size:=World.block_lt_of_cell? _ _ c0
 have hlook:(Instr.lookup 102 (.map (some bp)) (.int .i64 (a/256)) false).run Tryz.prog w=.ok (.agg (pgA m (a/256).toNat)) w:=by
  have:=R.ps.look (a/256).toNat (by omega)
  rwa [Int.toNat_of_nonneg (by omega)]at this
 have hcell:(w.alloc (.cells (pgA m (a/256).toNat) 101)).cell? ⟨w.heap.size,(a%256/4).toNat,none⟩=some (.int .u32 (m (a/4).toNat)):=by
  rw[cell_of_row _ _ _ _ _ _ (heap_alloc_new w _),pgA_get _ _ _ (by omega),show 64*(a/256).toNat+(a%256/4).toNat=(a/4).toNat by omega]
 have hck:=fun w=>check_ok a s h0 h1 hc w
 have hbits:=fun w=>bits_any a s h0 h1 hc w
 have hb0:0≤bhd a s∧bhd a s≤24:=by unfold bhd;rcases hs with rfl|rfl|rfl<;>omega
 obtain ⟨b0,b1⟩:=hb0
 have mb:=R.mb (a/4).toNat
 have hs':1≤s∧s≤4:=by omega
 obtain ⟨s0,s1⟩:=hs'
 have HS:Hid ((s=1∨s=2∨s=4)∧a%s=0):=⟨hs,hm⟩
 have RH:Hid (RamIs w sb bp bw bh N m wt ht):=R
 clear R hs hm hc
 go_enter Tryz.func11,Tryz.ntmps11
 go_upto_region 9 with (first|(go_at_call 38;refine (ready_old RH.out).mono ?_;rintro e w' ⟨rfl,rfl⟩)|(refine wpList_alloc61 rfl rfl ?_)|(refine wpList_store61 rfl _ _ rfl zeroPg (pgA m (a/256).toNat) rfl rfl (pgA_size _ _) (pgA_size _ _) (pgA_one _ _) ?_)|(go_at_call 37;refine (hck _).mono ?_;rintro e w' ⟨rfl,rfl⟩)|(go_at_call 39;refine (pageOf_any _ h0 h1 _).mono ?_;rintro e w' ⟨rfl,rfl⟩)|(go_at_call 40;refine (wordOf_any _ h0 h1 _).mono ?_;rintro e w' ⟨rfl,rfl⟩)|(go_at_call 41;refine (hbits _).mono ?_;rintro e w' ⟨rfl,rfl⟩)|(go_at_call 42;refine (wide_any _ _ _ (by omega) (by omega) _).mono ?_;rintro e w' ⟨rfl,rfl⟩))
 have hpg:((pgA m (a/256).toNat).setIfInBounds (a%256/4).toNat (.int .u32 (bits .or .u32 (bits .andNot .u32 (m (a/4).toNat) (wd 4294967295 (8*s) false*2^(bhd a s).toNat%4294967296)) (bits .and .u32 (v*2^(bhd a s).toNat%4294967296) (wd 4294967295 (8*s) false*2^(bhd a s).toNat%4294967296)))))=pgA (upd m a s v) (a/256).toNat:=by
  rw[stw_all _ v a s HS.out.1 HS.out.2 mb.1 mb.2 v0]
  refine pgA_set m _ _ _ _ (by omega) ?_ (fun j hj hne=>?_)
  ·unfold upd;rw[if_pos (by omega),show 64*(a/256).toNat+(a%256/4).toNat=(a/4).toNat by omega]
  ·unfold upd;rw[if_neg (by omega)]
 rw[hpg]
 clear hpg hcell hlook hck hbits mb
 have hrow:=heap_alloc_new w' (.cells (pgA (upd m a s v) (a/256).toNat) 101)
 have C0:(w'.alloc (.cells (pgA (upd m a s v) (a/256).toNat) 101)).cell? ⟨sb,0,none⟩=some (.map (some bp)):=(World.grownBy_alloc w' _ none).cell c0 (by simp)
 have R1:Hid (RamIs (w'.alloc (.cells (pgA (upd m a s v) (a/256).toNat) 101)) sb bp bw bh N m wt ht):=RH.out.grow (World.grownBy_alloc w' _ none)
 have hB:Hid (w'.grownBy (w'.alloc (.cells (pgA (upd m a s v) (a/256).toNat) 101)) none):=World.grownBy_alloc w' _ none
 have hload:(loadVar 101 ⟨w'.heap.size,0,none⟩).run Tryz.prog (w'.alloc (.cells (pgA (upd m a s v) (a/256).toNat) 101)).drew=.ok (.agg (pgA (upd m a s v) (a/256).toNat)) (w'.alloc (.cells (pgA (upd m a s v) (a/256).toNat) 101)).drew :=
  run_loadVar_row _ _ _ _ _ _ _ hrow Tryz.underlying101 rfl (by rw[info61,pgA_size])
 generalize w'.alloc (.cells (pgA (upd m a s v) (a/256).toNat) 101)=W1 at *
 clear hrow
 have hk:Hid (keyOf Tryz.prog 3 (.int .i64 (a/256))=some (.int .i64 ((a/256).toNat:Int))):=by
  show _=_;rw[Int.toNat_of_nonneg (by omega)];exact key3 (by omega) (by omega)
 refine wp_region_still_tail 6 (by kernel_rfl) (by kernel_rfl) ?_
 simp only[List.take_succ_cons,List.take_zero,List.drop_succ_cons,List.drop_zero,drew_lit]
 still_step
 still_step
 still_step
 still_step
 still_step
 refine wpStill_load rfl 101 _ rfl _ rfl _ hload ?_
 refine wpStill_nil ?_
 obtain ⟨D,hE1,hD2⟩:=R1.out.ps
 have hD1:W1.drew.ownsMap Tryz.prog 3 heldE bp N D:=hE1
 refine wpList_mapUpdate_own _ rfl _ _ _ 102 rfl 3 101 law3 Tryz.underlying102 heldE bp N D rfl hD1 (by omega) _ _ _ rfl rfl hk.out _ [] rfl ?_
 intro w2 hown2 hg2
 have G2:Hid (W1.grownBy w2 (some bp)):=grown_of_drew hg2
 have R2:RamIs w2 sb bp bw bh (N+1) (upd m a s v) wt ht:=by
  have r:=R1.out
  have g:=G2.out
  have hps:PagesAt w2 bp (N+1) (upd m a s v):=by
   refine PagesAt.put (w:=w2) (m:=m) ?_ hD2 hE1.isMap hown2
   intro k hk hne
   apply pgA_congr
   intro i hi
   unfold upd;rw[if_neg (by omega)]
  exact ⟨g.cell r.c0 (by simp[r.sp]),g.cell r.c1 (by simp[r.sp]),g.cell r.c2 (by simp[r.sp]),r.pw,r.ph,r.wh,r.sp,r.sh,hps,(r.ws.kept g (by simp[Ne.symm r.pw])).mono (by omega),(r.hs.kept g (by simp[Ne.symm r.ph])).mono (by omega),upd_bd m a s v HS.out.1 HS.out.2 r.mb⟩
 have T2:Hid (Turned w' w2 bp bh):=by
  have g1:=hB.out
  have g2:=G2.out
  exact ⟨g2.os.trans g1.os,g2.tape.trans g1.tape,g2.output.trans g1.output,Nat.le_trans g1.size g2.size,fun k hk n1 n2=>(g2.block k (Nat.lt_of_lt_of_le hk g1.size) (by simp[n1])).trans (g1.block k hk (by simp))⟩
 have RR:Hid (RamIs w2 sb bp bw bh (N+1) (upd m a s v) wt ht):=R2
 clear R2 hown2 hg2 hD1 hE1 hD2 D hk hload hB C0 G2 R1 RH HS hf
 cases hw:wt (a/256) with
 | false =>
  go_wp2_with (go_at_call 43;refine (watched_any RR.out a h0 h1).mono ?_;rintro e w3 ⟨rfl,hb3⟩)
  go_ret
  refine ⟨rfl,?_,?_⟩
  ·exact ((RR.out.stays hb3 (Nat.le_refl _)).mono (by omega)).hits (fun x=>by simp[hw])
  ·exact T2.out.of_below hb3
 | true =>
  go_wp2_with fail
  refine (watched_any RR.out a h0 h1).mono ?_
  rintro e w3 ⟨rfl,hb3⟩
  rw[hw]
  have R3:=RR.out.stays hb3 (Nat.le_refl _)
  have c2':=R3.c2
  obtain ⟨D,hD1,hD2⟩:=R3.hs
  have hk:=key3 (n:=a/256) (by omega) (by omega)
  have R3:Hid (RamIs w3 sb bp bw bh (N+1) (upd m a s v) wt ht):=R3
  go_wp2_with (at_mapUpdate;refine wpList_mapUpdate_own _ rfl _ _ _ 103 rfl 3 107 law3 Tryz.underlying103 unitElem bh (N+1) D rfl hD1 hN _ _ _ rfl rfl hk (.agg []) [] unitElem_mk ?_;intro w4 hown4 hg4)
  go_ret
  refine ⟨rfl,?_,?_⟩
  ·have r:=R3.out
   have hs4:SetAt w4 bh (N+1+1) _:=SetAt.put hD2 hD1.isMap hown4
   exact ((⟨hg4.cell r.c0 (by simp[r.sh]),hg4.cell r.c1 (by simp[r.sh]),hg4.cell r.c2 (by simp[r.sh]),r.pw,r.ph,r.wh,r.sp,r.sh,(r.ps.kept hg4 (by simp[r.ph])).mono (by omega),(r.ws.kept hg4 (by simp[r.wh])).mono (by omega),hs4,r.mb⟩:RamIs w4 sb bp bw bh (N+2) (upd m a s v) wt _)).hits (fun x=>by simp[hw])
  ·exact (T2.out.of_below hb3).of_grown hg4 (Or.inr rfl)
end Go.Proofs.YtflagpkmebdckaaGreatDoor
