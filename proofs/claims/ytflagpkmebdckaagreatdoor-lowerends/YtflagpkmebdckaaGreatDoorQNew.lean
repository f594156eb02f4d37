
import Derived.Test.YtflagpkmebdckaaGreatDoorKNum
import Derived.Test.YtflagpkmebdckaaGreatDoorKApp
namespace Go.Proofs.YtflagpkmebdckaaGreatDoor
open Go.RowKit Go.Maps
open Num
set_option linter.unusedVariables false
set_option maxRecDepth 100000
set_option maxHeartbeats 4000000
theorem wpList_copy61 {ops:Array Oper} {rest:List Oper} {o:Oper} {a:Act} {w:World} {Q:Exit→Act→World→Prop} (hgd:o.guard=none) (d s:Operand)
  (ho:o.op=.call { callee:=.builtin .copy,args:=#[d,s],argTypes:=#[46,46] }) (b off sLen sCap:Nat) (hd:a.eval d=.slice (some ⟨w.heap.size,0,none⟩) 64 64) (hs:a.eval s=.slice (some ⟨b,off,none⟩) sLen sCap)
  (cs:List Value) (n:Nat) (hn:cs.length=n) (hn2:n=Nat.min sLen 64) (hsrc:∀ j,j<n→∀ v,cs[j]?=some v→(w.alloc (.cells zeroPg 101)).cell? ⟨b,off+j,none⟩=some v) (h1:∀ v∈cs,v.oneCell'=true) (row:Array Value) (hrow:(cs++zeroPg.toList.drop cs.length).toArray=row)
  (h:wpList Tryz.prog ops Q rest (a.put o.dst (.int .i64 n)) (w.alloc (.cells row 101))):wpList Tryz.prog ops Q (o :: rest) a (w.alloc (.cells zeroPg 101)):=by
 refine wpList_copy_own hgd d s 46 46 ho 22 Tryz.underlying46 size23 w.heap.size 0 64 64 ⟨b,off,none⟩ sLen sCap hd hs zeroPg 101 (heap_alloc_new w _) cs (by rw[hn,hn2]) ?_ ?_ h1 ?_
 ·intro j v hv
  have hj:j<n:=by rw[←hn];exact (List.getElem?_eq_some_iff.1 hv).1
  have hadd:(⟨b,off,none⟩:Addr).add j=⟨b,off+j,none⟩:=by unfold Addr.add;split<;>simp_all
  rw[hadd];exact hsrc j hj v hv
 ·rw[show zeroPg.size=64 from pgA_size _ _,hn,hn2];simp;exact Nat.min_le_right _ _
 ·rw[setRow_new]
  simp only[List.take_zero,List.nil_append,Nat.zero_add]
  rw[hrow,hn]
  exact h
theorem row_eq (xs:List Int) (n:Nat):((((xs.drop (64*n)).take 64).map (Value.int .u32))++zeroPg.toList.drop (((xs.drop (64*n)).take 64).map (Value.int .u32)).length).toArray=pgA (mw xs) n:=by
 unfold pgA
 congr 1
 apply List.ext_getElem?
 intro i
 have hz:zeroPg.toList=pgL (fun _=>0) 0:=rfl
 by_cases h64:i<64
 ·rw[pgL_get _ _ _ h64,hz]
  by_cases hi:64*n+i<xs.length
  ·rw[List.getElem?_append_left (by simp;omega),List.getElem?_map,List.getElem?_take_of_lt h64,List.getElem?_drop]
   unfold mw
   rw[List.getD_eq_getElem?_getD,List.getElem?_eq_getElem hi];rfl
  ·rw[List.getElem?_append_right (by simp;omega),List.getElem?_drop,pgL_get _ _ _ (by simp;omega)]
   unfold mw
   rw[List.getD_eq_getElem?_getD,List.getElem?_eq_none (by omega)];rfl
 ·rw[List.getElem?_eq_none (by simp[hz,pgL_len];omega),List.getElem?_eq_none (by rw[pgL_len];omega)]
theorem RamIs.words {w:World} {sb bp bw bh N:Nat} {m m':Nat→Int} {wt ht:Int→Bool} (R:RamIs w sb bp bw bh N m wt ht) (h:∀ i,i<4096→m i=m' i) (mb:∀ i,0≤m' i∧m' i<4294967296):RamIs w sb bp bw bh N m' wt ht:=by
 refine ⟨R.c0,R.c1,R.c2,R.pw,R.ph,R.wh,R.sp,R.sh,?_,R.ws,R.hs,mb⟩
 obtain ⟨D,h1,h2⟩:=R.ps
 exact ⟨D,h1,fun n hn=>by rw[h2 n hn,pgA_congr (fun i hi=>h _ (by omega))]⟩
def mwTo (xs:List Int) (n i:Nat):Int:=if i<64*n then mw xs i else 0
theorem new_any {w:World} {v:Value} {xs:List Int} (X:WordsIn w v xs) (hx:xs.length≤5000) :
  Calls Tryz.prog 35 #[v] w fun e w'=>e=.returned (.pointer (some ⟨w.heap.size,0,none⟩))∧RamIs w' w.heap.size (w.heap.size+1) (w.heap.size+2) (w.heap.size+3) 64 (mw xs) (fun _=>false) (fun _=>false)∧Below w.heap.size w w':=by
 obtain ⟨⟨ao,cap,rfl,hcap,hao⟩,wf⟩:=X
 obtain ⟨b,off,hao⟩:∃ b off,0<xs.length→ao=some ⟨b,off,none⟩∧∀ i,i<xs.length→w.cell? ⟨b,off+i,none⟩=some (.int .u32 (xs.getD i 0)):=by
  by_cases h:0<xs.length
  ·obtain ⟨b,off,h⟩:=hao h;exact ⟨b,off,fun _=>h⟩
  ·exact ⟨0,0,fun h'=>absurd h' h⟩
 have HA:Hid (0<xs.length→ao=some ⟨b,off,none⟩∧∀ i,i<xs.length→w.cell? ⟨b,off+i,none⟩=some (.int .u32 (xs.getD i 0))):=hao
 clear hao
 go_enter Tryz.func35,Tryz.ntmps35
 go_wp2_with (go_at_call 38;refine (ready_new w).mono ?_;rintro e W0 ⟨rfl,R0,B0⟩)
 go_loopw [0,4] (fun s i wr=>∃ n:Nat,n≤64∧i=.int .i64 n∧(∃ a' c',s=.slice a' (xs.length-64*n) c'∧xs.length-64*n≤c'∧(0<xs.length-64*n→a'=some ⟨b,off+64*n,none⟩))∧RamIs wr w.heap.size (w.heap.size+1) (w.heap.size+2) (w.heap.size+3) n (mwTo xs n) (fun _=>false) (fun _=>false)∧Below w.heap.size w wr) (fun _ i _=>64-(intOf i).toNat)
 case atStart =>
  refine ⟨0,by omega,rfl,⟨ao,cap,rfl,hcap,fun h=>(HA.out h).1⟩,R0.words (fun i hi=>by simp[mwTo]) (fun i=>by simp[mwTo]),B0⟩
 case round =>
  obtain ⟨n,hn,rfl,⟨a',c',rfl,hc',ha'⟩,R,hbl⟩:=hrel
  clear R0 B0
  by_cases hlt:n<64
  ·by_cases hr:0<xs.length-64*n
   ·obtain rfl:=ha' hr
    have hpos:0<xs.length:=by omega
    have hcell:∀ j,j<xs.length-64*n→(wr.alloc (.cells zeroPg 101)).cell? ⟨b,off+64*n+j,none⟩=some (.int .u32 (xs.getD (64*n+j) 0)):=by
     intro j hj
     have h1:=(HA.out hpos).2 (64*n+j) (by omega)
     rw[←Nat.add_assoc]at h1
     have h2:wr.cell? ⟨b,off+64*n+j,none⟩=some (.int .u32 (xs.getD (64*n+j) 0)):=by
      rw[hbl.cell (World.block_lt_of_cell? _ _ h1)];exact h1
     exact (World.grownBy_alloc wr _ none).cell h2 (by simp)
    have hlt':(n:Int)<64:=by omega
    have hr':(0:Int)<((xs.length-64*n:Nat):Int):=by omega
    obtain ⟨k,hk⟩:∃ k,k=Nat.min (xs.length-64*n) 64:=⟨_,rfl⟩
    have hcl:(((xs.drop (64*n)).take 64).map (Value.int .u32)).length=k:=by rw[hk];simp[Nat.min_comm]
    have hsrc:∀ j,j<k→∀ v,(((xs.drop (64*n)).take 64).map (Value.int .u32))[j]?=some v→(wr.alloc (.cells zeroPg 101)).cell? ⟨b,off+64*n+j,none⟩=some v:=by
     intro j hj v hv
     have hj1:j<xs.length-64*n:=Nat.lt_of_lt_of_le hj (by rw[hk];exact Nat.min_le_left _ _)
     have hj2:j<64:=Nat.lt_of_lt_of_le hj (by rw[hk];exact Nat.min_le_right _ _)
     rw[hcell j hj1,←hv,List.getElem?_map,List.getElem?_take_of_lt hj2,List.getElem?_drop,List.getD_eq_getElem?_getD,List.getElem?_eq_getElem (by omega)]
     rfl
    have h1c:∀ v∈(((xs.drop (64*n)).take 64).map (Value.int .u32)),v.oneCell'=true:=by
     intro v hv;obtain ⟨x,_,rfl⟩:=List.mem_map.1 hv;rfl
    have hrow:=row_eq xs n
    have HK:Hid (k=Nat.min (xs.length-64*n) 64):=hk
    have hk1:(k:Int)≤((xs.length-64*n:Nat):Int):=by have hq:k≤xs.length-64*n:=(by rw[hk];exact Nat.min_le_left _ _);omega
    have hk2:(k:Int)≤(c':Int):=by omega
    generalize (((xs.drop (64*n)).take 64).map (Value.int .u32))=cs at hcl hsrc h1c hrow
    have RH:Hid (RamIs wr w.heap.size (w.heap.size+1) (w.heap.size+2) (w.heap.size+3) n (mwTo xs n) (fun _=>false) (fun _=>false)):=R
    clear R hcell hk
    go_upto_region 8 with (first|(refine wpList_alloc61 rfl rfl ?_)|(refine wpList_copy61 rfl _ _ rfl b (off+64*n) (xs.length-64*n) c' rfl rfl cs k hcl HK.out hsrc h1c (pgA (mw xs) n) hrow ?_))
    have hrow2:=heap_alloc_new wr (.cells (pgA (mw xs) n) 101)
    have R1:Hid (RamIs (wr.alloc (.cells (pgA (mw xs) n) 101)) w.heap.size (w.heap.size+1) (w.heap.size+2) (w.heap.size+3) n (mwTo xs n) (fun _=>false) (fun _=>false)):=RH.out.grow (World.grownBy_alloc wr _ none)
    have C0:(wr.alloc (.cells (pgA (mw xs) n) 101)).cell? ⟨w.heap.size,0,none⟩=some (.map (some (w.heap.size+1))):=R1.out.c0
    have hbl1:Hid (Below w.heap.size w (wr.alloc (.cells (pgA (mw xs) n) 101))):=hbl.alloc (by have:=hbl.size;omega) _
    have hload:(loadVar 101 ⟨wr.heap.size,0,none⟩).run Tryz.prog (wr.alloc (.cells (pgA (mw xs) n) 101)).drew=.ok (.agg (pgA (mw xs) n)) (wr.alloc (.cells (pgA (mw xs) n) 101)).drew :=
     run_loadVar_row _ _ _ _ _ _ _ hrow2 Tryz.underlying101 rfl (by rw[info61,pgA_size])
    generalize wr.alloc (.cells (pgA (mw xs) n) 101)=W1 at *
    clear hrow2 hbl RH hsrc h1c hrow hcl
    have hk3:Hid (keyOf Tryz.prog 3 (.int .i64 n)=some (.int .i64 n)):=key3 (by omega) (by omega)
    refine wp_region_still_tail 6 (by kernel_rfl) (by kernel_rfl) ?_
    simp only[List.take_succ_cons,List.take_zero,List.drop_succ_cons,List.drop_zero,drew_lit]
    still_step
    still_step
    still_step
    still_step
    still_step
    refine wpStill_load rfl 101 _ rfl _ rfl _ hload ?_
    refine wpStill_nil ?_
    obtain ⟨D,hE1,hD2⟩:=R1.out.ps
    have hD1:W1.drew.ownsMap Tryz.prog 3 heldE (w.heap.size+1) n D:=hE1
    refine wpList_mapUpdate_own _ rfl _ _ _ 102 rfl 3 101 law3 Tryz.underlying102 heldE (w.heap.size+1) n D rfl hD1 (by unfold maxLen;omega) _ _ _ rfl rfl hk3.out _ [] rfl ?_
    intro w2 hown2 hg2
    have g:=grown_of_drew hg2
    have r:=R1.out
    have hpp:∀ j,j<64→mwTo xs (n+1) (64*n+j)=mw xs (64*n+j):=by
     intro j hj;unfold mwTo;rw[if_pos (by omega)]
    have hps:PagesAt w2 (w.heap.size+1) (n+1) (mwTo xs (n+1)):=by
     refine PagesAt.put (w:=w2) (m:=mwTo xs n) (n:=n) ?_ hD2 hE1.isMap ?_
     ·intro k' hk' hne
      apply pgA_congr
      intro i hi
      unfold mwTo
      by_cases h:64*k'+i<64*n
      ·rw[if_pos h,if_pos (by omega)]
      ·rw[if_neg h,if_neg (by omega)]
     ·rw[pgA_congr (n':=n) hpp];exact hown2
    have R2:Hid (RamIs w2 w.heap.size (w.heap.size+1) (w.heap.size+2) (w.heap.size+3) (n+1) (mwTo xs (n+1)) (fun _=>false) (fun _=>false)) :=
     ⟨g.cell r.c0 (by simp),g.cell r.c1 (by simp),g.cell r.c2 (by simp),r.pw,r.ph,r.wh,r.sp,r.sh,hps,(r.ws.kept g (by simp)).mono (by omega),(r.hs.kept g (by simp)).mono (by omega),fun i=>by unfold mwTo;split;exact wf i;omega⟩
    have B2:Hid (Below w.heap.size w w2):=below_grown hbl1.out g (by omega) (Nat.le_refl _)
    clear hown2 hg2 g r hpp hps hD1 hE1 hD2 hload C0 R1
    go_wp2
    go_roundw
    case rel =>
     have hm:k=min (xs.length-64*n) 64:=HK.out
     refine ⟨n+1,by omega,by go_num,⟨_,_,congrArg (fun z=>Value.slice _ z _) ?_,?_,?_⟩,R2.out,B2.out⟩
     ·omega
     ·omega
     ·intro h
      rw[if_neg (by omega),show off+64*n+k=off+64*(n+1) by omega]
    case measure=>simp[intOf];omega
   ·have hr0:xs.length-64*n=0:=by omega
    have fin:Hid (RamIs wr w.heap.size (w.heap.size+1) (w.heap.size+2) (w.heap.size+3) 64 (mw xs) (fun _=>false) (fun _=>false)):=by
     refine (R.mono hn).words (fun i hi=>?_) wf
     unfold mwTo
     by_cases h:i<64*n
     ·rw[if_pos h]
     ·rw[if_neg h];unfold mw;rw[List.getD_eq_getElem?_getD,List.getElem?_eq_none (by omega)];rfl
    have hlt':(n:Int)<64:=by omega
    clear R ha'
    rw[hr0]
    go_wp2
    go_ret
    exact ⟨rfl,fin.out,hbl⟩
  ·obtain rfl:n=64:=by omega
   have fin:Hid (RamIs wr w.heap.size (w.heap.size+1) (w.heap.size+2) (w.heap.size+3) 64 (mw xs) (fun _=>false) (fun _=>false)):=by
    refine R.words (fun i hi=>?_) wf
    unfold mwTo
    rw[if_pos (by omega)]
   clear R ha'
   go_wp2
   go_ret
   exact ⟨rfl,fin.out,hbl⟩
end Go.Proofs.YtflagpkmebdckaaGreatDoor
