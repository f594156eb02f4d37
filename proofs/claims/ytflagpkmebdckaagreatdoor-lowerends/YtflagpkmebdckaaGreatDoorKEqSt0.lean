
import Derived.Laws.StructEq
import Derived.Deep.MidRow
import Derived.ChangeKeysEq
import Derived.Laws.CopyOwn
import Derived.Test.YtflagpkmebdckaaGreatDoorKKDecode
import Derived.Test.YtflagpkmebdckaaGreatDoorKLowPure
import Derived.Test.YtflagpkmebdckaaGreatDoorKRunPure
import Derived.Test.YtflagpkmebdckaaGreatDoorKRes1
import Derived.Test.YtflagpkmebdckaaGreatDoorQRun2
import Derived.Test.YtflagpkmebdckaaGreatDoorKGHost1
namespace Go.Proofs.YtflagpkmebdckaaGreatDoor
open Go.RowKit
set_option linter.unusedVariables false
def stL (S:St):List Value:=(List.range 43).map (stV S)
def stA (S:St):Array Value:=(stL S).toArray
theorem stA_get (S:St) {j:Nat} (h:j<43):(stA S)[j]?=some (stV S j):=by
 unfold stA stL;rw[List.getElem?_toArray,List.getElem?_map,List.getElem?_range h];rfl
theorem load_st {w:World} {sb:Nat} {S:St} (A:StAt w sb S):(loadVar 25 ⟨sb,0,none⟩).run Tryz.prog w=.ok (.agg (stA S)) w :=
 run_loadVar_mid w sb 0 25 (stL S) _ (fun j v hv=>by
  have hj:j<43:=by have:=(List.getElem?_eq_some_iff.1 hv).1;simpa [stL] using this
  have:(stL S)[j]?=some (stV S j):=by have:=stA_get S hj;simpa [stA] using this
  rw[this]at hv
  rw[Nat.zero_add,A.c j hj];exact hv) Tryz.underlying25 rfl (by show _=some 43;kernel_rfl)
theorem part_one (t:TypeId) (ht:∀ w,(isAgg t).run Tryz.prog w=.ok false w) (xs:Array Value) (off:Nat) (v:Value) (h:xs[off]?=some v) (w:World):(part t xs off).run Tryz.prog w=.ok v w:=by
 simp[part,ht,h,go_sem]
theorem agg23 (w:World):(isAgg 22).run Tryz.prog w=.ok false w:=by kernel_rfl
theorem agg4 (w:World):(isAgg 4).run Tryz.prog w=.ok false w:=by kernel_rfl
theorem agg3 (w:World):(isAgg 3).run Tryz.prog w=.ok false w:=by kernel_rfl
theorem items_eq (d:Nat) (xs:Array Value) (r:Nat→Int) (hx:∀ i,i<32→xs[i]?=some (.int .u32 (r i))) (w:World):∀ is:List Nat,(∀ i∈is,i<32)→(Op.eqItems (d+1) 22 1 xs xs is).run Tryz.prog w=.ok true w
 | [],_=>by simp[Op.eqItems]
 | i :: is,h=>by
  have hp:=part_one 22 agg23 xs (i*1) _ (by rw[Nat.mul_one];exact hx i (h i (by simp))) w
  have ih:=items_eq d xs r hx w is (fun j hj=>h j (by simp[hj]))
  have he:=run_equalIn_int (P:=Tryz.prog) w d 22 .u32 .u32 (r i) (r i) Tryz.underlying22
  simp only[Op.eqItems,Sem.run_bind,hp,Result.andThen_ok,he]
  simpa using ih
theorem arr_eq (d:Nat) (xs:Array Value) (r:Nat→Int) (hx:∀ i,i<32→xs[i]?=some (.int .u32 (r i))) (w:World):(Op.equalIn (d+2) 23 (.agg xs) (.agg xs)).run Tryz.prog w=.ok true w:=by
 have hc:Tryz.prog.cellsOf 22=1:=by kernel_rfl
 obtain ⟨i23,hi⟩:∃ i,Tryz.prog.info? 22=some i:=by
  cases h:Tryz.prog.info? 22 with
  | some i=>exact ⟨i,rfl⟩
  | none =>
   have:(Tryz.prog.info? 22).isSome=true:=by kernel_rfl
   rw[h]at this;cases this
 rw[run_equalIn_array w (d+1) xs xs Tryz.underlying23 hi,hc]
 exact items_eq d xs r hx w _ (fun i hi=>List.mem_range.1 hi)
def FieldEq (xs:Array Value) (t off:Nat) (w:World):Prop:=∃ v,(part t xs off).run Tryz.prog w=.ok v w∧(Op.equalIn 9999 t v v).run Tryz.prog w=.ok true w
theorem fields_eq (xs:Array Value) (w:World):∀ fs:List Field,(∀ f∈fs,FieldEq xs f.type f.offset w)→(Op.eqFields 9999 xs xs fs).run Tryz.prog w=.ok true w
 | [],_=>by simp[Op.eqFields]
 | f :: fs,h=>by
  obtain ⟨v,hp,he⟩:=h f (by simp)
  have ih:=fields_eq xs w fs (fun g hg=>h g (by simp[hg]))
  simp only[Op.eqFields]
  split
  ·simp only[Sem.run_bind,hp,Result.andThen_ok,he]
   simpa using ih
  ·exact ih
theorem fields32:(Tryz.prog.fieldsOf 25).toList.map (fun f=>(f.type,f.offset))=[(23,0),(22,32),(22,33),(22,34),(22,35),(4,36),(22,37),(22,38),(22,39),(22,40),(22,41),(3,42)]:=by kernel_rfl
theorem word_eq (S:St) (j:Nat) (hj:j<43) (n:Int) (h:stV S j=.int .u32 n) (w:World):FieldEq (stA S) 22 j w :=
 ⟨_,part_one 22 agg23 (stA S) j _ (stA_get S hj) w,by rw[h];have:=run_equalIn_int (P:=Tryz.prog) w 9998 22 .u32 .u32 n n Tryz.underlying22;rw[this];simp⟩
theorem eq_st (S:St) (w:World):(binOp .eql 25 (.agg (stA S)) (.agg (stA S))).run Tryz.prog w=.ok (.bool true) w:=by
 rw[run_eql_struct,run_equalIn_agg w 9999 25 _ _ (by kernel_rfl) (by kernel_rfl),fields_eq (stA S) w _ ?_]
 ·rfl
 intro f hf
 have hm:(f.type,f.offset)∈[(23,0),(22,32),(22,33),(22,34),(22,35),(4,36),(22,37),(22,38),(22,39),(22,40),(22,41),(3,42)]:=by rw[←fields32];exact List.mem_map.2 ⟨f,hf,rfl⟩
 generalize f.type=t at hm
 generalize f.offset=o at hm
 simp only[List.mem_cons,Prod.mk.injEq,List.not_mem_nil,or_false]at hm
 rcases hm with ⟨rfl,rfl⟩|⟨rfl,rfl⟩|⟨rfl,rfl⟩|⟨rfl,rfl⟩|⟨rfl,rfl⟩|⟨rfl,rfl⟩|⟨rfl,rfl⟩|⟨rfl,rfl⟩|⟨rfl,rfl⟩|⟨rfl,rfl⟩|⟨rfl,rfl⟩|⟨rfl,rfl⟩
 ·refine ⟨.agg ((stA S).extract 0 32),by simp[part,go_sem],arr_eq 9997 _ S.r (fun i hi=>?_) w⟩
  rw[Array.getElem?_extract,if_pos (by simp[stA,stL];omega),Nat.zero_add,stA_get S (by omega)]
  simp[stV,hi]
 ·exact word_eq S 32 (by omega) S.hi rfl w
 ·exact word_eq S 33 (by omega) S.lo rfl w
 ·exact word_eq S 34 (by omega) S.pc rfl w
 ·exact word_eq S 35 (by omega) S.nx rfl w
 ·exact ⟨_,part_one 4 agg4 (stA S) 36 _ (stA_get S (by omega)) w,by have:=run_equalIn_bool' (P:=Tryz.prog) w 9998 4 S.sl S.sl Tryz.underlying4;rw[show stV S 36=.bool S.sl from rfl,this];simp⟩
 ·exact word_eq S 37 (by omega) S.st rfl w
 ·exact word_eq S 38 (by omega) S.ca rfl w
 ·exact word_eq S 39 (by omega) S.ep rfl w
 ·exact word_eq S 40 (by omega) S.bd rfl w
 ·exact word_eq S 41 (by omega) S.cm rfl w
 ·exact ⟨_,part_one 3 agg3 (stA S) 42 _ (stA_get S (by omega)) w,by have:=run_equalIn_int (P:=Tryz.prog) w 9998 3 .i64 .i64 S.ct S.ct Tryz.underlying3;rw[show stV S 42=.int .i64 S.ct from rfl,this];simp⟩
theorem exec_load {ρ:Operand→Value} {o:Oper} {x:Operand} {sb:Nat} {v:Value} (ho:o.op=.load 25 x) (hx:ρ x=.pointer (some ⟨sb,0,none⟩)) (W:World) (hl:(loadVar 25 ⟨sb,0,none⟩).run Tryz.prog W=.ok v W):(execOp ρ o).run Tryz.prog W=.ok (.value v) W:=by
 have hs:(Instr.sureAddr (.pointer (some ⟨sb,0,none⟩))).run Tryz.prog W=.ok ⟨sb,0,none⟩ W:=by simp[Instr.sureAddr]
 have h:(Instr.loadAt 25 (.pointer (some ⟨sb,0,none⟩))).run Tryz.prog W=.ok v W:=by unfold Instr.loadAt;rw[Sem.run_bind,hs,Result.andThen_ok];exact hl
 unfold execOp
 simp only[ho,hx,Sem.run_bind,h,Result.andThen_ok]
 rfl
theorem guard32:Tryz.prog.eqGuardType Tryz.prog.depth 25=false:=by kernel_rfl
theorem exec_eq {ρ:Operand→Value} {o:Oper} {x y:Operand} {ty:TypeId} {SA:Array Value} (ho:o.op=.binOp .eql 25 x y ty) (hx:ρ x=.agg SA) (hy:ρ y=.agg SA) (W:World) (heq:(binOp .eql 25 (.agg SA) (.agg SA)).run Tryz.prog W=.ok (.bool true) W):(execOp ρ o).run Tryz.prog W=.ok (.value (.bool true)) W:=by
 have hg:=run_eqGuard_agg (P:=Tryz.prog) W .eql 25 x y SA SA guard32
 unfold execOp
 simp only[ho,hx,hy,Sem.run_bind,hg,Result.andThen_ok,heq]
 first|rfl|simp[go_sem]
theorem stA_congr {S S':St} (h:∀ j,j<43→stV S j=stV S' j):stA S=stA S':=by
 unfold stA stL;congr 1;exact List.map_congr_left (fun j hj=>h j (List.mem_range.1 hj))
def zS:St:=⟨fun _=>0,0,0,0,0,false,0,0,0,0,0,0⟩
theorem zeroSt (w:World):(zeroValue 25).run Tryz.prog w=.ok (.agg (stA zS)) w:=by kernel_rfl
theorem stA_size (S:St):(stA S).size=43:=by simp[stA,stL]
theorem stA_one (S:St):(stA S).all (·.oneCell')=true:=by
 rw[Array.all_eq_true_iff_forall_mem]
 intro x hx
 simp only[stA,stL,List.mem_toArray,List.mem_map]at hx
 obtain ⟨i,_,rfl⟩:=hx
 unfold stV
 (repeat' split)<;>rfl
section
variable {ops : Array Oper} {rest : List Oper} {o : Oper} {a : Act} {w : World} {Q : Exit → Act → World → Prop}
theorem wpList_allocSt (hg:o.guard=none) (hop:o.op=Op.alloc 25)
  (h:wpList Tryz.prog ops Q rest (a.put o.dst (.pointer (some ⟨w.heap.size,0,none⟩))) (w.alloc (.cells (stA zS) 25))):wpList Tryz.prog ops Q (o :: rest) a w:=by
 refine wpList_plain hg fun K hK=>?_
 unfold Oper.wp
 have e:(execOp a.eval o).run Tryz.prog w=.ok (.value (.pointer (some ⟨w.heap.size,0,none⟩))) (w.alloc (.cells (stA zS) 25)):=by
  unfold execOp;rw[hop]
  simp only[Instr.alloc,newVar,newRow,Sem.run_bind,zeroSt,Result.andThen_ok]
  rfl
 rw[e,Oper.upon_value]
 exact hK _ _ h
theorem wpList_storeSt (hgd:o.guard=none) (x y:Operand) (ho:o.op=.store 25 x y)
  (old cells:Array Value) (hx:a.eval x=.pointer (some ⟨w.heap.size,0,none⟩)) (hy:a.eval y=.agg cells) (ho':old.size=43) (hs:cells.size=43) (h1:cells.all (·.oneCell')=true)
  (h:wpList Tryz.prog ops Q rest (a.put o.dst undef) (w.alloc (.cells cells 25))):wpList Tryz.prog ops Q (o :: rest) a (w.alloc (.cells old 25)):=by
 refine wpList_store_row hgd 25 x y ho w.heap.size cells hx hy 25 old (heap_alloc_new w _) (by rw[hs];kernel_rfl) (by omega) h1 ?_
 rw[setRow_new];exact h
theorem wpList_storeRow (hgd:o.guard=none) (x y:Operand) (ho:o.op=.store 25 x y) (b:Nat)
  (old cells:Array Value) (hx:a.eval x=.pointer (some ⟨b,0,none⟩)) (hy:a.eval y=.agg cells) (hb:w.heap[b]?=some (.cells old 25 (0,0))) (ho':old.size=43) (hs:cells.size=43) (h1:cells.all (·.oneCell')=true)
  (h:wpList Tryz.prog ops Q rest (a.put o.dst undef) (w.setRow b cells)):wpList Tryz.prog ops Q (o :: rest) a w :=
 wpList_store_row hgd 25 x y ho b cells hx hy 25 old hb (by rw[hs];kernel_rfl) (by omega) h1 h
theorem wpList_loadSt (hg:o.guard=none) (x:Operand) (hop:o.op=.load 25 x) (sb:Nat) (L:Array Value) (hx:a.eval x=.pointer (some ⟨sb,0,none⟩)) (hl:(loadVar 25 ⟨sb,0,none⟩).run Tryz.prog w=.ok (.agg L) w)
  (h:wpList Tryz.prog ops Q rest (a.put o.dst (.agg L)) w):wpList Tryz.prog ops Q (o :: rest) a w:=by
 refine wpList_plain hg fun K hK=>?_
 unfold Oper.wp
 rw[exec_load hop hx w hl,Oper.upon_value]
 exact hK _ _ h
end
end Go.Proofs.YtflagpkmebdckaaGreatDoor
namespace Go.Proofs.YtflagpkmebdckaaGreatDoor
open Go.RowKit Go.Maps
open Num
set_option linter.unusedVariables false
set_option maxRecDepth 100000
set_option maxHeartbeats 4000000
def plV (S:St) (v:Value) (wc:Int) (j:Nat):Value:=if j<43 then stV S j else if j=43 then v else .int .i64 wc
def plA (S:St) (v:Value) (wc:Int):Array Value:=((List.range 45).map (plV S v wc)).toArray
theorem plA_size (S:St) (v:Value) (wc:Int):(plA S v wc).size=45:=by simp[plA]
theorem plA_get (S:St) (v:Value) (wc:Int) (j:Nat) (h:j<45):(plA S v wc)[j]?=some (plV S v wc j):=by
 unfold plA;rw[List.getElem?_toArray,List.getElem?_map,List.getElem?_range h];rfl
theorem pl_row (w:World) (S:St) (v:Value) (wc:Int):RowIs (w.alloc (.cells (plA S v wc) 50)) w.heap.size 50 45 (plV S v wc) :=
 ⟨_,heap_alloc_new w _,plA_size _ _ _,fun j hj=>plA_get _ _ _ j hj⟩
def plS (S:St) (pc:Int):St:={ S with r:=fun j=>if j=0 then 0 else S.r j,pc:=pc,nx:=lo (pc+4),sl:=false }
theorem plS_ok {S:St} (ok:S.ok) {pc:Int} (hp:u32 pc):(plS S pc).ok :=
 ⟨fun j=>by show u32 (if j=0 then 0 else S.r j);split;exact ⟨by omega,by omega⟩;exact ok.r j,ok.hi,ok.lo,hp,lo_bd _,ok.st,ok.ca,ok.ep,ok.bd,ok.cm,ok.c0,ok.c1⟩
theorem st_row (w:World) (S:St):StRow (w.alloc (.cells (stA S) 25)) w.heap.size S :=
 ⟨_,heap_alloc_new w _,stA_size S,fun j hj=>stA_get S hj⟩
theorem row_st {w:World} {b:Nat} {S:St} (old:Array Value) (h:w.heap[b]?=some (.cells old 25 (0,0))):StRow (w.setRow b (stA S)) b S :=
 ⟨_,setRow_heap w b _ _ _ _ h,stA_size S,fun j hj=>stA_get S hj⟩
theorem load_pl {w:World} {b:Nat} {S:St} {v:Value} {wc:Int} (R:RowIs w b 50 45 (plV S v wc)):(loadVar 25 ⟨b,0,none⟩).run Tryz.prog w=.ok (.agg (stA S)) w :=
 run_loadVar_mid w b 0 25 (stL S) _ (fun j u hu=>by
  have hj:j<43:=by have:=(List.getElem?_eq_some_iff.1 hu).1;simpa [stL] using this
  have:(stL S)[j]?=some (stV S j):=by have:=stA_get S hj;simpa [stA] using this
  rw[this]at hu
  rw[Nat.zero_add,R.cell (by omega)]
  unfold plV;rw[if_pos hj];exact hu) Tryz.underlying25 rfl (by show _=some 43;kernel_rfl)
theorem placed_any (w:World) (S:St) (v:Value) (wc:Int) (pc:Int) (p0:0≤pc) (p1:pc<4294967296) :
  Calls Tryz.prog 22 #[.agg (plA S v wc),.int .u32 pc] w fun e w'=>e=.returned (.agg (stA (plS S pc)))∧Below w.heap.size w w':=by
 have hrow:=pl_row w S v wc
 have hB:Hid (Below w.heap.size w (w.alloc (.cells (plA S v wc) 50))):=(Below.refl _ _).alloc (Nat.le_refl _) _
 have hz:(w.alloc (.cells (plA S v wc) 50)).heap.size=w.heap.size+1:=by simp
 generalize plA S v wc=PA at *
 go_enter Tryz.func22,Tryz.ntmps22
 have hload:(loadVar 25 ⟨w.heap.size,0,none⟩).run Tryz.prog ((w.alloc (.cells PA 50)).alloc (.cells (stA zS) 25))=.ok (.agg (stA S)) _:=load_pl (hrow.stays ((Below.refl _ _).alloc (Nat.le_refl _) _))
 have hz2:((w.alloc (.cells PA 50)).alloc (.cells (stA zS) 25)).heap.size=w.heap.size+2:=by simp
 go_upto_region 2 with (first|(refine wpList_allocSt rfl rfl ?_)|(refine wpList_loadSt rfl _ rfl w.heap.size (stA S) rfl hload ?_)|(refine wpList_storeSt rfl _ _ rfl (stA zS) (stA S) rfl rfl (stA_size _) (stA_size _) (stA_one _) ?_))
 have r1:StRow (((w.alloc (.cells PA 50)).alloc (.cells (stA zS) 25)).alloc (.cells (stA S) 25)) (w.heap.size+1) zS:=by
  have:=st_row (w.alloc (.cells PA 50)) zS
  rw[hz]at this
  exact this.stays ((Below.refl _ _).alloc (Nat.le_refl _) _)
 have r2:StRow (((w.alloc (.cells PA 50)).alloc (.cells (stA zS) 25)).alloc (.cells (stA S) 25)) (w.heap.size+2) S:=by
  have:=st_row ((w.alloc (.cells PA 50)).alloc (.cells (stA zS) 25)) S
  rw[hz2]at this
  exact this
 have B2:Hid (Below w.heap.size w (((w.alloc (.cells PA 50)).alloc (.cells (stA zS) 25)).alloc (.cells (stA S) 25))):=(hB.out.alloc (by omega) _).alloc (by omega) _
 generalize ((w.alloc (.cells PA 50)).alloc (.cells (stA zS) 25)).alloc (.cells (stA S) 25)=V at *
 have q0:=r2.at.reg (i:=0) (by omega)
 obtain ⟨_,_,q34,q35,q36,_⟩:=r2.at.told
 have f0:=r2.fz 0
 have f34:=r2.fz 34
 have f35:=r2.fz 35
 have f36:=r2.fz 36
 clear hload hrow
 go_upto_region 6 with fail
 have r3:StRow ((((V.setCell ⟨w.heap.size+2,0,none⟩ (.int .u32 0)).setCell ⟨w.heap.size+2,34,none⟩ (.int .u32 pc)).setCell ⟨w.heap.size+2,35,none⟩ (.int .u32 ((pc+4)%4294967296))).setCell ⟨w.heap.size+2,36,none⟩ (.bool false)) (w.heap.size+2) (plS S pc):=by
  have a1:=r2.put 0 (.int .u32 0) (stV { S with r:=fun j=>if j=0 then 0 else S.r j }) rfl (fun j hj hn=>by unfold stV;simp[hn])
  have a2:=a1.put 34 (.int .u32 pc) (stV { S with r:=fun j=>if j=0 then 0 else S.r j,pc:=pc }) rfl (fun j hj hn=>by unfold stV;simp[hn])
  have a3:=a2.put 35 (.int .u32 ((pc+4)%4294967296)) (stV { S with r:=fun j=>if j=0 then 0 else S.r j,pc:=pc,nx:=lo (pc+4) }) rfl (fun j hj hn=>by unfold stV;simp[hn])
  exact a3.put 36 (.bool false) (stV (plS S pc)) rfl (fun j hj hn=>by unfold stV plS;simp[hn])
 have o3:∀ k,k≠w.heap.size+2→((((V.setCell ⟨w.heap.size+2,0,none⟩ (.int .u32 0)).setCell ⟨w.heap.size+2,34,none⟩ (.int .u32 pc)).setCell ⟨w.heap.size+2,35,none⟩ (.int .u32 ((pc+4)%4294967296))).setCell ⟨w.heap.size+2,36,none⟩ (.bool false)).heap[k]?=V.heap[k]?:=fun k hk=>(((Below.heap_setCell _ ⟨w.heap.size+2,36,none⟩ _ k hk).trans (Below.heap_setCell _ ⟨w.heap.size+2,35,none⟩ _ k hk)).trans (Below.heap_setCell _ ⟨w.heap.size+2,34,none⟩ _ k hk)).trans (Below.heap_setCell _ ⟨w.heap.size+2,0,none⟩ _ k hk)
 have B3:Hid (Below w.heap.size w ((((V.setCell ⟨w.heap.size+2,0,none⟩ (.int .u32 0)).setCell ⟨w.heap.size+2,34,none⟩ (.int .u32 pc)).setCell ⟨w.heap.size+2,35,none⟩ (.int .u32 ((pc+4)%4294967296))).setCell ⟨w.heap.size+2,36,none⟩ (.bool false))):=(((B2.out.setCell (p:=⟨w.heap.size+2,0,none⟩) (by show _≤w.heap.size+2;omega) _).setCell (p:=⟨w.heap.size+2,34,none⟩) (by show _≤w.heap.size+2;omega) _).setCell (p:=⟨w.heap.size+2,35,none⟩) (by show _≤w.heap.size+2;omega) _).setCell (p:=⟨w.heap.size+2,36,none⟩) (by show _≤w.heap.size+2;omega) _
 have r4:=r1.block (o3 (w.heap.size+1) (by omega))
 generalize (((V.setCell ⟨w.heap.size+2,0,none⟩ (.int .u32 0)).setCell ⟨w.heap.size+2,34,none⟩ (.int .u32 pc)).setCell ⟨w.heap.size+2,35,none⟩ (.int .u32 ((pc+4)%4294967296))).setCell ⟨w.heap.size+2,36,none⟩ (.bool false)=U at *
 obtain ⟨old,o1,o2,_⟩:=r4
 have hl3:=load_st r3.at
 clear q0 q34 q35 q36 f0 f34 f35 f36 r1 r2 o3
 go_wp2_with (first|(refine wpList_loadSt rfl _ rfl (w.heap.size+2) (stA (plS S pc)) rfl hl3 ?_)|(refine wpList_storeRow rfl _ _ rfl (w.heap.size+1) old (stA (plS S pc)) rfl rfl o1 o2 (stA_size _) (stA_one _) ?_))
 have r5:StRow (U.setRow (w.heap.size+1) (stA (plS S pc))) (w.heap.size+1) (plS S pc):=row_st old o1
 refine bodyPost_ret (r1c (A:=⟨w.heap.size+1,0,none⟩) rfl _ _ _ rfl (load_st r5.at)) rfl ?_
 exact ⟨rfl,below_setRow B3.out (by omega) _⟩
end Go.Proofs.YtflagpkmebdckaaGreatDoor
namespace Go.Proofs.YtflagpkmebdckaaGreatDoor.Low
open Num
set_option linter.unusedVariables false
theorem opx_k {n:Nat} (h1:1≤n) (h2:n<28) (d a b i t:Int):(opx n d a b i t).k=n:=kn_kind n h1 h2
theorem opx_E {n:Nat} {d a b i t many:Int} (h1:1≤n) (h2:n<28) (hD:alw (rD n) d=true) (hD':rD n≠0∨d=0) (hA:alw (rA n) a=true) (hA':rA n≠0∨a=0) (hB:alw (rB n) b=true) (hB':rB n≠0∨b=0) (hI:rI n=true∨i=0) (t0:0≤t) (t1:t<many):opE (opx n d a b i t) many=0:=by
 have hk:=opx_k h1 h2 d a b i t
 unfold opE
 rw[hk,if_neg (by omega)]
 have e1:bndB (opx n d a b i t) many=true:=by
  unfold bndB;rw[hk]
  show (alw (rD n) d&&alw (rA n) a&&alw (rB n) b&&decide (0≤t)&&decide (t<many))=true
  simp[hD,hA,hB,t0,t1]
 have e2:shpB (opx n d a b i t)=true:=by
  unfold shpB;rw[hk]
  show ((decide (rD n≠0)||decide (d=0))&&(decide (rA n≠0)||decide (a=0))&&(decide (rB n≠0)||decide (b=0))&&(rI n||decide (i=0)))=true
  simp only[Bool.and_eq_true,Bool.or_eq_true,decide_eq_true_eq]
  exact ⟨⟨⟨hD',hA'⟩,hB'⟩,hI⟩
 rw[e1,e2];rfl
theorem alw1 {n:Int} (h0:0≤n) (h1:n<64):alw 1 n=true:=by unfold alw;simp;omega
theorem alw2 {n:Int} (h0:1≤n) (h1:n<64):alw 2 n=true:=by unfold alw;simp;omega
def OpOk (many n:Int) (o:Opx):Prop:=opE o many=0∧outB o=false∧o.t=n
theorem opx_ok {k:Nat} {d a b i t many:Int} (h1:1≤k) (h2:k<26) (h:opE (opx k d a b i t) many=0):OpOk many t (opx k d a b i t) :=
 ⟨h,by unfold outB;rw[opx_k h1 (by omega)];simp;omega,rfl⟩
section
variable {many n : Int} (n0 : 0 ≤ n) (n1 : n < many)
include n0 n1
theorem op_set_ok {d i:Int} (h0:1≤d) (h1:d<64):OpOk many n (opx 1 d 0 0 i n) :=
 opx_ok (by omega) (by omega) (opx_E (by omega) (by omega) (alw2 h0 h1) (.inl (by decide)) rfl (.inr rfl) rfl (.inr rfl) (.inl rfl) n0 n1)
theorem op_copy_ok {d a:Int} (h0:1≤d) (h1:d<64) (a0:0≤a) (a1:a<64):OpOk many n (opx 2 d a 0 0 n) :=
 opx_ok (by omega) (by omega) (opx_E (by omega) (by omega) (alw2 h0 h1) (.inl (by decide)) (alw1 a0 a1) (.inl (by decide)) rfl (.inr rfl) (.inr rfl) n0 n1)
theorem op_sum_ok {k:Nat} {d a b:Int} (k0:3≤k) (k1:k≤20) (h0:1≤d) (h1:d<64) (a0:0≤a) (a1:a<64) (b0:0≤b) (b1:b<64):OpOk many n (opx k d a b 0 n):=by
 have e1:rD k=2:=by unfold rD;rw[if_pos (by omega)]
 have e2:rA k=1:=by unfold rA;rw[if_pos (by omega)]
 have e3:rB k=1:=by unfold rB;rw[if_pos (by omega)]
 exact opx_ok (by omega) (by omega) (opx_E (by omega) (by omega) (by rw[e1];exact alw2 h0 h1) (.inl (by omega)) (by rw[e2];exact alw1 a0 a1) (.inl (by omega)) (by rw[e3];exact alw1 b0 b1) (.inl (by omega)) (.inr rfl) n0 n1)
theorem op_over_ok {k:Nat} {a b:Int} (hk:k=21∨k=22) (a0:0≤a) (a1:a<64) (b0:0≤b) (b1:b<64):OpOk many n (opx k 0 a b 0 n):=by
 have e1:rD k=0:=by unfold rD;rw[if_neg (by omega),if_neg (by omega)]
 have e2:rA k=1:=by unfold rA;rw[if_pos (by omega)]
 have e3:rB k=1:=by unfold rB;rw[if_pos (by omega)]
 exact opx_ok (by omega) (by omega) (opx_E (by omega) (by omega) (by rw[e1];rfl) (.inr rfl) (by rw[e2];exact alw1 a0 a1) (.inl (by omega)) (by rw[e3];exact alw1 b0 b1) (.inl (by omega)) (.inr rfl) n0 n1)
theorem op_load_ok {d a b i:Int} (h0:1≤d) (h1:d<64) (a0:0≤a) (a1:a<64) (hb:b=1∨b=2∨b=4∨b=-1∨b=-2):OpOk many n (opx 23 d a b i n) :=
 opx_ok (by omega) (by omega) (opx_E (by omega) (by omega) (alw2 h0 h1) (.inl (by decide)) (alw1 a0 a1) (.inl (by decide)) (by show alw 3 b=true;unfold alw;simpa using hb) (.inl (by decide)) (.inl rfl) n0 n1)
theorem store_ok' {d a b i:Int} (hd:d=1∨d=2∨d=4) (a0:0≤a) (a1:a<64) (b0:0≤b) (b1:b<64):OpOk many n (opx 24 d a b i n) :=
 opx_ok (by omega) (by omega) (opx_E (by omega) (by omega) (by show alw 4 d=true;unfold alw;simpa using hd) (.inl (by decide)) (alw1 a0 a1) (.inl (by decide)) (alw1 b0 b1) (.inl (by decide)) (.inl rfl) n0 n1)
omit n0 n1 in
theorem wrO_ok {o:Opx} (h:o.d≠0→OpOk many n o):∀ p∈wrO o,OpOk many n p:=by
 intro p hp
 unfold wrO at hp
 split at hp
 ·cases hp
 ·rename_i h0;simp at hp;subst hp;exact h h0
omit n0 n1 in
theorem rsK_bd (k:Nat):3≤rsK k∧rsK k≤13:=by
 unfold rsK
 repeat (first|(split;· omega)|omega)
omit n0 n1 in
theorem ovK_cases (k:Nat):ovK k=0∨ovK k=21∨ovK k=22:=by
 unfold ovK
 repeat (first|(split;· omega)|omega)
theorem resL_ok {i:Ix} (I:InsOk i):∀ o∈resL i n,OpOk many n o:=by
 have hD:0≤oD i.n i∧oD i.n i<32:=by have:=I.t0;have:=I.t1;have:=I.d0;have:=I.d1;unfold oD;split<;>omega
 have hA:0≤oA i.n i∧oA i.n i<32:=by have:=I.t0;have:=I.t1;have:=I.s0;have:=I.s1;unfold oA;split<;>omega
 have hB:0≤oB i.n i∧oB i.n i<64:=by
  have:=I.t0;have:=I.t1;have:=I.s0;have:=I.s1;unfold oB
  repeat (first|(split;· omega)|omega)
 have hr:=rsK_bd i.n
 have hv:=ovK_cases i.n
 intro o ho
 unfold resL at ho
 split at ho
 ·cases ho
 simp only[List.mem_append]at ho
 rcases ho with (ho|ho)|ho
 ·split at ho
  ·simp at ho;subst ho;exact op_set_ok n0 n1 (by omega) (by omega)
  ·cases ho
 ·split at ho
  ·cases ho
  ·rename_i h0;simp at ho;subst ho;exact op_over_ok n0 n1 (by omega) (by omega) (by omega) (by omega) (by omega)
 ·exact wrO_ok (fun h=>op_sum_ok n0 n1 (by omega) (by omega) (by have:oD i.n i≠0:=h;omega) (by omega) (by omega) (by omega) (by omega) (by omega)) o ho
theorem hiLoL_ok {h l:Nat} {i:Ix} (I:InsOk i) (h0:3≤h) (h1:h≤20) (l0:3≤l) (l1:l≤20):∀ o∈hiLoL h l i n,OpOk many n o:=by
 have:=I.s0;have:=I.s1;have:=I.t0;have:=I.t1
 intro o ho
 unfold hiLoL at ho
 simp at ho
 rcases ho with rfl|rfl
 ·exact op_sum_ok n0 n1 h0 h1 (by omega) (by omega) (by omega) (by omega) (by omega) (by omega)
 ·exact op_sum_ok n0 n1 l0 l1 (by omega) (by omega) (by omega) (by omega) (by omega) (by omega)
theorem sumL_ok {i:Ix} (I:InsOk i):∀ o∈sumL i n,OpOk many n o:=by
 have:=I.s0;have:=I.s1;have:=I.t0;have:=I.t1;have:=I.d0;have:=I.d1
 unfold sumL
 split
 ·exact hiLoL_ok n0 n1 I (by omega) (by omega) (by omega) (by omega)
 split
 ·exact hiLoL_ok n0 n1 I (by omega) (by omega) (by omega) (by omega)
 split
 ·exact hiLoL_ok n0 n1 I (by omega) (by omega) (by omega) (by omega)
 split
 ·exact hiLoL_ok n0 n1 I (by omega) (by omega) (by omega) (by omega)
 split
 ·exact wrO_ok fun h=>op_copy_ok n0 n1 (by have:i.d≠0:=h;omega) (by omega) (by omega) (by omega)
 split
 ·exact wrO_ok fun h=>op_copy_ok n0 n1 (by have:i.d≠0:=h;omega) (by omega) (by omega) (by omega)
 split
 ·intro o ho;simp at ho;subst ho;exact op_copy_ok n0 n1 (by omega) (by omega) (by omega) (by omega)
 split
 ·intro o ho;simp at ho;subst ho;exact op_copy_ok n0 n1 (by omega) (by omega) (by omega) (by omega)
 split
 ·exact wrO_ok fun h=>op_set_ok n0 n1 (by have:i.t≠0:=h;omega) (by omega)
 ·exact resL_ok n0 n1 I
theorem brL_ok {pc:Int} {i:Ix} (I:InsOk i):∀ o∈brL pc i n,OpOk many n o:=by
 have:=I.s0;have:=I.s1;have:=I.t0;have:=I.t1;have:=I.d0;have:=I.d1
 intro o ho
 unfold brL at ho
 simp only[List.mem_append]at ho
 rcases ho with ho|ho
 ·split at ho
  ·simp at ho;subst ho;exact op_sum_ok n0 n1 (by omega) (by omega) (by omega) (by omega) (by omega) (by omega) (by omega) (by omega)
  split at ho
  ·simp at ho;subst ho;exact op_sum_ok n0 n1 (by omega) (by omega) (by omega) (by omega) (by omega) (by omega) (by omega) (by omega)
  split at ho
  ·simp at ho;subst ho;exact op_copy_ok n0 n1 (by omega) (by omega) (by omega) (by omega)
  ·cases ho
 ·split at ho
  ·simp at ho;subst ho;exact op_set_ok n0 n1 (by omega) (by omega)
  split at ho
  ·exact wrO_ok (fun h=>op_set_ok n0 n1 (by have:i.d≠0:=h;omega) (by omega)) o ho
  ·cases ho
omit n0 n1 in
theorem szX_cases (k:Nat):szI k=1∨szI k=2∨szI k=4:=by unfold szI;split;simp;split;simp;simp
omit n0 n1 in
theorem szX_signed {k:Nat} (h:sgI k=true):szI k=1∨szI k=2:=by unfold sgI at h;simp at h;rcases h with rfl|rfl<;>decide
theorem ldL_ok {i:Ix} (I:InsOk i):∀ o∈ldL i n,OpOk many n o:=by
 have:=I.s0;have:=I.s1;have:=I.t0;have:=I.t1
 intro o ho
 unfold ldL at ho
 simp only[List.mem_singleton]at ho
 subst ho
 refine op_load_ok n0 n1 (by split<;>omega) (by split<;>omega) (by omega) (by omega) ?_
 split
 ·rename_i h;rcases szX_signed h with e|e<;>omega
 ·rcases szX_cases i.n with e|e|e<;>omega
theorem stL_ok {i:Ix} (I:InsOk i):∀ o∈stL i n,OpOk many n o:=by
 have:=I.s0;have:=I.s1;have:=I.t0;have:=I.t1
 intro o ho
 unfold stL at ho
 simp only[List.mem_singleton]at ho
 subst ho
 exact store_ok' n0 n1 (szX_cases i.n) (by omega) (by omega) (by omega) (by omega)
theorem insX_ok {pc:Int} {i:Ix} (I:InsOk i):∀ o∈insX pc i n,OpOk many n o:=by
 unfold insX
 split
 ·exact brL_ok n0 n1 I
 split
 ·exact ldL_ok n0 n1 I
 split
 ·exact stL_ok n0 n1 I
 ·exact sumL_ok n0 n1 I
end
theorem wrO_len (o:Opx):(wrO o).length≤1:=by unfold wrO;split<;>simp
theorem insX_len (pc:Int) (i:Ix) (n:Int):(insX pc i n).length≤3:=by
 have h1:(brL pc i n).length≤3:=by
  unfold brL
  rw[List.length_append]
  have a:(if i.n=31∨i.n=32 then [opx 7 35 i.s i.t 0 n] else if i.n=33∨i.n=34 then [opx 9 35 0 i.s 0 n] else if i.n=7∨i.n=8 then [opx 2 35 i.s 0 0 n] else []).length≤1:=by
   split;simp;split;simp;split<;>simp
  have b:(if i.n=30 then [opx 1 31 0 0 (linkI pc n) n] else if i.n=8 then wrO (opx 1 i.d 0 0 (linkI pc n) n) else []).length≤1:=by
   split;simp;split;exact wrO_len _;simp
  omega
 have h2:(resL i n).length≤3:=by
  unfold resL
  split
  ·simp
  ·rw[List.length_append,List.length_append]
   have a:(if oB i.n i=34 then [opx 1 34 0 0 (immI i.n i.m) n] else []).length≤1:=by split<;>simp
   have b:(if ovK i.n=0 then [] else [opx (ovK i.n) 0 (oA i.n i) (oB i.n i) 0 n]).length≤1:=by split<;>simp
   have:=wrO_len (opx (rsK i.n) (oD i.n i) (oA i.n i) (oB i.n i) 0 n)
   omega
 have h3:(sumL i n).length≤3:=by
  unfold sumL
  repeat (first|(split;· first|(simp[hiLoL];done)|(exact Nat.le_trans (wrO_len _) (by omega)))|exact h2)
 unfold insX
 split
 ·exact h1
 split
 ·simp[ldL]
 split
 ·simp[stL]
 ·exact h3
theorem strs_app (a b:List Opx):strs (a++b)=strs a+strs b:=by unfold strs;simp
theorem strs_none {l:List Opx} (h:∀ o∈l,o.k≠24):strs l=0:=by
 unfold strs
 rw[List.length_eq_zero_iff,List.filter_eq_nil_iff]
 intro o ho;simpa using h o ho
theorem wrO_k {o:Opx} (h:o.k≠24):∀ p∈wrO o,p.k≠24:=by
 intro p hp;unfold wrO at hp;split at hp
 ·cases hp
 ·simp at hp;subst hp;exact h
theorem opx_k24 {n:Nat} (h1:1≤n) (h2:n<28) (h:n≠24) (d a b i t:Int):(opx n d a b i t).k≠24:=by rw[opx_k h1 h2];exact h
theorem insX_strs (pc:Int) (i:Ix) (n:Int):strs (insX pc i n)=if i.kd=5 then 1 else 0:=by
 have hr:=rsK_bd i.n
 have hv:=ovK_cases i.n
 unfold insX
 split
 ·rename_i h;rw[if_neg (by omega)]
  refine strs_none fun o ho=>?_
  unfold brL at ho
  simp only[List.mem_append]at ho
  rcases ho with ho|ho
  ·split at ho
   ·simp at ho;subst ho;exact opx_k24 (by omega) (by omega) (by omega) _ _ _ _ _
   split at ho
   ·simp at ho;subst ho;exact opx_k24 (by omega) (by omega) (by omega) _ _ _ _ _
   split at ho
   ·simp at ho;subst ho;exact opx_k24 (by omega) (by omega) (by omega) _ _ _ _ _
   ·cases ho
  ·split at ho
   ·simp at ho;subst ho;exact opx_k24 (by omega) (by omega) (by omega) _ _ _ _ _
   split at ho
   ·exact wrO_k (opx_k24 (by omega) (by omega) (by omega) _ _ _ _ _) o ho
   ·cases ho
 split
 ·rename_i h;rw[if_neg (by omega)]
  refine strs_none fun o ho=>?_
  unfold ldL at ho;simp only[List.mem_singleton]at ho;subst ho;exact opx_k24 (by omega) (by omega) (by omega) _ _ _ _ _
 split
 ·rename_i h;rfl
 ·rename_i h;
  refine strs_none fun o ho=>?_
  have hhl:∀ {a b:Nat},1≤a→a<24→1≤b→b<24→o∈hiLoL a b i n→o.k≠24:=fun a0 a1 b0 b1 hm=>by
   unfold hiLoL at hm;simp only[List.mem_cons,List.not_mem_nil,or_false]at hm
   rcases hm with rfl|rfl
   ·exact opx_k24 a0 (by omega) (by omega) _ _ _ _ _
   ·exact opx_k24 b0 (by omega) (by omega) _ _ _ _ _
  unfold sumL at ho
  split at ho
  ·exact hhl (by omega) (by omega) (by omega) (by omega) ho
  split at ho
  ·exact hhl (by omega) (by omega) (by omega) (by omega) ho
  split at ho
  ·exact hhl (by omega) (by omega) (by omega) (by omega) ho
  split at ho
  ·exact hhl (by omega) (by omega) (by omega) (by omega) ho
  split at ho
  ·exact wrO_k (opx_k24 (by omega) (by omega) (by omega) _ _ _ _ _) o ho
  split at ho
  ·exact wrO_k (opx_k24 (by omega) (by omega) (by omega) _ _ _ _ _) o ho
  split at ho
  ·simp only[List.mem_singleton]at ho;subst ho;exact opx_k24 (by omega) (by omega) (by omega) _ _ _ _ _
  split at ho
  ·simp only[List.mem_singleton]at ho;subst ho;exact opx_k24 (by omega) (by omega) (by omega) _ _ _ _ _
  split at ho
  ·exact wrO_k (opx_k24 (by omega) (by omega) (by omega) _ _ _ _ _) o ho
  unfold resL at ho
  split at ho
  ·cases ho
  simp only[List.mem_append]at ho
  rcases ho with (ho|ho)|ho
  ·split at ho
   ·simp only[List.mem_singleton]at ho;subst ho;exact opx_k24 (by omega) (by omega) (by omega) _ _ _ _ _
   ·cases ho
  ·split at ho
   ·cases ho
   ·simp only[List.mem_singleton]at ho;subst ho;exact opx_k24 (by omega) (by omega) (by omega) _ _ _ _ _
  ·exact wrO_k (opx_k24 (by omega) (by omega) (by omega) _ _ _ _ _) o ho
theorem wellL_head {many n:Int}:∀ (a b:List Opx) (ah:Int),(∀ o∈a,OpOk many n o)→ah≤n→wellL many n b→wellL many ah (a++b)
 | [],b,ah,_,h,hb=>by
  cases b with
  | nil=>trivial
  | cons o l=>exact ⟨hb.1,by have:=hb.2.1;omega,hb.2.2.1,hb.2.2.2⟩
 | o :: a,b,ah,ha,h,hb=>by
  have ho:=ha o (by simp)
  refine ⟨ho.1,(by rw[ho.2.2];exact h),(fun e=>by rw[ho.2.1]at e;exact absurd e (by decide)),?_⟩
  exact wellL_head a b o.t (fun p hp=>ha p (by simp[hp])) (by rw[ho.2.2];exact Int.le_refl _) hb
theorem insXs_well {many:Int} (pc:Int):∀ (l:List Ix) (n:Int) (b:List Opx),0≤n→n+l.length≤many→(∀ i∈l,InsOk i)→wellL many (n+l.length-1) b→wellL many (n-1) (insXs pc l n++b)
 | [],n,b,_,_,_,hb=>by simpa [insXs] using hb
 | i :: l,n,b,n0,n1,hi,hb=>by
  have e:((i :: l).length:Int)=l.length+1:=by simp
  rw[e]at n1 hb
  show wellL many (n-1) ((insX pc i n++insXs pc l (n+1))++b)
  rw[List.append_assoc]
  refine wellL_head _ _ _ (insX_ok n0 (by omega) (hi i (by simp))) (by omega) ?_
  have:=insXs_well (many:=many) pc l (n+1) b (by omega) (by omega) (fun q hq=>hi q (by simp[hq])) (by rwa [show n+1+(l.length:Int)-1=n+(l.length+1)-1 by omega])
  rwa [show n+1-1=n by omega]at this
theorem insXs_len (pc:Int):∀ (l:List Ix) (n:Int),(insXs pc l n).length≤3*l.length
 | [],n=>by simp[insXs]
 | i :: l,n=>by
  show (insX pc i n++insXs pc l (n+1)).length≤_
  rw[List.length_append]
  have:=insX_len pc i n;have:=insXs_len pc l (n+1);simp only[List.length_cons];omega
theorem insXs_strs (pc:Int):∀ (l:List Ix) (n:Int),strs (insXs pc l n)=stI l
 | [],n=>rfl
 | i :: l,n=>by
  show strs (insX pc i n++insXs pc l (n+1))=_
  rw[strs_app,insX_strs,insXs_strs pc l];rfl
theorem if_E {many n a i:Int} (n0:0≤n) (n1:n<many) (a0:0≤a) (a1:a<64):opE (opx 25 0 a 0 i n) many=0 :=
 opx_E (by omega) (by omega) rfl (.inr rfl) (alw1 a0 a1) (.inl (by decide)) rfl (.inr rfl) (.inl rfl) n0 n1
theorem out_E {many n i:Int} (n0:0≤n) (n1:n<many):opE (opx 26 0 0 0 i n) many=0 :=
 opx_E (by omega) (by omega) rfl (.inr rfl) rfl (.inr rfl) rfl (.inr rfl) (.inl rfl) n0 n1
theorem outr_E {many n a:Int} (n0:0≤n) (n1:n<many) (a0:0≤a) (a1:a<64):opE (opx 27 0 a 0 0 n) many=0 :=
 opx_E (by omega) (by omega) rfl (.inr rfl) (alw1 a0 a1) (.inl (by decide)) rfl (.inr rfl) (.inr rfl) n0 n1
structure EndOk (many:Int) (l:List Opx) (n:Int):Prop where
 well:wellL many n l
 last:∃ o,l.getLast?=some o∧outB o=true
 st:strs l=0
 len:l.length≤2
theorem out_out (d a b i t:Int):outB (opx 26 d a b i t)=true:=by unfold outB;rw[opx_k (by omega) (by omega)];rfl
theorem outr_out (d a b i t:Int):outB (opx 27 d a b i t)=true:=by unfold outB;rw[opx_k (by omega) (by omega)];rfl
theorem if_out (d a b i t:Int):outB (opx 25 d a b i t)=false:=by unfold outB;rw[opx_k (by omega) (by omega)];rfl
theorem end_out {many n i:Int} (n0:0≤n) (n1:n<many):EndOk many [opx 26 0 0 0 i n] n :=
 ⟨⟨out_E n0 n1,Int.le_refl _,fun _=>rfl,trivial⟩,⟨_,rfl,out_out _ _ _ _ _⟩,strs_none (by intro o ho;simp only[List.mem_singleton]at ho;subst ho;exact opx_k24 (by omega) (by omega) (by omega) _ _ _ _ _),by simp⟩
theorem end_outr {many n:Int} (n0:0≤n) (n1:n<many):EndOk many [opx 27 0 35 0 0 n] n :=
 ⟨⟨outr_E n0 n1 (by omega) (by omega),Int.le_refl _,fun _=>rfl,trivial⟩,⟨_,rfl,outr_out _ _ _ _ _⟩,strs_none (by intro o ho;simp only[List.mem_singleton]at ho;subst ho;exact opx_k24 (by omega) (by omega) (by omega) _ _ _ _ _),by simp⟩
theorem end_if {many n i j:Int} (n0:0≤n) (n1:n<many):EndOk many [opx 25 0 35 0 i n,opx 26 0 0 0 j n] n :=
 ⟨⟨if_E n0 n1 (by omega) (by omega),Int.le_refl _,(fun e=>by rw[if_out]at e;exact absurd e (by decide)),out_E n0 n1,Int.le_refl _,fun _=>rfl,trivial⟩,⟨_,rfl,out_out _ _ _ _ _⟩,strs_none (by
  intro o ho;simp only[List.mem_cons,List.not_mem_nil,or_false]at ho
  rcases ho with rfl|rfl<;>exact opx_k24 (by omega) (by omega) (by omega) _ _ _ _ _),by simp⟩
theorem leaveL_ok (pc:Int) (l:List Ix) (h:1≤l.length):EndOk l.length (leaveL pc l) ((l.length:Int)-1):=by
 unfold leaveL
 split
 ·unfold leaveB
  split
  ·exact end_if (by omega) (by omega)
  split
  ·exact end_if (by omega) (by omega)
  split
  ·exact end_outr (by omega) (by omega)
  ·exact end_out (by omega) (by omega)
 ·exact end_out (by omega) (by omega)
theorem lowL_well (pc:Int) {l:List Ix} (R:RegOk l):Well l.length (lowL pc l):=by
 have E:=leaveL_ok pc l R.l0
 have hl:=insXs_len pc l 0
 have h0:=R.l0;have h1:=R.l1
 have hi:∀ i∈l,InsOk i:=fun i hi=>by
  obtain ⟨j,hj⟩:=List.getElem?_of_mem hi
  exact (insB_ok (R.ins j i hj)).1
 refine ⟨by omega,by omega,?_,?_,?_,?_⟩
 ·unfold lowL;rw[List.length_append];have:=E.len;omega
 ·unfold lowL;rw[strs_app,insXs_strs,E.st];have:=R.st;omega
 ·obtain ⟨o,ho,hb⟩:=E.last
  refine ⟨o,?_,hb⟩
  unfold lowL
  rw[List.getLast?_append,ho];rfl
 ·have hw:=insXs_well (many:=l.length) pc l 0 (leaveL pc l) (by omega) (by omega) hi (by have:=E.well;rwa [show (0:Int)+l.length-1=l.length-1 by omega])
  have hc:wellL l.length (0-1) (lowL pc l):=hw
  -- no op is of an instruction below 0
  revert hc
  unfold lowL
  cases hc0:insXs pc l 0++leaveL pc l with
  | nil=>intro _;trivial
  | cons o r =>
   intro hc
   refine ⟨hc.1,?_,hc.2.2.1,hc.2.2.2⟩
   have hb:=(opE_zero.1 hc.1).2.1
   unfold bndB at hb
   simp only[Bool.and_eq_true,decide_eq_true_eq]at hb
   exact hb.1.2
theorem immX_bd {k:Nat} {m:Int} (m0:0≤m) (m1:m<4294967296):0≤immI k m∧immI k m<4294967296:=by
 unfold immI;split
 ·exact ⟨m0,m1⟩
 ·exact wd_bd m0 m1 true
end Go.Proofs.YtflagpkmebdckaaGreatDoor.Low
namespace Go.Proofs.YtflagpkmebdckaaGreatDoor
open Go.RowKit Go.Maps
open Num
set_option linter.unusedVariables false
theorem load_place {w:World} {b:Nat} {S:St} {v:Value} {wc:Int} (A:RowIs w b 50 45 (plV S v wc)):(loadVar 50 ⟨b,0,none⟩).run Tryz.prog w=.ok (.agg (plA S v wc)) w :=
 run_loadVar_mid w b 0 50 ((List.range 45).map (plV S v wc)) _ (fun j u hu=>by
  have hj:j<45:=by have:=(List.getElem?_eq_some_iff.1 hu).1;simpa using this
  rw[Nat.zero_add,A.cell hj]
  rw[List.getElem?_map,List.getElem?_range hj]at hu
  exact hu) Tryz.underlying50 rfl (by show _=some 45;kernel_rfl)
theorem wpList_loadT {ops:Array Oper} {Q:Exit→Act→World→Prop} {a:Act} {w:World} {rest:List Oper} {o:Oper} (t:TypeId) (x:Operand) (hop:o.op=.load t x) (sb:Nat) (v:Value) (hgd:Region.wanted o (yielded ops a.tmps)=true) (hx:a.eval x=.pointer (some ⟨sb,0,none⟩)) (hl:(loadVar t ⟨sb,0,none⟩).run Tryz.prog w=.ok v w)
  (h:wpList Tryz.prog ops Q rest (a.put o.dst v) w):wpList Tryz.prog ops Q (o :: rest) a w :=
 wpList_step fun K hK=>by
  rw[if_pos hgd]
  unfold Oper.wp
  rw[exec_loadT hop hx w hl,Oper.upon_value]
  exact hK _ _ h
def OzSame:Oz→Oz→Prop
 | .trap _,.trap _=>True
 | .leave M,.leave N=>M.lv=N.lv∧(∀ i,i<4096→M.m i=N.m i)∧∀ r:Nat,1≤r→r≤33→M.x r=N.x r
 | .fell,.fell=>True
 | _,_=>False
def rgS (S:St) (j:Nat):Int:=if j<32 then S.r j else if j=32 then S.hi else S.lo
theorem rgS_v (S:St):∀ j,j<34→stV S j=.int .u32 (rgS S j):=by
 intro j hj
 unfold stV rgS
 by_cases h:j<32
 ·rw[if_pos h,if_pos h]
 ·rw[if_neg h,if_neg h]
  by_cases h2:j=32
  ·rw[if_pos h2,if_pos h2]
  ·rw[if_neg h2,if_neg h2,if_pos (by omega)]
theorem rgS_bd {S:St} (ok:S.ok):∀ j,j<34→0≤rgS S j∧rgS S j<4294967296:=by
 intro j hj
 unfold rgS
 split
 ·exact ok.r j
 ·split
  ·exact ok.hi
  ·exact ok.lo
theorem stF_same {f:Nat→Value} {M N:Mz} {many ct:Int} (h1:M.lv=N.lv) (h2:∀ r:Nat,1≤r→r≤33→M.x r=N.x r):∀ j,j<43→stF f M many ct j=stF f N many ct j:=by
 intro j hj
 unfold stF
 by_cases h:1≤j∧j<34
 ·rw[if_pos h,if_pos h,h2 j h.1 (by omega)]
 ·rw[if_neg h,if_neg h,h1]
def lfS (S:St) (M:Mz) (many:Int):St:={ S with r:=fun j=>if 1≤j then M.x j else S.r j,hi:=M.x 32,lo:=M.x 33,pc:=M.lv,nx:=lo (M.lv+4),ct:=S.ct+many }
theorem stF_st (S:St) (M:Mz) (many:Int):∀ j,j<43→stV (lfS S M many) j=stF (stV S) M many S.ct j:=by
 intro j hj
 by_cases h0:j=0
 ·subst h0;rfl
 ·by_cases h1:j<34
  ·have e:stF (stV S) M many S.ct j=.int .u32 (M.x j):=by unfold stF;rw[if_pos (by omega)]
   rw[e]
   unfold stV lfS
   by_cases h:j<32
   ·rw[if_pos h];show Value.int .u32 (if 1≤j then M.x j else S.r j)=_;rw[if_pos (by omega)]
   ·rw[if_neg h]
    by_cases h2:j=32
    ·rw[if_pos h2,h2]
    ·rw[if_neg h2,if_pos (by omega)];rw[show j=33 by omega]
  ·have hc:j=34∨j=35∨j=36∨j=37∨j=38∨j=39∨j=40∨j=41∨j=42:=by omega
   rcases hc with rfl|rfl|rfl|rfl|rfl|rfl|rfl|rfl|rfl<;>rfl
structure Rn (w w':World) (sb rb g0:Nat) (S:St) (m:Nat→Int):Prop where
 st:StRow w' sb S
 wd:∃ gb,w'.cell? ⟨rb,0,none⟩=some (.slice (some ⟨gb,0,none⟩) 4096 4096)∧(gb=g0∨w.heap.size≤gb)∧(∀ i,i<4096→w'.cell? ⟨gb,i,none⟩=some (.int .u32 (m i)))
 bk:∀ k,k<w.heap.size→k≠sb→k≠rb→w'.heap[k]?=w.heap[k]?
 sz:w.heap.size≤w'.heap.size
 os:w'.os=w.os
 tape:w'.tape=w.tape
 output:w'.output=w.output
def ozT:Oz→Bool
 | .trap _=>true
 | _=>false
def ozS (S:St) (many:Int):Oz→St
 | .leave M=>lfS S M many
 | _=>S
def ozM (m:Nat→Int):Oz→(Nat→Int)
 | .leave M=>M.m
 | _=>m
theorem OzSame.told {S:St} {many:Int} {m:Nat→Int} {a b:Oz} (h:OzSame a b):ozT a=ozT b∧stA (ozS S many a)=stA (ozS S many b)∧∀ i,i<4096→ozM m a i=ozM m b i:=by
 cases a<;>cases b<;>simp only[OzSame]at h
 ·exact ⟨rfl,rfl,fun _ _=>rfl⟩
 ·obtain ⟨h1,h2,h3⟩:=h
  refine ⟨rfl,stA_congr (fun j hj=>?_),h2⟩
  show stV (lfS S _ many) j=stV (lfS S _ many) j
  rw[stF_st _ _ _ j hj,stF_st _ _ _ j hj]
  exact stF_same h1 h3 j hj
 ·exact ⟨rfl,rfl,fun _ _=>rfl⟩
end Go.Proofs.YtflagpkmebdckaaGreatDoor
namespace Go.Proofs.YtflagpkmebdckaaGreatDoor.Low
open Num
set_option linter.unusedVariables false
def stepI (wt:Int→Bool) (S:St) (m:Nat→Int) (i:Ix):Option (St × (Nat→Int)) :=
 if i.kd=2 then (if S.sl=true then none else some ({ (branchP S i.n i.s.toNat i.t.toNat i.d.toNat i.m).2 with ct:=S.ct+1 },m))
 else if i.kd=4 then (if chk (adI S i.n i.s.toNat i.m) (szI i.n)=0 then some ({ (S.set i.t.toNat (ld m (adI S i.n i.s.toNat i.m) (szI i.n) (sgI i.n))).on with ct:=S.ct+1 },m) else none)
 else if i.kd=5 then (if chk (adI S i.n i.s.toNat i.m) (szI i.n)=0∧wt (adI S i.n i.s.toNat i.m/256)=false then some ({ S.on with ct:=S.ct+1 },upd m (adI S i.n i.s.toNat i.m) (szI i.n) (S.r i.t.toNat)) else none)
 else (if (sumP S i.n i.s.toNat i.t.toNat i.d.toNat i.m).1=-1 then some ({ (sumP S i.n i.s.toNat i.t.toNat i.d.toNat i.m).2 with ct:=S.ct+1 },m) else none)
def stepsI (wt:Int→Bool):List Ix→St→(Nat→Int)→Option (St × (Nat→Int))
 | [],S,m=>some (S,m)
 | i :: l,S,m=>match stepI wt S m i with
  | some (S',m')=>stepsI wt l S' m'
  | none=>none
structure Ag (x:Nat→Int) (S:St):Prop where
 r:∀ j,j<32→x j=S.r j
 hi:x 32=S.hi
 lo:x 33=S.lo
theorem Ag.int {x:Nat→Int} {S:St} (A:Ag x S) {j:Int} (h0:0≤j) (h1:j<32):x j.toNat=S.r j.toNat:=A.r _ (by omega)
theorem run1_put {wt:Int→Bool} {x m:Nat→Int} {k:Nat} {d a b i t:Int} {l:List Opx} (k1:1≤k) (k2:k≤20) (hd:1≤d):run1 wt (opx k d a b i t :: l) x m=run1 wt l (setX x d (valV k (x a.toNat) (x b.toNat) (x d.toNat) i)) m:=by
 have hk:=opx_k k1 (by omega:k<28) d a b i t
 rw[run1_cons,resZ_val (by rw[hk];exact k2),hk]
 rw[if_neg (by simp)]
 have e:appZ ⟨x,m,-1⟩ (opx k d a b i t) ⟨valV k (x (opx k d a b i t).a.toNat) (x (opx k d a b i t).b.toNat) (x (opx k d a b i t).d.toNat) (opx k d a b i t).i,0,false,false⟩=⟨setX x d (valV k (x a.toNat) (x b.toNat) (x d.toNat) i),m,-1⟩:=appZ_val (o:=opx k d a b i t) (by rw[hk];exact k1) (by rw[hk];exact k2) hd _ _
 rw[e]
 rfl
theorem wrX_none {k:Nat} {d a b i t:Int} (h:k=21∨k=22∨k=24∨k=25∨k=26∨k=27):wrX (opx k d a b i t)=0:=by
 have hk:=opx_k (by omega:1≤k) (by omega:k<28) d a b i t
 unfold wrX rD
 rw[hk,if_neg (by rw[if_neg (by omega)];split<;>omega)]
theorem run1_over {wt:Int→Bool} {x m:Nat→Int} {k:Nat} {a b t:Int} {l:List Opx} (hk:k=21∨k=22):run1 wt (opx k 0 a b 0 t :: l) x m=if (if k=21 then ov (sg (x a.toNat)+sg (x b.toNat)) else ov (sg (x a.toNat)-sg (x b.toNat)))=true then .trap t else run1 wt l x m:=by
 have hk':=opx_k (by omega:1≤k) (by omega:k<28) 0 a b 0 t
 rw[run1_cons]
 have e:resZ wt x m (opx k 0 a b 0 t)=⟨0,0,if k=21 then ov (sg (x a.toNat)+sg (x b.toNat)) else ov (sg (x a.toNat)-sg (x b.toNat)),false⟩:=by
  unfold resZ
  rw[hk']
  rcases hk with rfl|rfl
  ·rfl
  ·rfl
 rw[e]
 have hw:=wrX_none (d:=0) (a:=a) (b:=b) (i:=0) (t:=t) (show k=21∨k=22∨k=24∨k=25∨k=26∨k=27 by omega)
 have e2:appZ ⟨x,m,-1⟩ (opx k 0 a b 0 t) ⟨0,0,if k=21 then ov (sg (x a.toNat)+sg (x b.toNat)) else ov (sg (x a.toNat)-sg (x b.toNat)),false⟩=⟨x,m,-1⟩:=by
  unfold appZ
  rw[hw,hk',if_neg (by omega),if_neg (by omega)];rfl
 rw[e2]
 rfl
theorem run1_load {wt:Int→Bool} {x m:Nat→Int} {d a b i t:Int} {l:List Opx} (hd:1≤d):run1 wt (opx 23 d a b i t :: l) x m=if chk (lo (x a.toNat+i)) (if b<0 then -b else b)=0 then run1 wt l (setX x d (ld m (lo (x a.toNat+i)) (if b<0 then -b else b) (decide (b<0)))) m else .trap t:=by
 have hk':=opx_k (by omega:1≤23) (by omega:23<28) d a b i t
 have hw:wrX (opx 23 d a b i t)=d:=by unfold wrX rD;rw[hk'];rfl
 rw[run1_cons]
 have e:resZ wt x m (opx 23 d a b i t)=if chk (lo (x a.toNat+i)) (if b<0 then -b else b)=0 then ⟨ld m (lo (x a.toNat+i)) (if b<0 then -b else b) (decide (b<0)),0,false,false⟩ else ⟨0,0,true,false⟩:=by
  unfold resZ;rw[hk'];rfl
 rw[e]
 by_cases hc:chk (lo (x a.toNat+i)) (if b<0 then -b else b)=0
 ·rw[if_pos hc,if_pos hc,if_neg (by simp)]
  have e2:appZ ⟨x,m,-1⟩ (opx 23 d a b i t) ⟨ld m (lo (x a.toNat+i)) (if b<0 then -b else b) (decide (b<0)),0,false,false⟩=⟨setX x d (ld m (lo (x a.toNat+i)) (if b<0 then -b else b) (decide (b<0))),m,-1⟩:=by
   unfold appZ;rw[hw,hk',if_pos (show 0<d by omega),if_neg (show ¬ (23:Nat)=24 by omega)];rfl
  rw[e2];rfl
 ·rw[if_neg hc,if_neg hc,if_pos rfl];rfl
theorem run1_store {wt:Int→Bool} {x m:Nat→Int} {d a b i t:Int} {l:List Opx}:run1 wt (opx 24 d a b i t :: l) x m=if chk (lo (x a.toNat+i)) d=0∧wt (lo (x a.toNat+i)/256)=false then run1 wt l x (upd m (lo (x a.toNat+i)) d (x b.toNat)) else .trap t:=by
 have hk':=opx_k (by omega:1≤24) (by omega:24<28) d a b i t
 have hw:=wrX_none (k:=24) (d:=d) (a:=a) (b:=b) (i:=i) (t:=t) (by omega)
 rw[run1_cons]
 have e:resZ wt x m (opx 24 d a b i t)=if chk (lo (x a.toNat+i)) d=0 then ⟨x b.toNat,lo (x a.toNat+i),wt (lo (x a.toNat+i)/256),false⟩ else ⟨0,0,true,false⟩:=by
  unfold resZ;rw[hk'];rfl
 rw[e]
 by_cases hc:chk (lo (x a.toNat+i)) d=0
 ·rw[if_pos hc]
  by_cases hwt:wt (lo (x a.toNat+i)/256)=true
  ·rw[if_neg (show ¬ (chk (lo (x a.toNat+i)) d=0∧wt (lo (x a.toNat+i)/256)=false) by rw[hwt];simp),if_pos hwt];rfl
  ·have hf:wt (lo (x a.toNat+i)/256)=false:=by simpa using hwt
   rw[if_pos (show chk (lo (x a.toNat+i)) d=0∧wt (lo (x a.toNat+i)/256)=false from ⟨hc,hf⟩),if_neg hwt]
   have e2:appZ ⟨x,m,-1⟩ (opx 24 d a b i t) ⟨x b.toNat,lo (x a.toNat+i),wt (lo (x a.toNat+i)/256),false⟩=⟨x,upd m (lo (x a.toNat+i)) d (x b.toNat),-1⟩:=by
    unfold appZ;rw[hw,hk',if_neg (show ¬ (0:Int)<0 by omega),if_pos rfl];rfl
   rw[e2];rfl
 ·rw[if_neg hc,if_pos rfl,if_neg (fun h=>hc h.1)];rfl
theorem run1_if {wt:Int→Bool} {x m:Nat→Int} {a i t:Int} {l:List Opx} (i0:0≤i):run1 wt (opx 25 0 a 0 i t :: l) x m=if x a.toNat≠0 then .leave ⟨x,m,i⟩ else run1 wt l x m:=by
 have hk':=opx_k (by omega:1≤25) (by omega:25<28) 0 a 0 i t
 have hw:=wrX_none (k:=25) (d:=0) (a:=a) (b:=0) (i:=i) (t:=t) (by omega)
 rw[run1_cons]
 have e:resZ wt x m (opx 25 0 a 0 i t)=⟨0,i,false,decide (x a.toNat≠0)⟩:=by unfold resZ;rw[hk'];rfl
 rw[e,if_neg (by simp)]
 have e2:appZ ⟨x,m,-1⟩ (opx 25 0 a 0 i t) ⟨0,i,false,decide (x a.toNat≠0)⟩=⟨x,m,if decide (x a.toNat≠0)=true then i else -1⟩:=by
  unfold appZ;rw[hw,hk',if_neg (show ¬ (0:Int)<0 by omega),if_neg (show ¬ (25:Nat)=24 by omega)]
 rw[e2]
 by_cases h:x a.toNat≠0
 ·have hd:decide (x a.toNat≠0)=true:=decide_eq_true h
  rw[hd,if_pos h,if_pos rfl,if_neg (by show ¬ i<0;omega)]
 ·have h0:x a.toNat=0:=Classical.byContradiction h
  simp[h0]
theorem run1_out {wt:Int→Bool} {x m:Nat→Int} {i t:Int} (i0:0≤i):run1 wt [opx 26 0 0 0 i t] x m=.leave ⟨x,m,i⟩:=by
 have hk':=opx_k (by omega:1≤26) (by omega:26<28) 0 0 0 i t
 have hw:=wrX_none (k:=26) (d:=0) (a:=0) (b:=0) (i:=i) (t:=t) (by omega)
 rw[run1_cons]
 have e:resZ wt x m (opx 26 0 0 0 i t)=⟨0,i,false,true⟩:=by unfold resZ;rw[hk'];rfl
 rw[e,if_neg (by simp)]
 have e2:appZ ⟨x,m,-1⟩ (opx 26 0 0 0 i t) ⟨0,i,false,true⟩=⟨x,m,i⟩:=by unfold appZ;rw[hw,hk',if_neg (by omega),if_neg (by omega)];rfl
 rw[e2,if_neg (by show ¬ i<0;omega)]
theorem run1_outr {wt:Int→Bool} {x m:Nat→Int} {a t:Int} (i0:0≤x a.toNat):run1 wt [opx 27 0 a 0 0 t] x m=.leave ⟨x,m,x a.toNat⟩:=by
 have hk':=opx_k (by omega:1≤27) (by omega:27<28) 0 a 0 0 t
 have hw:=wrX_none (k:=27) (d:=0) (a:=a) (b:=0) (i:=0) (t:=t) (by omega)
 rw[run1_cons]
 have e:resZ wt x m (opx 27 0 a 0 0 t)=⟨0,x a.toNat,false,true⟩:=by unfold resZ;rw[hk'];rfl
 rw[e,if_neg (by simp)]
 have e2:appZ ⟨x,m,-1⟩ (opx 27 0 a 0 0 t) ⟨0,x a.toNat,false,true⟩=⟨x,m,x a.toNat⟩:=by unfold appZ;rw[hw,hk',if_neg (by omega),if_neg (by omega)];rfl
 rw[e2,if_neg (by show ¬ x a.toNat<0;omega)]
theorem setX_at (x:Nat→Int) (d v:Int) (j:Nat):setX x d v j=if j=d.toNat then v else x j:=rfl
theorem Ag.set {x:Nat→Int} {S:St} (A:Ag x S) {d:Int} (d1:1≤d) (d2:d<32) (v:Int):Ag (setX x d v) (S.set d.toNat v):=by
 have hd:d.toNat≠0:=by omega
 have e:S.set d.toNat v={ S with r:=fun i=>if i=d.toNat then v else S.r i }:=by unfold St.set;rw[if_neg hd]
 rw[e]
 refine ⟨fun j hj=>?_,?_,?_⟩
 ·rw[setX_at];show _=if j=d.toNat then v else S.r j;split
  ·rfl
  ·exact A.r j hj
 ·rw[setX_at,if_neg (by omega)];exact A.hi
 ·rw[setX_at,if_neg (by omega)];exact A.lo
theorem Ag.other {x:Nat→Int} {S:St} (A:Ag x S) {d:Int} (d1:34≤d) (v:Int):Ag (setX x d v) S :=
 ⟨fun j hj=>by rw[setX_at,if_neg (by omega)];exact A.r j hj,by rw[setX_at,if_neg (by omega)];exact A.hi,by rw[setX_at,if_neg (by omega)];exact A.lo⟩
theorem Ag.putHi {x:Nat→Int} {S:St} (A:Ag x S) (v:Int):Ag (setX x 32 v) { S with hi:=v } :=
 ⟨fun j hj=>by rw[setX_at,if_neg (by show ¬ j=32;omega)];exact A.r j hj,by rw[setX_at,if_pos (by decide)],by rw[setX_at,if_neg (by decide)];exact A.lo⟩
theorem Ag.putLo {x:Nat→Int} {S:St} (A:Ag x S) (v:Int):Ag (setX x 33 v) { S with lo:=v } :=
 ⟨fun j hj=>by rw[setX_at,if_neg (by show ¬ j=33;omega)];exact A.r j hj,by rw[setX_at,if_neg (by decide)];exact A.hi,by rw[setX_at,if_pos (by decide)]⟩
theorem Ag.of {x:Nat→Int} {S T:St} (A:Ag x S) (hr:T.r=S.r) (hh:T.hi=S.hi) (hl:T.lo=S.lo):Ag x T:=⟨fun j hj=>by rw[hr];exact A.r j hj,by rw[hh];exact A.hi,by rw[hl];exact A.lo⟩
def Goes (wt:Int→Bool) (o:List Opx) (x m:Nat→Int) (R:Option (St × (Nat→Int))) (n:Int):Prop :=
 match R with
 | none=>∀ rest,run1 wt (o++rest) x m=.trap n
 | some (S',m')=>∃ x',(∀ rest,run1 wt (o++rest) x m=run1 wt rest x' m')∧Ag x' S'∧x' 35=x 35
theorem res_val (S:St) (k:Nat) (hk:1≤k∧k≤6∨19≤k∧k≤28∨35≤k∧k≤41) (a b d i:Int):valV (rsK k) a b d i=resI S k a b:=by
 have h:k=1∨k=2∨k=3∨k=4∨k=5∨k=6∨k=19∨k=20∨k=21∨k=22∨k=23∨k=24∨k=25∨k=26∨k=27∨k=28∨k=35∨k=36∨k=37∨k=38∨k=39∨k=40∨k=41:=by omega
 rcases h with rfl|rfl|rfl|rfl|rfl|rfl|rfl|rfl|rfl|rfl|rfl|rfl|rfl|rfl|rfl|rfl|rfl|rfl|rfl|rfl|rfl|rfl|rfl<;>simp[valV,rsK,resI,bitsI,bitI]
theorem over_val (k:Nat) (a b:Int):ovK k=0→overI k a b=false:=by
 intro h
 unfold ovK at h
 unfold overI
 split at h
 ·cases h
 ·split at h
  ·cases h
  ·rename_i h1 h2;rw[if_neg h1,if_neg h2]
theorem over_some (k:Nat) (a b:Int) (h:ovK k=21∨ovK k=22):(if ovK k=21 then ov (sg a+sg b) else ov (sg a-sg b))=overI k a b:=by
 unfold ovK at h ⊢
 unfold overI
 by_cases h1:k=19∨k=35
 ·rw[if_pos h1,if_pos h1,if_pos rfl]
 ·rw[if_neg h1]at h ⊢
  by_cases h2:k=21
  ·rw[if_pos h2,if_neg h1,if_pos h2,if_neg (by decide)]
  ·rw[if_neg h2]at h;omega
end Go.Proofs.YtflagpkmebdckaaGreatDoor.Low
namespace Go.Proofs.YtflagpkmebdckaaGreatDoor
open Go.RowKit Go.Maps
open Num
set_option linter.unusedVariables false
set_option maxRecDepth 100000
set_option maxHeartbeats 16000000
section
variable {w : World} {base mb stb sb bp bw bh N : Nat} {X : Nat → Int} {p : List Pq} {vi : Value} {m : Nat → Int} {wt ht : Int → Bool}
theorem resAdd (a b:Int) (a0:0≤a) (b0:0≤b) (w:World):Calls Tryz.prog 200 #[.string (kindS 3),.int .u32 a,.int .u32 b] w fun e w'=>e=.returned (.int .u32 (lo (a+b)))∧w'=w:=by
 show Calls _ _ #[.string ⟨#[97,100,100]⟩,_,_] _ _
 go_enter Tryz.func200,Tryz.ntmps200
 go_wp2
 go_ret
 exact ⟨rfl,rfl⟩
def kM (k:Nat):Prop:=k=1∨k=3∨k=26
theorem read_mini (G:GAt w base mb stb sb X p vi) (o:Opx) (ok:o.ok) (many:Int) (h0:opE o many=0) (hM:kM o.k) :
  Calls Tryz.prog 78 #[.pointer (some ⟨mb,0,none⟩),opV o] w (ReadPost w o (resZ wt X (vw m (pqs p)) o)):=by
 obtain ⟨k0,⟨a0,a1⟩,hb,hb3,hd,hd4⟩:=opE_flds h0
 have hi:u32 o.i:=⟨ok.i0,ok.i1⟩
 have okd:=(⟨ok.d0,ok.d1⟩:-9223372036854775808≤o.d∧o.d≤9223372036854775807)
 have hlt:=kn_lt o.s
 obtain ⟨s,d,a,b,i,t⟩:=o
 simp only at *
 have hs:=kn_word k0
 clear h0 ok
 generalize hkn:kn s=k at *
 subst hs
 have ek:(Opx.k ⟨kindS k,d,a,b,i,t⟩)=k:=hkn
 rw[ek]at hM
 clear hkn
 obtain ⟨a,rfl⟩:∃ n:Nat,a=n:=⟨a.toNat,by omega⟩
 by_cases h26:k=26
 ·subst h26
  have hR:resZ wt X (vw m (pqs p)) ⟨kindS 26,d,a,b,i,t⟩=⟨0,i,false,true⟩:=by unfold resZ;rw[ek,if_neg (by omega),if_neg (by omega),if_neg (by omega),if_neg (by omega),if_neg (by omega),if_pos rfl]
  rw[hR]
  refine (read_26 G a d b i t).mono ?_
  rintro e1 w' ⟨rfl,hb⟩
  exact ⟨⟨⟨0,0,0,0,0,true,i⟩,rfl,fun _=>(efO_lv (by rw[ek];omega) ⟨0,i,false,true⟩).symm⟩,hb⟩
 ·have hk:1≤k∧k≤20:=by rcases hM with h|h|h<;>omega
  obtain ⟨b0,b1⟩:=hb (by omega)
  obtain ⟨d0,d1⟩:=hd (.inl hk)
  obtain ⟨b,rfl⟩:∃ n:Nat,b=n:=⟨b.toNat,by omega⟩
  obtain ⟨d,rfl⟩:∃ n:Nat,d=n:=⟨d.toNat,by omega⟩
  refine read_val (wt:=wt) (m:=m) G k hk d a b i t _ rfl (fun W GW=>?_)
  have xa:=GW.xb a
  have xb:=GW.xb b
  rcases hM with rfl|rfl|h
  ·exact gresult_1 GW d a b (by omega) (by omega) (by omega) i t
  ·exact gresult_sum GW (kindS 3) (kt 3 1 (by omega) (by omega) (by omega) (by omega) (by omega)) (kt 3 2 (by omega) (by omega) (by omega) (by omega) (by omega)) (kt 3 17 (by omega) (by omega) (by omega) (by omega) (by omega)) (kt 3 18 (by omega) (by omega) (by omega) (by omega) (by omega)) (kt 3 19 (by omega) (by omega) (by omega) (by omega) (by omega)) (kt 3 20 (by omega) (by omega) (by omega) (by omega) (by omega)) d a b (by omega) (by omega) (by omega) i t _ (fun W'=>resAdd (X a) (X b) xa.1 xb.1 W')
  ·exact absurd h h26
theorem mini_ok (pe:Nat→Addr) (E:Eg pe w) (R:RamIs w sb bp bw bh N m wt ht) (hN:N≤900000) {S:St} (ok:S.ok) (hS:StRow w stb S) (n1:sb≠stb) (n2:bp≠stb) (n3:bw≠stb) (n4:bh≠stb) (z1:sb<w.heap.size) (z2:bp<w.heap.size) (z3:bw<w.heap.size) (z4:bh<w.heap.size) {v:Value} {l:List Opx} (A:OpsIn w v l) (pc many:Int) (p0:0≤pc) (p1:pc<4294967296) (m0:-9223372036854775808≤many) (m1:many≤9223372036854775807) (hf:codeF many l=(0,-1)) (hsl:S.sl=false) (hpc:S.pc=pc) (hnx:S.nx=lo (pc+4)) (c0:0≤S.ct) (c1:S.ct≤1152921504606846976) (hM:∀ o∈l,kM o.k) :
  Calls Tryz.prog 31 #[.agg #[.int .u32 pc,.int .i64 many,v],.pointer (some ⟨stb,0,none⟩),.pointer (some ⟨sb,0,none⟩)] w fun e w'=>HPost w stb sb bp bw bh wt ht S many (run1 wt l (begX S) m) e w':=by
 have WL:=codeF_well.1 hf
 have HOK:Hid (∀ o∈l,o.ok∧opE o many=0∧kM o.k):=fun o ho=>⟨A.ok o ho,wellL_mem WL.ops o ho,hM o ho⟩
 clear hM
 obtain ⟨ra,rc,hv,hcap,hh⟩:=A.sh
 subst hv
 have B0:Below w.heap.size w ((w.alloc (.cells #[.int .u32 pc,.int .i64 many,.slice ra l.length rc] 54)).alloc (.cells #[.bool false,.int .i64 0] 84)):=((Below.refl _ _).alloc (Nat.le_refl _) _).alloc (by simp) _
 have k0:((w.alloc (.cells #[.int .u32 pc,.int .i64 many,.slice ra l.length rc] 54)).alloc (.cells #[.bool false,.int .i64 0] 84)).cell? ⟨w.heap.size,0,none⟩=some (.int .u32 pc):=by simp
 have k1:((w.alloc (.cells #[.int .u32 pc,.int .i64 many,.slice ra l.length rc] 54)).alloc (.cells #[.bool false,.int .i64 0] 84)).cell? ⟨w.heap.size,1,none⟩=some (.int .i64 many):=by simp
 have k2:((w.alloc (.cells #[.int .u32 pc,.int .i64 many,.slice ra l.length rc] 54)).alloc (.cells #[.bool false,.int .i64 0] 84)).cell? ⟨w.heap.size,2,none⟩=some (.slice ra l.length rc):=by simp
 have e0:((w.alloc (.cells #[.int .u32 pc,.int .i64 many,.slice ra l.length rc] 54)).alloc (.cells #[.bool false,.int .i64 0] 84)).cell? ⟨w.heap.size+1,0,none⟩=some (.bool false):=by simp
 have e1:((w.alloc (.cells #[.int .u32 pc,.int .i64 many,.slice ra l.length rc] 54)).alloc (.cells #[.bool false,.int .i64 0] 84)).cell? ⟨w.heap.size+1,1,none⟩=some (.int .i64 0):=by simp
 have ef:∀ j,((w.alloc (.cells #[.int .u32 pc,.int .i64 many,.slice ra l.length rc] 54)).alloc (.cells #[.bool false,.int .i64 0] 84)).frozen? ⟨w.heap.size+1,j,none⟩=false:=fun j=>by
  rw[show w.heap.size+1=(w.alloc (.cells #[.int .u32 pc,.int .i64 many,.slice ra l.length rc] 54)).heap.size by simp];exact World.frozen?_alloc_at _ _ _ _ rfl
 have hsz0:((w.alloc (.cells #[.int .u32 pc,.int .i64 many,.slice ra l.length rc] 54)).alloc (.cells #[.bool false,.int .i64 0] 84)).heap.size=w.heap.size+2:=by simp
 have hlen:=WL.len
 have hck:=ccheck_ok pe (E.stays B0) (A.stays B0) (by omega) pc many m0 m1 hf
 have HE:Hid (∀ W,Below w.heap.size w W→Eg pe W):=fun W hW=>E.stays hW
 have HR:Hid (∀ W,Below w.heap.size w W→RamIs W sb bp bw bh N m wt ht):=fun W hW=>R.stays hW (Nat.le_refl _)
 have HS:Hid (∀ W,Below w.heap.size w W→StRow W stb S):=fun W hW=>hS.stays hW
 have HH:Hid (0<l.length→∃ b off:Nat,ra=some ⟨b,off,none⟩∧∀ (i:Nat) (o:Opx),l[i]?=some o→∀ (j:Nat) (u:Value),(opC o)[j]?=some u→w.cell? ⟨b,off+i*6+j,none⟩=some u):=hh
 have HXB:Hid (∀ j,u32 (begX S j)):=begX_u ok
 have hstl:=hS.lt
 have hmbd:=R.mb
 have HMB:Hid (∀ i,0≤m i∧m i<4294967296):=hmbd
 have hB00:Hid (Below w.heap.size w ((w.alloc (.cells #[.int .u32 pc,.int .i64 many,.slice ra l.length rc] 54)).alloc (.cells #[.bool false,.int .i64 0] 84))):=B0
 have HBG:Hid (S.sl=false∧S.pc=pc∧S.nx=lo (pc+4)):=⟨hsl,hpc,hnx⟩
 have m0':=WL.m0
 have m1':=WL.m1
 obtain ⟨Z,hZ⟩:∃ Z,run1 wt l (begX S) m=Z:=⟨_,rfl⟩
 have HZ:Hid (run1 wt l (begX S) m=Z):=hZ
 rw[hZ]
 clear hZ hf WL E R hS A hsl hpc hnx hh ok B0 hmbd hcap
 go_enter Tryz.func31,Tryz.ntmps31
 go_upto_region 3 with fail
 generalize ((w.alloc (.cells #[.int .u32 pc,.int .i64 many,.slice ra l.length rc] 54)).alloc (.cells #[.bool false,.int .i64 0] 84))=V at *
 go_wp2_with fail
 refine hck.mono ?_
 rintro e w1 ⟨rfl,hb1⟩
 have hBw1:Hid (Below w.heap.size w w1):=hB00.out.trans (hb1.mono (by omega))
 have q0:=(hb1.cell (p:=⟨w.heap.size,0,none⟩) (show w.heap.size<V.heap.size by omega)).trans k0
 have q1:=(hb1.cell (p:=⟨w.heap.size,1,none⟩) (show w.heap.size<V.heap.size by omega)).trans k1
 have q2:=(hb1.cell (p:=⟨w.heap.size,2,none⟩) (show w.heap.size<V.heap.size by omega)).trans k2
 have qe0:=(hb1.cell (p:=⟨w.heap.size+1,0,none⟩) (show w.heap.size+1<V.heap.size by omega)).trans e0
 have qe1:=(hb1.cell (p:=⟨w.heap.size+1,1,none⟩) (show w.heap.size+1<V.heap.size by omega)).trans e1
 have qef:∀ j,w1.frozen? ⟨w.heap.size+1,j,none⟩=false:=fun j=>(hb1.frozen (p:=⟨w.heap.size+1,j,none⟩) (show w.heap.size+1<V.heap.size by omega)).trans (ef j)
 have hsz1:w.heap.size+2≤w1.heap.size:=by have:=hb1.size;omega
 clear hck hb1 k0 k1 k2 e0 e1 ef hsz0 hB00
 have hbg:=begin_ok (sb:=sb) (HS.out w1 hBw1.out) pc p0 p1 HBG.out.1 HBG.out.2.1 HBG.out.2.2
 have hw0:w.heap.size<w1.heap.size:=by omega
 go_wp2_with fail
 refine hbg.mono ?_
 rintro e w2 ⟨mb,rfl,hmb,hGR,hb2⟩
 generalize hbase:w1.heap.size=base at *
 have hBB:Hid (Below base w1 w2):=hb2
 have HG2:Hid (GAt w2 base mb stb sb (begX S) [] (.slice none 0 0)):=hGR.gat hmb HXB.out (by have:=hb2.size;omega)
 have HCX:Hid (∀ W,Below base w1 W→Below w.heap.size w W):=fun W hW=>hBw1.out.trans (hW.mono (by omega))
 have HC:Hid (∀ W,Below base w1 W→W.cell? ⟨w.heap.size,1,none⟩=some (.int .i64 many)∧W.cell? ⟨w.heap.size,2,none⟩=some (.slice ra l.length rc)∧W.cell? ⟨w.heap.size+1,0,none⟩=some (.bool false)∧W.cell? ⟨w.heap.size+1,1,none⟩=some (.int .i64 0)∧(∀ j,W.frozen? ⟨w.heap.size+1,j,none⟩=false)∧base≤W.heap.size):=fun W hW=>⟨(hW.cell (p:=⟨w.heap.size,1,none⟩) hw0).trans q1,(hW.cell (p:=⟨w.heap.size,2,none⟩) hw0).trans q2,(hW.cell (p:=⟨w.heap.size+1,0,none⟩) (show w.heap.size+1<base by omega)).trans qe0,(hW.cell (p:=⟨w.heap.size+1,1,none⟩) (show w.heap.size+1<base by omega)).trans qe1,fun j=>(hW.frozen (p:=⟨w.heap.size+1,j,none⟩) (show w.heap.size+1<base by omega)).trans (qef j),by have:=hW.size;omega⟩
 clear hbg hGR hb2 q0 q1 q2 qe0 qe1 qef
 obtain ⟨d1,d2,d3,d4,d5,d6⟩:=HC.out w2 hBB.out
 have d7:=World.block_lt_of_cell? _ _ d2
 go_wp2
 clear d1 d2 d3 d4 d5 d6 d7
 go_loopw [46] (fun i wr=>∃ (j:Nat) (x m':Nat→Int) (pj:List Pq) (vj:Value),j≤l.length∧i=.int .i64 j∧Hid (vw m (pqs pj)=m'∧pj.length≤j∧(∀ q∈pqs pj,wt (q.a/256)=false))∧Hid (run1 wt (l.drop j) x m'=Z)∧GAt wr base mb stb sb x pj vj∧Below base w1 wr) (fun i _=>l.length-(intOf i).toNat)
 case atStart=>exact ⟨0,begX S,m,[],.slice none 0 0,Nat.zero_le _,rfl,⟨rfl,by simp,by intro q hq;cases hq⟩,HZ.out,HG2.out,hBB.out⟩
 case round =>
  obtain ⟨j,x,m',pj,vj,hj,rfl,HP,HZJ,hG,hB⟩:=hrel
  have HGJ:Hid (GAt wr base mb stb sb x pj vj):=hG
  have HBJ:Hid (Below base w1 wr):=hB
  obtain ⟨d1,d2,d3,d4,d5,d6⟩:=HC.out wr hB
  have d7:=World.block_lt_of_cell? _ _ d2
  have d8:=World.block_lt_of_cell? _ _ d3
  clear hG hB HG2 hBB
  by_cases hlt:j<l.length
  ·obtain ⟨o,ho⟩:∃ q,l[j]?=some q:=⟨_,List.getElem?_eq_getElem hlt⟩
   have hom:=List.mem_of_getElem? ho
   obtain ⟨hok,hop,hkm⟩:=HOK.out o hom
   obtain ⟨b,off,rfl,hcell⟩:=HH.out (by omega)
   obtain ⟨x0,x1,x2,x3,x4,x5⟩:=op_cells (w:=wr) (fun k u hk=>by rw[(HCX.out wr HBJ.out).cell (World.block_lt_of_cell? _ _ (hcell j o ho k u hk))];exact hcell j o ho k u hk)
   have zb:=World.block_lt_of_cell? _ _ x0
   have hlt':(j:Int)<l.length:=by omega
   have HDR:Hid (l.drop j=o :: l.drop (j+1)):=by
    show _=_
    rw[List.drop_eq_getElem_cons hlt]
    have:=(List.getElem?_eq_some_iff.1 ho).2
    rw[this]
   have hpl:pj.length≤1000:=by have:=HP.out.2.1;omega
   have hB1:Hid (Below wr.heap.size wr (wr.alloc (.cells #[.string o.s,.int .i64 o.d,.int .i64 o.a,.int .i64 o.b,.int .u32 o.i,.int .i64 o.t] 139))):=(Below.refl _ _).alloc (Nat.le_refl _) _
   have hBA:Below base w1 (wr.alloc (.cells #[.string o.s,.int .i64 o.d,.int .i64 o.a,.int .i64 o.b,.int .u32 o.i,.int .i64 o.t] 139)):=HBJ.out.trans (hB1.out.mono d6)
   have hrd:=read_mini (wt:=wt) (m:=m) (HGJ.out.opened (.cells #[.string o.s,.int .i64 o.d,.int .i64 o.a,.int .i64 o.b,.int .u32 o.i,.int .i64 o.t] 139)) o hok many hop hkm
   rw[HP.out.1]at hrd
   have c5:(wr.alloc (.cells #[.string o.s,.int .i64 o.d,.int .i64 o.a,.int .i64 o.b,.int .u32 o.i,.int .i64 o.t] 139)).cell? ⟨wr.heap.size,5,none⟩=some (.int .i64 o.t):=by simp
   have c0':(wr.alloc (.cells #[.string o.s,.int .i64 o.d,.int .i64 o.a,.int .i64 o.b,.int .u32 o.i,.int .i64 o.t] 139)).cell? ⟨wr.heap.size,0,none⟩=some (.string o.s):=by simp
   have c1':(wr.alloc (.cells #[.string o.s,.int .i64 o.d,.int .i64 o.a,.int .i64 o.b,.int .u32 o.i,.int .i64 o.t] 139)).cell? ⟨wr.heap.size,1,none⟩=some (.int .i64 o.d):=by simp
   have c2:(wr.alloc (.cells #[.string o.s,.int .i64 o.d,.int .i64 o.a,.int .i64 o.b,.int .u32 o.i,.int .i64 o.t] 139)).cell? ⟨wr.heap.size,2,none⟩=some (.int .i64 o.a):=by simp
   have c3:(wr.alloc (.cells #[.string o.s,.int .i64 o.d,.int .i64 o.a,.int .i64 o.b,.int .u32 o.i,.int .i64 o.t] 139)).cell? ⟨wr.heap.size,3,none⟩=some (.int .i64 o.b):=by simp
   have c4:(wr.alloc (.cells #[.string o.s,.int .i64 o.d,.int .i64 o.a,.int .i64 o.b,.int .u32 o.i,.int .i64 o.t] 139)).cell? ⟨wr.heap.size,4,none⟩=some (.int .u32 o.i):=by simp
   have HRC:Hid (run1 wt (o :: l.drop (j+1)) x m'=if (resZ wt x m' o).trap=true then .trap o.t else if (appZ ⟨x,m',-1⟩ o (resZ wt x m' o)).lv<0 then run1 wt (l.drop (j+1)) (appZ ⟨x,m',-1⟩ o (resZ wt x m' o)).x (appZ ⟨x,m',-1⟩ o (resZ wt x m' o)).m else .leave (appZ ⟨x,m',-1⟩ o (resZ wt x m' o))):=run1_cons wt o _ x m'
   have hmb':∀ i,0≤m' i∧m' i<4294967296:=by rw[←HP.out.1];exact vw_bd HMB.out (pqs pj) (pq_ok pj)
   have HEO:Hid ((resZ wt x m' o).trap=false→EfOk wt o (resZ wt x m' o) (efO o (resZ wt x m' o))):=fun ht=>efOk hop hok (fun i _=>HGJ.out.xb i) hmb' ht
   have HAB:Hid (u32 (resZ wt x m' o).a):=(resZ_bd (wt:=wt) hok hop (fun i _=>HGJ.out.xb i) hmb').2
   unfold opV at hrd
   generalize resZ wt x m' o=ro at *
   clear hcell ho hom hok hop hkm hmb' hBA HOK HH
   go_upto_region 12 with fail
   generalize hWW:wr.alloc (.cells #[.string o.s,.int .i64 o.d,.int .i64 o.a,.int .i64 o.b,.int .u32 o.i,.int .i64 o.t] 139)=W1 at *
   have hsz1':W1.heap.size=wr.heap.size+1:=by rw[←hWW,World.size_alloc]
   clear hWW x0 x1 x2 x3 x4 x5 d1 d2 d7 zb
   go_wp2_with fail
   refine hrd.mono ?_
   rintro e w3 ⟨⟨E,rfl,hE⟩,hb3⟩
   have hBw3:Hid (Below wr.heap.size wr w3):=hB1.out.trans (hb3.mono (by omega))
   have k5:w3.cell? ⟨wr.heap.size,5,none⟩=some (.int .i64 o.t):=(hb3.cell (p:=⟨wr.heap.size,5,none⟩) (show wr.heap.size<W1.heap.size by omega)).trans c5
   have hsz3:wr.heap.size<w3.heap.size:=by have:=hb3.size;omega
   unfold efA
   have hB3:Hid (Below wr.heap.size wr (w3.alloc (.cells #[.int .i64 E.r,.int .u32 E.v,.int .u32 E.a,.int .i64 E.s,.int .u32 E.sv,.bool E.lv,.int .u32 E.to] 160))):=hBw3.out.alloc (by omega) _
   have hBB3:Hid (Below base w1 (w3.alloc (.cells #[.int .i64 E.r,.int .u32 E.v,.int .u32 E.a,.int .i64 E.s,.int .u32 E.sv,.bool E.lv,.int .u32 E.to] 160))):=HBJ.out.trans (hB3.out.mono d6)
   have j5:(w3.alloc (.cells #[.int .i64 E.r,.int .u32 E.v,.int .u32 E.a,.int .i64 E.s,.int .u32 E.sv,.bool E.lv,.int .u32 E.to] 160)).cell? ⟨wr.heap.size,5,none⟩=some (.int .i64 o.t):=(World.grownBy_alloc w3 _ none).cell k5 (by simp)
   have f0:(w3.alloc (.cells #[.int .i64 E.r,.int .u32 E.v,.int .u32 E.a,.int .i64 E.s,.int .u32 E.sv,.bool E.lv,.int .u32 E.to] 160)).cell? ⟨w3.heap.size,0,none⟩=some (.int .i64 E.r):=by simp
   have f1:(w3.alloc (.cells #[.int .i64 E.r,.int .u32 E.v,.int .u32 E.a,.int .i64 E.s,.int .u32 E.sv,.bool E.lv,.int .u32 E.to] 160)).cell? ⟨w3.heap.size,1,none⟩=some (.int .u32 E.v):=by simp
   have f2:(w3.alloc (.cells #[.int .i64 E.r,.int .u32 E.v,.int .u32 E.a,.int .i64 E.s,.int .u32 E.sv,.bool E.lv,.int .u32 E.to] 160)).cell? ⟨w3.heap.size,2,none⟩=some (.int .u32 E.a):=by simp
   have f3:(w3.alloc (.cells #[.int .i64 E.r,.int .u32 E.v,.int .u32 E.a,.int .i64 E.s,.int .u32 E.sv,.bool E.lv,.int .u32 E.to] 160)).cell? ⟨w3.heap.size,3,none⟩=some (.int .i64 E.s):=by simp
   have f4:(w3.alloc (.cells #[.int .i64 E.r,.int .u32 E.v,.int .u32 E.a,.int .i64 E.s,.int .u32 E.sv,.bool E.lv,.int .u32 E.to] 160)).cell? ⟨w3.heap.size,4,none⟩=some (.int .u32 E.sv):=by simp
   have f5:(w3.alloc (.cells #[.int .i64 E.r,.int .u32 E.v,.int .u32 E.a,.int .i64 E.s,.int .u32 E.sv,.bool E.lv,.int .u32 E.to] 160)).cell? ⟨w3.heap.size,5,none⟩=some (.bool E.lv):=by simp
   have f6:(w3.alloc (.cells #[.int .i64 E.r,.int .u32 E.v,.int .u32 E.a,.int .i64 E.s,.int .u32 E.sv,.bool E.lv,.int .u32 E.to] 160)).cell? ⟨w3.heap.size,6,none⟩=some (.int .u32 E.to):=by simp
   have HG3:Hid (GAt (w3.alloc (.cells #[.int .i64 E.r,.int .u32 E.v,.int .u32 E.a,.int .i64 E.s,.int .u32 E.sv,.bool E.lv,.int .u32 E.to] 160)) base mb stb sb x pj vj):=HGJ.out.stays hB3.out
   clear hrd hb3 c0' c1' c2 c3 c4 c5 hB1 hsz1' d3 d4 d5 d8 k5
   cases htr:ro.trap with
   | true =>
    have HZT:Hid (Z=.trap o.t):=by show _=_;rw[←HZJ.out,HDR.out,HRC.out,if_pos htr]
    clear f0 f1 f2 f3 f4 f5 f6 hE HRC HEO HAB
    go_upto_region 14 with fail
    generalize w3.alloc (.cells #[.int .i64 E.r,.int .u32 E.v,.int .u32 E.a,.int .i64 E.s,.int .u32 E.sv,.bool E.lv,.int .u32 E.to] 160)=A at *
    obtain ⟨d1,d2,d3,d4,d5,d6⟩:=HC.out A hBB3.out
    have d7:=World.block_lt_of_cell? _ _ d3
    have zg:=World.block_lt_of_cell? _ _ j5
    go_wp2
    obtain ⟨j0,j1⟩:=end_putG d3 d4 (.bool true) (.int .i64 o.t)
    refine bodyPost_ret (rcG (A:=⟨w.heap.size+1,0,none⟩) rfl _ _ _ rfl (end_loadG j0 j1)) rfl ?_
    rw[HZT.out]
    exact ⟨rfl,((HCX.out A hBB3.out).setCell (p:=⟨w.heap.size+1,0,none⟩) (by show w.heap.size≤w.heap.size+1;omega) _).setCell (p:=⟨w.heap.size+1,1,none⟩) (by show w.heap.size≤w.heap.size+1;omega) _⟩
   | false =>
    have hEE:=hE htr
    have hEo:=HEO.out htr
    rw[←hEE]at hEo
    have HEH:Hid (EfOk wt o ro E):=hEo
    have HWR:Hid (Z=if (appZ ⟨x,m',-1⟩ o ro).lv<0 then run1 wt (l.drop (j+1)) (appZ ⟨x,m',-1⟩ o ro).x (appZ ⟨x,m',-1⟩ o ro).m else .leave (appZ ⟨x,m',-1⟩ o ro)):=by show _=_;rw[←HZJ.out,HDR.out,HRC.out,if_neg (by rw[htr];decide)]
    have hdo:=do_any HG3.out (by have:=HP.out.2.1;omega) E hEo.r0 hEo.r1 hEo.v hEo.s
    unfold efA at hdo
    clear hE hEE hEo HRC HEO j5
    go_upto_region 15 with fail
    have zf:=World.block_lt_of_cell? _ _ f0
    have hsA:base≤(w3.alloc (.cells #[.int .i64 E.r,.int .u32 E.v,.int .u32 E.a,.int .i64 E.s,.int .u32 E.sv,.bool E.lv,.int .u32 E.to] 160)).heap.size:=(HC.out _ hBB3.out).2.2.2.2.2
    generalize w3.alloc (.cells #[.int .i64 E.r,.int .u32 E.v,.int .u32 E.a,.int .i64 E.s,.int .u32 E.sv,.bool E.lv,.int .u32 E.to] 160)=A at *
    go_wp2_with fail
    refine hdo.mono ?_
    rintro e w4 ⟨rfl,p4,v4,hpq,hpl4,hG4,hM4,hK4⟩
    have hBB4:Hid (Below base w1 w4):=Kx.belowB hBB3.out hK4 HG3.out.lb (fun i hi=>(HG3.out.blk i hi).2) (by omega)
    have HG4:Hid (GAt w4 base mb stb sb (appZ ⟨x,m',-1⟩ o ro).x p4 v4):=by
     have:=HEH.out.x x m' (-1)
     rw[←this];exact hG4
    have HP4:Hid (vw m (pqs p4)=(appZ ⟨x,m',-1⟩ o ro).m∧p4.length≤j+1∧(∀ q∈pqs p4,wt (q.a/256)=false)):=by
     obtain ⟨a1,a2,a3⟩:=HP.out
     refine ⟨?_,by omega,fun q hq=>?_⟩
     ·rw[hpq,HEH.out.m m (pqs pj) x (-1),a1]
     ·rw[hpq]at hq
      unfold doP at hq
      split at hq
      ·exact a3 q hq
      ·rename_i hs
       rcases List.mem_append.1 hq with h|h
       ·exact a3 q h
       ·rw[List.mem_singleton.1 h];exact HEH.out.w hs
    have HLV:Hid ((appZ ⟨x,m',-1⟩ o ro).lv=if ro.leave=true then ro.a else -1):=rfl
    clear hdo hK4 hG4 hM4 f0 f1 f2 f3 f4 f5 f6 hpq hpl4 zf hsA
    generalize appZ ⟨x,m',-1⟩ o ro=Zr at *
    obtain ⟨d1,d2,d3,d4,d5,d6⟩:=HC.out w4 hBB4.out
    have d7:=World.block_lt_of_cell? _ _ d2
    have d8:=World.block_lt_of_cell? _ _ d3
    cases hlv:ro.leave with
    | false =>
     have e1:E.lv=false:=HEH.out.lv.trans hlv
     have HL2:Hid (Zr.lv=-1):=by show _=_;rw[HLV.out,hlv];rfl
     have HZN:Hid (run1 wt (l.drop (j+1)) Zr.x Zr.m=Z):=by show _=_;rw[HWR.out,if_pos (by rw[HL2.out];decide)]
     rw[e1]
     clear e1 HLV HWR HAB HEH
     go_wp2
     go_roundw
     case rel=>exact ⟨j+1,Zr.x,Zr.m,p4,v4,by omega,by go_num,HP4.out,HZN.out,HG4.out,hBB4.out⟩
     case measure=>simp[intOf];omega
    | true =>
     have e1:E.lv=true:=HEH.out.lv.trans hlv
     have e2:E.to=ro.a:=HEH.out.to hlv
     have HL2:Hid (Zr.lv=ro.a):=by show _=_;rw[HLV.out,hlv];rfl
     have hlu:u32 ro.a:=HAB.out
     have HZN:Hid (Z=.leave Zr):=by show _=_;rw[HWR.out,if_neg (by rw[HL2.out];have:=hlu.1;omega)]
     rw[e1,e2]
     clear e1 e2 HLV HWR HAB HEH
     have hle:=leave_any (N:=N) (HR.out w4 (HCX.out w4 hBB4.out)) HG4.out (HS.out w4 (HCX.out w4 hBB4.out)) (by have:=HP4.out.2.1;omega) (by omega) (by omega) (by omega) (by omega) n1 n2 n3 n4 HP4.out.2.2 ro.a many hlu.1 hlu.2 c0 c1 m0' m1'
     rw[HP4.out.1]at hle
     go_wp2_with fail
     refine hle.mono ?_
     rintro e w5 ⟨rfl,hS5,hR5,hs5,hf5,ho5⟩
     have hne:w.heap.size+1≠stb∧w.heap.size+1≠bp∧w.heap.size+1≠bh:=by omega
     have hbk:=hf5 (w.heap.size+1) d8 hne.1 hne.2.1 hne.2.2
     have r0:=(World.cell?_of_block (a:=⟨w.heap.size+1,0,none⟩) hbk).trans d3
     have r1:=(World.cell?_of_block (a:=⟨w.heap.size+1,1,none⟩) hbk).trans d4
     have rf:∀ k,w5.frozen? ⟨w.heap.size+1,k,none⟩=false:=fun k=>(World.frozen?_of_block (a:=⟨w.heap.size+1,k,none⟩) hbk).trans (d5 k)
     have r8:=World.block_lt_of_cell? _ _ r0
     have HS5:Hid (StRow w5 stb (leftS S Zr.x Zr.lv many)):=by rw[HL2.out];exact hS5
     have HR5:Hid (RamIs w5 sb bp bw bh (N+2*p4.length) Zr.m wt ht):=hR5
     have HF5:Hid (∀ k,k<w.heap.size→k≠stb→k≠bp→k≠bh→w5.heap[k]?=w.heap[k]?):=fun k hk k1 k2 k3=>(hf5 k (by omega) k1 k2 k3).trans ((HCX.out w4 hBB4.out).block k hk)
     have HO5:Hid (w5.os=w.os∧w5.tape=w.tape∧w5.output=w.output):=⟨ho5.1.trans (HCX.out w4 hBB4.out).os,ho5.2.1.trans (HCX.out w4 hBB4.out).tape,ho5.2.2.trans (HCX.out w4 hBB4.out).output⟩
     clear hle hS5 hR5 hf5 ho5 hbk d1 d2 d3 d4 d5 d7 d8
     go_wp2
     obtain ⟨j0,j1⟩:=end_putG r0 r1 (.bool false) (.int .i64 0)
     have hoth:∀ k,k≠w.heap.size+1→((w5.setCell ⟨w.heap.size+1,0,none⟩ (.bool false)).setCell ⟨w.heap.size+1,1,none⟩ (.int .i64 0)).heap[k]?=w5.heap[k]?:=fun k hk=>(Below.heap_setCell _ ⟨w.heap.size+1,1,none⟩ _ k hk).trans (Below.heap_setCell _ ⟨w.heap.size+1,0,none⟩ _ k hk)
     refine bodyPost_ret (rcG (A:=⟨w.heap.size+1,0,none⟩) rfl _ _ _ rfl (end_loadG j0 j1)) rfl ?_
     rw[HZN.out]
     exact ⟨rfl,HS5.out.block (hoth stb (by omega)),⟨_,by have:=HP4.out.2.1;omega,HR5.out.turn1 (w.heap.size+1) (by omega) (by omega) (by omega) (by omega) hoth⟩,by simp;omega,fun k hk k1 k2 k3=>(hoth k (by omega)).trans (HF5.out k hk k1 k2 k3),HO5.out⟩
  ·obtain rfl:j=l.length:=by omega
   have HZN:Hid (Z=.fell):=by show _=_;rw[←HZJ.out,List.drop_length];rfl
   go_wp2
   obtain ⟨j0,j1⟩:=end_putG d3 d4 (.bool true) (.int .i64 0)
   refine bodyPost_ret (rcG (A:=⟨w.heap.size+1,0,none⟩) rfl _ _ _ rfl (end_loadG j0 j1)) rfl ?_
   rw[HZN.out]
   exact ⟨rfl,((HCX.out wr HBJ.out).setCell (p:=⟨w.heap.size+1,0,none⟩) (by show w.heap.size≤w.heap.size+1;omega) _).setCell (p:=⟨w.heap.size+1,1,none⟩) (by show w.heap.size≤w.heap.size+1;omega) _⟩
end
section
variable {w : World} {sb bp bw bh N : Nat} {m : Nat → Int} {wt ht : Int → Bool}
end
section
variable {w : World} {stb sb bp bw bh N : Nat} {m : Nat → Int} {wt ht : Int → Bool}
end
end Go.Proofs.YtflagpkmebdckaaGreatDoor
