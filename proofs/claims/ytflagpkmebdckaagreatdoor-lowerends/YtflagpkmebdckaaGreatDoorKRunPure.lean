
import Derived.WalkSmall
import Derived.Deep.MidRow
import Derived.Below
import Derived.Handy
import Derived.Test.YtflagpkmebdckaaGreatDoorKNum
import Derived.Test.YtflagpkmebdckaaGreatDoorKApp
import Derived.Test.YtflagpkmebdckaaGreatDoorQIrChk3
import Derived.Test.YtflagpkmebdckaaGreatDoorKOptFns
import Derived.Test.YtflagpkmebdckaaGreatDoorKKDecode
import Derived.Test.YtflagpkmebdckaaGreatDoorQDoc5a
import Derived.Test.YtflagpkmebdckaaGreatDoorQDoc5b
import Derived.Test.YtflagpkmebdckaaGreatDoorQDoc5c
import Derived.Test.YtflagpkmebdckaaGreatDoorQDoc5d
namespace Go.Proofs.YtflagpkmebdckaaGreatDoor
open Num
set_option linter.unusedVariables false
structure Ro where
 v:Int
 a:Int
 trap:Bool
 leave:Bool
def resZ (wt:Int→Bool) (x m:Nat→Int) (o:Opx):Ro :=
 if o.k=21 then ⟨0,0,ov (sg (x o.a.toNat)+sg (x o.b.toNat)),false⟩
 else if o.k=22 then ⟨0,0,ov (sg (x o.a.toNat)-sg (x o.b.toNat)),false⟩
 else if o.k=23 then (if chk (lo (x o.a.toNat+o.i)) (if o.b<0 then -o.b else o.b)=0 then ⟨ld m (lo (x o.a.toNat+o.i)) (if o.b<0 then -o.b else o.b) (decide (o.b<0)),0,false,false⟩ else ⟨0,0,true,false⟩)
 else if o.k=24 then (if chk (lo (x o.a.toNat+o.i)) o.d=0 then ⟨x o.b.toNat,lo (x o.a.toNat+o.i),wt (lo (x o.a.toNat+o.i)/256),false⟩ else ⟨0,0,true,false⟩)
 else if o.k=25 then ⟨0,o.i,false,decide (x o.a.toNat≠0)⟩
 else if o.k=26 then ⟨0,o.i,false,true⟩
 else if o.k=27 then ⟨0,x o.a.toNat,false,true⟩
 else ⟨valV o.k (x o.a.toNat) (x o.b.toNat) (x o.d.toNat) o.i,0,false,false⟩
structure Mz where
 x:Nat→Int
 m:Nat→Int
 lv:Int
def appZ (M:Mz) (o:Opx) (r:Ro):Mz:=⟨if 0<wrX o then setX M.x (wrX o) r.v else M.x,if o.k=24 then upd M.m r.a o.d r.v else M.m,if r.leave=true then r.a else M.lv⟩
def rowZ (wt:Int→Bool) (x m:Nat→Int) (row:List Opx):Mz:=row.foldl (fun M o=>appZ M o (resZ wt x m o)) ⟨x,m,-1⟩
def trapZ (wt:Int→Bool) (x m:Nat→Int) (row:List Opx):Option Int:=(row.find? fun o=>(resZ wt x m o).trap).map (·.t)
inductive Oz where
 | trap (t:Int)
 | leave (M:Mz)
 | fell
def runZ (wt:Int→Bool):List (List Opx)→(Nat→Int)→(Nat→Int)→Oz
 | [],_,_=>.fell
 | row :: rows,x,m=>match trapZ wt x m row with
  | some t=>.trap t
  | none=>if (rowZ wt x m row).lv<0 then runZ wt rows (rowZ wt x m row).x (rowZ wt x m row).m else .leave (rowZ wt x m row)
def eachL (l:List Opx):List (List Opx):=l.map fun o=>[o]
def run1 (wt:Int→Bool) (l:List Opx) (x m:Nat→Int):Oz:=runZ wt (eachL l) x m
theorem run1_cons (wt:Int→Bool) (o:Opx) (l:List Opx) (x m:Nat→Int):run1 wt (o :: l) x m=if (resZ wt x m o).trap=true then .trap o.t else if (appZ ⟨x,m,-1⟩ o (resZ wt x m o)).lv<0 then run1 wt l (appZ ⟨x,m,-1⟩ o (resZ wt x m o)).x (appZ ⟨x,m,-1⟩ o (resZ wt x m o)).m else .leave (appZ ⟨x,m,-1⟩ o (resZ wt x m o)):=by
 show runZ wt ([o] :: eachL l) x m=_
 unfold runZ
 have e:trapZ wt x m [o]=if (resZ wt x m o).trap=true then some o.t else none:=by
  unfold trapZ
  rw[List.find?_cons]
  cases h:(resZ wt x m o).trap<;>simp
 rw[e]
 by_cases h:(resZ wt x m o).trap=true
 ·rw[if_pos h,if_pos h]
 ·rw[if_neg h,if_neg h];rfl
def OzAlike:Oz→Oz→Prop
 | .trap t,.trap u=>t=u
 | .leave M,.leave N=>M.lv=N.lv∧M.m=N.m∧∀ r:Nat,1≤r→r≤33→M.x r=N.x r
 | .fell,.fell=>True
 | _,_=>False
theorem resZ_val {wt:Int→Bool} {x m:Nat→Int} {o:Opx} (h:o.k≤20):resZ wt x m o=⟨valV o.k (x o.a.toNat) (x o.b.toNat) (x o.d.toNat) o.i,0,false,false⟩:=by
 unfold resZ
 rw[if_neg (by omega),if_neg (by omega),if_neg (by omega),if_neg (by omega),if_neg (by omega),if_neg (by omega),if_neg (by omega)]
theorem appZ_val {M:Mz} {o:Opx} (h1:1≤o.k) (h:o.k≤20) (hd:1≤o.d) (v a:Int):appZ M o ⟨v,a,false,false⟩=⟨setX M.x o.d v,M.m,M.lv⟩:=by
 unfold appZ
 have e:wrX o=o.d:=by unfold wrX rD;rw[if_pos (by rw[if_pos (.inl ⟨h1,h⟩)])]
 rw[e,if_pos (by omega),if_neg (by omega)];rfl
theorem well_d {o:Opx} {many:Int} (h:opE o many=0) (hr:rD o.k=2):1≤o.d∧o.d<64:=by
 obtain ⟨_,hb,_⟩:=opE_zero.1 h
 unfold bndB at hb
 simp only[Bool.and_eq_true]at hb
 rw[hr]at hb
 have:=hb.1.1.1.1
 unfold alw at this;simp at this;omega
theorem well_wr {o:Opx} {many:Int} (h:opE o many=0):0≤wrX o∧wrX o<64:=by
 unfold wrX
 split
 ·rename_i hr;have:=well_d h hr;omega
 ·omega
def FactsOf (f:Fx) (x:Nat→Int):Prop:=∀ r v,f r=some v→0≤r∧x r.toNat=v
theorem FactsOf.zero {x:Nat→Int} (h:x 0=0):FactsOf fx0 x:=by
 intro r v e
 unfold fx0 at e
 split at e
 ·rename_i h0;subst h0;cases e;exact ⟨by omega,h⟩
 ·cases e
end Go.Proofs.YtflagpkmebdckaaGreatDoor
namespace Go.Proofs.YtflagpkmebdckaaGreatDoor
open Go.RowKit Go.Maps
open Num
set_option linter.unusedVariables false
set_option maxRecDepth 100000
set_option maxHeartbeats 2000000
theorem DMem.stays {w w':World} {rb gb kb hb:Nat} {m:Nat→Int} {wt ht:Int→Bool} (D:DMem w rb gb kb hb m wt ht) (h:Below w.heap.size w w'):DMem w' rb gb kb hb m wt ht :=
  ⟨D.d.stays h,(h.cell (World.block_lt_of_cell? _ _ D.c2)).trans D.c2,fun p hp=>(h.cell (World.block_lt_of_cell? _ _ (D.hc p hp))).trans (D.hc p hp),
   fun p=>(h.frozen (p:=⟨kb,p,none⟩) (show kb<w.heap.size from D.d.lt (Or.inr (Or.inr rfl)))).trans (D.fk p),fun p=>(h.frozen (p:=⟨hb,p,none⟩) (show hb<w.heap.size from World.block_lt_of_cell? _ _ (D.hc 0 (by omega)))).trans (D.fh p),D.ng,D.nr,D.nk,D.kr,fun p=>(h.frozen (p:=⟨rb,p,none⟩) (show rb<w.heap.size from D.d.lt (Or.inl rfl))).trans (D.fr p)⟩
theorem flag_other {w:World} {a k j p:Nat} {b:Bool} {v:Value} (hk:k≠a∨p≠j) (h:w.cell? ⟨k,p,none⟩=some v):(w.setCell ⟨a,j,none⟩ (.bool b)).drew.cell? ⟨k,p,none⟩=some v:=by
  show (w.setCell ⟨a,j,none⟩ (.bool b)).cell? ⟨k,p,none⟩=some v
  rw[World.cell?_setCell_other _ _ _ _ (by intro e;injection e with e1 e2;rcases hk with hk|hk;exact hk e1.symm;exact hk e2.symm)];exact h
theorem flag_fz {w:World} {a k j p:Nat} {b:Bool} (h:w.frozen? ⟨k,p,none⟩=false):(w.setCell ⟨a,j,none⟩ (.bool b)).drew.frozen? ⟨k,p,none⟩=false:=by
  show (w.setCell ⟨a,j,none⟩ (.bool b)).frozen? ⟨k,p,none⟩=false
  simpa using h
theorem DMem.flagK {w:World} {rb gb kb hb:Nat} {m:Nat→Int} {wt ht:Int→Bool} (D:DMem w rb gb kb hb m wt ht) (j:Nat) (hj:j<64) (b:Bool) (wt':Int→Bool) (h:∀ p:Nat,p<64→wt' p=if p=j then b else wt p):DMem (w.setCell ⟨kb,j,none⟩ (.bool b)).drew rb gb kb hb m wt' ht:=by
  refine ⟨⟨flag_other (.inl (Ne.symm D.kr)) D.d.c0,flag_other (.inl (Ne.symm D.kr)) D.d.c1,(Below.heap_setCell w ⟨kb,j,none⟩ (.bool b) gb (Ne.symm D.d.nk)).trans D.d.row,fun p hp=>?_,D.d.nr,D.d.nk,D.d.mb⟩,flag_other (.inl (Ne.symm D.kr)) D.c2,fun p hp=>flag_other (.inl D.nk) (D.hc p hp),fun p=>flag_fz (D.fk p),fun p=>flag_fz (D.fh p),D.ng,D.nr,D.nk,D.kr,fun p=>flag_fz (D.fr p)⟩
  rw[h p hp]
  by_cases e:p=j
  · subst e;rw[if_pos rfl];exact World.cell?_setCell_same _ _ _ (D.d.wc p hp)
  · rw[if_neg e];exact flag_other (.inr e) (D.d.wc p hp)
theorem DMem.flagH {w:World} {rb gb kb hb:Nat} {m:Nat→Int} {wt ht:Int→Bool} (D:DMem w rb gb kb hb m wt ht) (j:Nat) (hj:j<64) (b:Bool) (ht':Int→Bool) (h:∀ p:Nat,p<64→ht' p=if p=j then b else ht p):DMem (w.setCell ⟨hb,j,none⟩ (.bool b)).drew rb gb kb hb m wt ht':=by
  refine ⟨⟨flag_other (.inl (Ne.symm D.nr)) D.d.c0,flag_other (.inl (Ne.symm D.nr)) D.d.c1,(Below.heap_setCell w ⟨hb,j,none⟩ (.bool b) gb (Ne.symm D.ng)).trans D.d.row,fun p hp=>flag_other (.inl (Ne.symm D.nk)) (D.d.wc p hp),D.d.nr,D.d.nk,D.d.mb⟩,flag_other (.inl (Ne.symm D.nr)) D.c2,fun p hp=>?_,fun p=>flag_fz (D.fk p),fun p=>flag_fz (D.fh p),D.ng,D.nr,D.nk,D.kr,fun p=>flag_fz (D.fr p)⟩
  rw[h p hp]
  by_cases e:p=j
  · subst e;rw[if_pos rfl];exact World.cell?_setCell_same _ _ _ (D.hc p hp)
  · rw[if_neg e];exact flag_other (.inr e) (D.hc p hp)
def fl (f:Int→Bool) (j:Nat) (p:Int):Bool:=decide (p<j)&&f p
theorem fl_zero (f:Int→Bool) (p:Nat):false=fl f 0 (p:Int):=by
  unfold fl
  rw[show decide ((p:Int)<((0:Nat):Int))=false by simp]
  rfl
theorem fl_succ (f:Int→Bool) (j p:Nat):fl f (j+1) p=if p=j then f j else fl f j p:=by
  unfold fl
  by_cases e:p=j
  · subst e;rw[if_pos rfl];simp;omega
  · rw[if_neg e];congr 1;simp;omega
theorem DMem.same {w:World} {rb gb kb hb:Nat} {m:Nat→Int} {wt ht wt' ht':Int→Bool} (D:DMem w rb gb kb hb m wt ht) (h:∀ p:Nat,p<64→wt p=wt' p) (g:∀ p:Nat,p<64→ht p=ht' p):DMem w rb gb kb hb m wt' ht' :=
  ⟨⟨D.d.c0,D.d.c1,D.d.row,fun p hp=>by rw[←h p hp];exact D.d.wc p hp,D.d.nr,D.d.nk,D.d.mb⟩,D.c2,fun p hp=>by rw[←g p hp];exact D.hc p hp,D.fk,D.fh,D.ng,D.nr,D.nk,D.kr,D.fr⟩
theorem DRam.words {w:World} {rb gb kb:Nat} {m:Nat→Int} {wt:Int→Bool} (D:DRam w rb gb kb m wt):WordsIn w (.slice (some ⟨gb,0,none⟩) 4096 4096) ((List.range 4096).map m):=by
  have hlen:((List.range 4096).map m).length=4096:=by simp
  have hg:∀ i,i<4096→((List.range 4096).map m).getD i 0=m i:=fun i hi=>by rw[List.getD_eq_getElem?_getD,List.getElem?_map,List.getElem?_range hi];rfl
  refine ⟨⟨some ⟨gb,0,none⟩,4096,by rw[hlen],by omega,fun _=>⟨gb,0,rfl,fun i hi=>?_⟩⟩,fun i=>?_⟩
  · rw[hlen]at hi;rw[hg i hi,Nat.zero_add];exact D.cell i hi
  · unfold mw
    by_cases hi:i<4096
    · rw[hg i hi];exact D.mb i
    · rw[List.getD_eq_getElem?_getD,List.getElem?_eq_none (by omega)];simp
theorem words_all (m:Nat→Int):∀ i,i<4096→mw ((List.range 4096).map m) i=m i:=fun i hi=>by unfold mw;rw[List.getD_eq_getElem?_getD,List.getElem?_map,List.getElem?_range hi];rfl
structure Ck3 (W:World) (p1 v1 p2 v2 p3 v3:Nat) (o:Nat) (b:Bool):Prop where
  z0:W.cell? ⟨p1,o,none⟩=some (.slice (some ⟨v1,0,none⟩) 64 64)
  z1:W.cell? ⟨p2,o,none⟩=some (.slice (some ⟨v2,0,none⟩) 64 64)
  z2:W.cell? ⟨v2,p3,none⟩=some (.bool b)
theorem copy_any {w:World} {rb gb kb hb:Nat} {m:Nat→Int} {wt ht:Int→Bool} (D:DMem w rb gb kb hb m wt ht) :
    Calls Tryz.prog 186 #[.pointer (some ⟨rb,0,none⟩)] w fun e w'=>∃ rb' gb' kb' hb':Nat,e=.returned (.pointer (some ⟨rb',0,none⟩))∧DMem w' rb' gb' kb' hb' m wt ht∧Below w.heap.size w w'∧w.heap.size≤rb'∧w.heap.size≤gb'∧w.heap.size≤kb'∧w.heap.size≤hb':=by
  have hnw:=dnew_any D.d.words (by simp)
  have HD:Hid (DMem w rb gb kb hb m wt ht):=D
  have c0:=D.d.c0
  have hz:=World.block_lt_of_cell? _ _ c0
  clear D
  go_enter Tryz.func186,Tryz.ntmps186
  go_wp2_with fail
  refine hnw.mono ?_
  rintro e w1 ⟨rb',gb',kb',hb',rfl,D1,b1,l1,l2,l3,l4⟩
  have DI:Hid (DMem w1 rb' gb' kb' hb' m (fl wt 0) (fl ht 0)):=(D1.congr (words_all m) HD.out.d.mb).same (fun p _=>fl_zero wt p) (fun p _=>fl_zero ht p)
  have BI:Hid (Below w.heap.size w w1):=b1
  have LL:Hid (w.heap.size≤rb'∧w.heap.size≤gb'∧w.heap.size≤kb'∧w.heap.size≤hb'):=⟨l1,l2,l3,l4⟩
  clear hnw D1 b1 c0 hz l1 l2 l3 l4
  go_wp2
  go_loopw [4] (fun i wr=>∃ j:Nat,j≤64∧i=.int .i64 j∧DMem wr rb' gb' kb' hb' m (fl wt j) (fl ht j)∧Below w.heap.size w wr) (fun i _=>64-(intOf i).toNat)
  case atStart=>exact ⟨0,by omega,rfl,DI.out,BI.out⟩
  case round =>
    obtain ⟨j,hj,rfl,hD,hB⟩:=hrel
    have HDr:Hid (DMem wr rb' gb' kb' hb' m (fl wt j) (fl ht j)):=hD
    have HBr:Hid (Below w.heap.size w wr):=hB
    clear hD hB DI BI
    by_cases hlt:j<64
    · have hlt':(j:Int)<64:=by omega
      have D0:=HD.out.stays HBr.out
      have c1:=HDr.out.d.c1
      have d1:=D0.d.c1
      have e1:=D0.d.wc j hlt
      have g1:=HDr.out.d.wc j hlt
      have f1:=HDr.out.fk j
      have q1:=World.block_lt_of_cell? _ _ c1
      have q2:=World.block_lt_of_cell? _ _ d1
      have q3:=World.block_lt_of_cell? _ _ e1
      have q4:=World.block_lt_of_cell? _ _ g1
      have D2:Hid (DMem (wr.setCell ⟨kb',j,none⟩ (.bool (wt j))).drew rb' gb' kb' hb' m (fl wt (j+1)) (fl ht j)):=HDr.out.flagK j hlt _ _ (fun p _=>fl_succ wt j p)
      have B2:Hid (Below w.heap.size w (wr.setCell ⟨kb',j,none⟩ (.bool (wt j))).drew):=(HBr.out.setCell LL.out.2.2.1 _).drew
      clear D0
      generalize wt j=wb at *
      go_wp2
      refine zP 13 [(0,0),(1,0),(2,0),(3,1),(4,0),(5,0),(6,0),(7,0),(8,1),(9,0),(10,0),(11,1),(12,0),(13,2)] (fun W=>Ck3 W rb' kb' rb kb j j 1 wb) (by kernel_rfl) (by kernel_rfl) (fun _ _ _ d _ h=>by cases d<;>exact h) ⟨by simpa using c1,by simpa using d1,by simpa using e1⟩ ?_
      repeat (first|(refine zF (by rfl) (by rfl) (fun W=>by (go_simp;try with_reducible rfl)) (fun K hK=>?_);go_simp;refine hK _ ?_;clear hK K)|(refine zQ (by rfl) (by rfl) (fun W hW=>by (obtain ⟨z0,z1,z2⟩:=hW;go_simp;try with_reducible rfl)) (fun K hK=>?_);go_simp;refine hK _ ?_;clear hK K))
      refine zSr (by rfl) (by rfl) (fun K hK=>?_)
      go_simp
      refine hK _ _ (fun h=>absurd h (by decide)) ?_
      clear hK K
      refine zN ?_
      clear c1 d1 e1 g1 f1 q1 q2 q3 q4 HDr HBr
      generalize (wr.setCell ⟨kb',j,none⟩ (.bool wb)).drew=W2 at *
      have D0:=HD.out.stays B2.out
      have c1:=D2.out.c2
      have d1:=D0.c2
      have e1:=D0.hc j hlt
      have g1:=D2.out.hc j hlt
      have f1:=D2.out.fh j
      have q1:=World.block_lt_of_cell? _ _ c1
      have q2:=World.block_lt_of_cell? _ _ d1
      have q3:=World.block_lt_of_cell? _ _ e1
      have q4:=World.block_lt_of_cell? _ _ g1
      have D3:Hid (DMem (W2.setCell ⟨hb',j,none⟩ (.bool (ht j))).drew rb' gb' kb' hb' m (fl wt (j+1)) (fl ht (j+1))):=D2.out.flagH j hlt _ _ (fun p _=>fl_succ ht j p)
      have B3:Hid (Below w.heap.size w (W2.setCell ⟨hb',j,none⟩ (.bool (ht j))).drew):=(B2.out.setCell LL.out.2.2.2 _).drew
      clear D0
      generalize ht j=hbv at *
      go_wp2
      refine zP 13 [(0,0),(1,0),(2,0),(3,1),(4,0),(5,0),(6,0),(7,0),(8,1),(9,0),(10,0),(11,1),(12,0),(13,2)] (fun W=>Ck3 W rb' hb' rb hb j j 2 hbv) (by kernel_rfl) (by kernel_rfl) (fun _ _ _ d _ h=>by cases d<;>exact h) ⟨by simpa using c1,by simpa using d1,by simpa using e1⟩ ?_
      repeat (first|(refine zF (by rfl) (by rfl) (fun W=>by (go_simp;try with_reducible rfl)) (fun K hK=>?_);go_simp;refine hK _ ?_;clear hK K)|(refine zQ (by rfl) (by rfl) (fun W hW=>by (obtain ⟨z0,z1,z2⟩:=hW;go_simp;try with_reducible rfl)) (fun K hK=>?_);go_simp;refine hK _ ?_;clear hK K))
      refine zSr (by rfl) (by rfl) (fun K hK=>?_)
      go_simp
      refine hK _ _ (fun h=>absurd h (by decide)) ?_
      clear hK K
      refine zN ?_
      clear c1 d1 e1 g1 f1 q1 q2 q3 q4 D2 B2
      generalize (W2.setCell ⟨hb',j,none⟩ (.bool hbv)).drew=W3 at *
      go_wp2
      go_roundw
      case rel=>exact ⟨j+1,by omega,by go_num,D3.out,B3.out⟩
      case measure=>simp[intOf];omega
    · obtain rfl:j=64:=by omega
      have DF:Hid (DMem wr rb' gb' kb' hb' m wt ht):=HDr.out.same (fun p hp=>by unfold fl;simp;intro h;omega) (fun p hp=>by unfold fl;simp;intro h;omega)
      go_wp2
      go_ret
      first|exact ⟨rb',gb',kb',hb',rfl,DF.out,HBr.out,LL.out⟩|exact ⟨rb',rfl,gb',kb',hb',DF.out,HBr.out,LL.out⟩
set_option maxHeartbeats 2000000
structure MBox (w:World) (mb:Nat) (X:Nat→Int) (p:Value):Prop where
 c:∀ j,j<64→w.cell? ⟨mb,j,none⟩=some (.int .u32 (X j))
 cp:w.cell? ⟨mb,64,none⟩=some p
 fz:∀ j,w.frozen? ⟨mb,j,none⟩=false
theorem MBox.lt {w:World} {mb:Nat} {X:Nat→Int} {p:Value} (M:MBox w mb X p):mb<w.heap.size:=World.block_lt_of_cell? _ _ M.cp
theorem MBox.block {w w':World} {mb:Nat} {X:Nat→Int} {p:Value} (M:MBox w mb X p) (h:w'.heap[mb]?=w.heap[mb]?):MBox w' mb X p :=
 ⟨fun j hj=>(World.cell?_of_block (a:=⟨mb,j,none⟩) h).trans (M.c j hj),(World.cell?_of_block (a:=⟨mb,64,none⟩) h).trans M.cp,fun j=>(World.frozen?_of_block (a:=⟨mb,j,none⟩) h).trans (M.fz j)⟩
theorem MBox.stays {w w':World} {mb:Nat} {X:Nat→Int} {p:Value} (M:MBox w mb X p) (h:Below w.heap.size w w'):MBox w' mb X p:=M.block (h.block _ M.lt)
theorem MBox.drew {w:World} {mb:Nat} {X:Nat→Int} {p:Value} (M:MBox w mb X p):MBox w.drew mb X p:=⟨M.c,M.cp,M.fz⟩
theorem ofs_ne' {B i j:Nat} (h:i≠j):(⟨B,i,none⟩:Addr)≠⟨B,j,none⟩:=by intro e;injection e with e1 e2;exact h e2
theorem MBox.put {w:World} {mb:Nat} {X X':Nat→Int} {p:Value} (M:MBox w mb X p) (i:Nat) (hi:i<64) (v:Int) (h:∀ j,j<64→X' j=if j=i then v else X j):MBox (w.setCell ⟨mb,i,none⟩ (.int .u32 v)) mb X' p:=by
 refine ⟨fun j hj=>?_,?_,fun j=>by rw[World.frozen?_setCell];exact M.fz j⟩
 ·rw[h j hj]
  by_cases e:j=i
  ·subst e;rw[if_pos rfl];exact World.cell?_setCell_same _ _ _ (M.c j hj)
  ·rw[if_neg e,World.cell?_setCell_other _ _ _ _ (ofs_ne' (Ne.symm e))];exact M.c j hj
 ·rw[World.cell?_setCell_other _ _ _ _ (ofs_ne' (by omega))];exact M.cp
theorem mach_lit:Tryz.zeroCells217=(Array.replicate 64 (Value.int .u32 0)).push (.pointer none):=rfl
theorem MBox.new (w:World) (p:Value):MBox (w.alloc (.cells (Tryz.zeroCells217.setIfInBounds 64 p) 217)) w.heap.size (fun _=>0) p:=by
 have hs:(Array.replicate 64 (Value.int .u32 0)).size=64:=Array.size_replicate
 refine ⟨fun j hj=>?_,?_,fun j=>World.frozen?_alloc_at _ _ _ _ rfl⟩
 ·rw[World.cell?_alloc_at _ _ _ _ rfl,Array.getElem?_setIfInBounds_ne (by omega),mach_lit,Array.getElem?_push,if_neg (by rw[hs];omega)]
  simp[hj]
 ·rw[World.cell?_alloc_at _ _ _ _ rfl,Array.getElem?_setIfInBounds_self,if_pos (by rw[mach_lit,Array.size_push,hs];omega)]
def nwX (r:Nat→Int) (k n:Nat):Int:=if 1≤n∧n<k then r n else 0
theorem nwX_succ (r:Nat→Int) (k n:Nat) (hk:1≤k):nwX r (k+1) n=if n=k then r k else nwX r k n:=by
 unfold nwX
 by_cases e:n=k
 ·subst e;rw[if_pos rfl,if_pos (by omega)]
 ·rw[if_neg e]
  by_cases h:1≤n∧n<k
  ·rw[if_pos h,if_pos (by omega)]
  ·rw[if_neg h,if_neg (by omega)]
structure Ck1 (W:World) (b j:Nat) (v:Int):Prop where
 z0:W.cell? ⟨b,j,none⟩=some (.int .u32 v)
theorem newMachine_any {w:World} {rb gb kb hb:Nat} {m:Nat→Int} {wt ht:Int→Bool} (D:DMem w rb gb kb hb m wt ht) (sb:Nat) (r:Nat→Int) (hr:∀ j,j<34→w.cell? ⟨sb,j,none⟩=some (.int .u32 (r j))) :
  Calls Tryz.prog 124 #[.pointer (some ⟨sb,0,none⟩),.pointer (some ⟨rb,0,none⟩)] w fun e w'=>∃ mb rb' gb' kb' hb':Nat,e=.returned (.pointer (some ⟨mb,0,none⟩))∧MBox w' mb (nwX r 34) (.pointer (some ⟨rb',0,none⟩))∧DMem w' rb' gb' kb' hb' m wt ht∧Below w.heap.size w w'∧(w.heap.size≤rb'∧w.heap.size≤gb'∧w.heap.size≤kb'∧w.heap.size≤hb')∧rb'<mb∧gb'<mb∧kb'<mb∧hb'<mb:=by
 have hcp:=copy_any D
 have hsb:=World.block_lt_of_cell? _ _ (hr 0 (by omega))
 have HR:Hid (∀ W,Below w.heap.size w W→∀ j,j<34→W.cell? ⟨sb,j,none⟩=some (.int .u32 (r j))):=fun W hW j hj=>(hW.cell (p:=⟨sb,j,none⟩) hsb).trans (hr j hj)
 clear D hr
 go_enter Tryz.func124,Tryz.ntmps124
 go_wp2_with fail
 refine hcp.mono ?_
 rintro e w1 ⟨rb',gb',kb',hb',rfl,D1,b1,l1,l2,l3,l4⟩
 have HD1:Hid (DMem w1 rb' gb' kb' hb' m wt ht):=D1
 have HB1:Hid (Below w.heap.size w w1):=b1
 have LL:Hid (w.heap.size≤rb'∧w.heap.size≤gb'∧w.heap.size≤kb'∧w.heap.size≤hb'):=⟨l1,l2,l3,l4⟩
 have LT:Hid (rb'<w1.heap.size∧gb'<w1.heap.size∧kb'<w1.heap.size∧hb'<w1.heap.size):=⟨D1.d.lt (.inl rfl),D1.d.lt (.inr (.inl rfl)),D1.d.lt (.inr (.inr rfl)),World.block_lt_of_cell? _ _ (D1.hc 0 (by omega))⟩
 have M1:=MBox.new w1 (.pointer (some ⟨rb',0,none⟩))
 have B2:Below w1.heap.size w1 (w1.alloc (.cells (Tryz.zeroCells217.setIfInBounds 64 (.pointer (some ⟨rb',0,none⟩))) 217)):=(Below.refl _ _).alloc (Nat.le_refl _) _
 clear hcp D1 b1 l1 l2 l3 l4
 go_upto_region 2 with fail
 generalize w1.alloc (.cells (Tryz.zeroCells217.setIfInBounds 64 (.pointer (some ⟨rb',0,none⟩))) 217)=W2 at *
 have HM:Hid (MBox W2 w1.heap.size (fun _=>0) (.pointer (some ⟨rb',0,none⟩))):=M1
 have HB2:Hid (Below w1.heap.size w1 W2):=B2
 have hsz:w.heap.size≤w1.heap.size:=HB1.out.size
 clear M1 B2
 generalize hmb:w1.heap.size=mb at *
 go_wp2
 go_loopw [6] (fun i wr=>∃ j:Nat,1≤j∧j≤32∧i=.int .i64 j∧MBox wr mb (nwX r j) (.pointer (some ⟨rb',0,none⟩))∧Below mb w1 wr) (fun i _=>32-(intOf i).toNat)
 case atStart=>exact ⟨1,by omega,by omega,rfl,⟨fun j hj=>by rw[show nwX r 1 j=0 by unfold nwX;rw[if_neg (by omega)]];exact HM.out.c j hj,HM.out.cp,HM.out.fz⟩,HB2.out⟩
 case round =>
  obtain ⟨j,hj1,hj,rfl,hM,hB⟩:=hrel
  have HMr:Hid (MBox wr mb (nwX r j) (.pointer (some ⟨rb',0,none⟩))):=hM
  have HBr:Hid (Below mb w1 wr):=hB
  clear hM hB HM HB2
  have e1:=HR.out wr (HB1.out.trans (HBr.out.mono hsz))
  have q1:=HMr.out.lt
  have q2:sb<wr.heap.size:=World.block_lt_of_cell? _ _ (e1 0 (by omega))
  by_cases hlt:j<32
  ·have hlt':(j:Int)<32:=by omega
   have hlt64:(j:Int)<64:=by omega
   have c1:=e1 j (by omega)
   have g1:=HMr.out.c j (by omega)
   have f1:=HMr.out.fz j
   have M2:Hid (MBox (wr.setCell ⟨mb,j,none⟩ (.int .u32 (r j))).drew mb (nwX r (j+1)) (.pointer (some ⟨rb',0,none⟩))):=(HMr.out.put j (by omega) _ (fun n _=>nwX_succ r j n hj1)).drew
   have B3:Hid (Below mb w1 (wr.setCell ⟨mb,j,none⟩ (.int .u32 (r j))).drew):=(HBr.out.setCell (Nat.le_refl _) _).drew
   clear e1
   generalize r j=rv at *
   go_wp2
   refine zP 11 [(0,0),(1,0),(2,0),(3,0),(4,0),(5,0),(6,0),(7,1),(8,0),(9,0),(10,0),(11,2)] (fun W=>Ck1 W sb j rv) (by kernel_rfl) (by kernel_rfl) (fun _ _ _ d _ h=>by cases d<;>exact h) ⟨by simpa using c1⟩ ?_
   repeat (first|(refine zF (by rfl) (by rfl) (fun W=>by (go_simp;try with_reducible rfl)) (fun K hK=>?_);go_simp;refine hK _ ?_;clear hK K)|(refine zQ (by rfl) (by rfl) (fun W hW=>by (obtain ⟨z0⟩:=hW;go_simp;try with_reducible rfl)) (fun K hK=>?_);go_simp;refine hK _ ?_;clear hK K))
   refine zSr (by rfl) (by rfl) (fun K hK=>?_)
   go_simp
   refine hK _ _ (fun h=>absurd h (by decide)) ?_
   clear hK K
   refine zN ?_
   clear c1 g1 f1 q1 q2 HMr HBr
   generalize (wr.setCell ⟨mb,j,none⟩ (.int .u32 rv)).drew=W3 at *
   go_wp2
   go_roundw
   case rel=>exact ⟨j+1,by omega,by omega,by go_num,M2.out,B3.out⟩
   case measure=>simp[intOf];omega
  ·obtain rfl:j=32:=by omega
   have c1:=e1 32 (by omega)
   have g1:=HMr.out.c 32 (by omega)
   have f1:=HMr.out.fz 32
   have M2:Hid (MBox (wr.setCell ⟨mb,32,none⟩ (.int .u32 (r 32))).drew mb (nwX r 33) (.pointer (some ⟨rb',0,none⟩))):=(HMr.out.put 32 (by omega) _ (fun n _=>nwX_succ r 32 n (by omega))).drew
   have B3:Hid (Below mb w1 (wr.setCell ⟨mb,32,none⟩ (.int .u32 (r 32))).drew):=(HBr.out.setCell (Nat.le_refl _) _).drew
   clear e1
   generalize r 32=rv at *
   go_wp2
   refine zP 8 [(0,0),(1,0),(2,0),(3,0),(4,1),(5,0),(6,0),(7,0),(8,2)] (fun W=>Ck1 W sb 32 rv) (by kernel_rfl) (by kernel_rfl) (fun _ _ _ d _ h=>by cases d<;>exact h) ⟨by simpa using c1⟩ ?_
   repeat (first|(refine zF (by rfl) (by rfl) (fun W=>by (go_simp;try with_reducible rfl)) (fun K hK=>?_);go_simp;refine hK _ ?_;clear hK K)|(refine zQ (by rfl) (by rfl) (fun W hW=>by (obtain ⟨z0⟩:=hW;go_simp;try with_reducible rfl)) (fun K hK=>?_);go_simp;refine hK _ ?_;clear hK K))
   refine zSr (by rfl) (by rfl) (fun K hK=>?_)
   go_simp
   refine hK _ _ (fun h=>absurd h (by decide)) ?_
   clear hK K
   refine zN ?_
   clear c1 g1 f1 q1 q2 HMr HBr
   generalize (wr.setCell ⟨mb,32,none⟩ (.int .u32 rv)).drew=W3 at *
   have e1:=HR.out W3 (HB1.out.trans (B3.out.mono hsz))
   have q1:=M2.out.lt
   have q2:sb<W3.heap.size:=World.block_lt_of_cell? _ _ (e1 0 (by omega))
   have c1:=e1 33 (by omega)
   have g1:=M2.out.c 33 (by omega)
   have f1:=M2.out.fz 33
   have M3:Hid (MBox (W3.setCell ⟨mb,33,none⟩ (.int .u32 (r 33))).drew mb (nwX r 34) (.pointer (some ⟨rb',0,none⟩))):=(M2.out.put 33 (by omega) _ (fun n _=>nwX_succ r 33 n (by omega))).drew
   have B4:Hid (Below mb w1 (W3.setCell ⟨mb,33,none⟩ (.int .u32 (r 33))).drew):=(B3.out.setCell (Nat.le_refl _) _).drew
   clear e1
   generalize r 33=rv2 at *
   go_wp2
   refine zP 8 [(0,0),(1,0),(2,0),(3,0),(4,1),(5,0),(6,0),(7,0),(8,2)] (fun W=>Ck1 W sb 33 rv2) (by kernel_rfl) (by kernel_rfl) (fun _ _ _ d _ h=>by cases d<;>exact h) ⟨by simpa using c1⟩ ?_
   repeat (first|(refine zF (by rfl) (by rfl) (fun W=>by (go_simp;try with_reducible rfl)) (fun K hK=>?_);go_simp;refine hK _ ?_;clear hK K)|(refine zQ (by rfl) (by rfl) (fun W hW=>by (obtain ⟨z0⟩:=hW;go_simp;try with_reducible rfl)) (fun K hK=>?_);go_simp;refine hK _ ?_;clear hK K))
   refine zSr (by rfl) (by rfl) (fun K hK=>?_)
   go_simp
   refine hK _ _ (fun h=>absurd h (by decide)) ?_
   clear hK K
   refine zN ?_
   clear c1 g1 f1 q1 q2 M2 B3
   generalize (W3.setCell ⟨mb,33,none⟩ (.int .u32 rv2)).drew=W4 at *
   have DF:Hid (DMem W4 rb' gb' kb' hb' m wt ht):=HD1.out.stays (by rw[hmb];exact B4.out)
   have BF:Hid (Below w.heap.size w W4):=HB1.out.trans (B4.out.mono hsz)
   have LT2:Hid (rb'<mb∧gb'<mb∧kb'<mb∧hb'<mb):=LT.out
   go_wp2
   go_ret
   first|exact ⟨mb,rb',gb',kb',hb',rfl,M3.out,DF.out,BF.out,LL.out,LT2.out⟩|exact ⟨mb,rfl,rb',gb',kb',hb',M3.out,DF.out,BF.out,LL.out,LT2.out⟩|exact ⟨mb,rfl,rb',M3.out,gb',kb',hb',DF.out,BF.out,LL.out,LT2.out⟩
set_option maxHeartbeats 2000000
theorem alikeD_any {w:World} {g h n:Nat} {f:Nat→Int} (hA:∀ i,i<n→w.cell? ⟨g,i,none⟩=some (.int .u32 (f i))) (hB:∀ i,i<n→w.cell? ⟨h,i,none⟩=some (.int .u32 (f i))) (hl:(n:Int)≤1000000) :
  Calls Tryz.prog 26 #[.slice (some ⟨g,0,none⟩) n n,.slice (some ⟨h,0,none⟩) n n] w fun e w'=>e=.returned (.int .i64 1)∧Below w.heap.size w w':=by
 have HA:Hid (∀ i,i<n→w.cell? ⟨g,i,none⟩=some (.int .u32 (f i))):=hA
 have HB:Hid (∀ i,i<n→w.cell? ⟨h,i,none⟩=some (.int .u32 (f i))):=hB
 clear hA hB
 go_enter Tryz.func26,Tryz.ntmps26
 go_wp2
 go_loopw [5] (fun i wr=>∃ (j q:Nat),j≤n∧i=.int .i64 j∧wr=w.drewN q) (fun i _=>n-(intOf i).toNat)
 case atStart=>exact ⟨0,0,Nat.zero_le _,rfl,rfl⟩
 case round =>
  obtain ⟨j,q,hj,rfl,rfl⟩:=hrel
  by_cases hlt:j<n
  ·have yg:=HA.out j hlt
   have yh:=HB.out j hlt
   have zg:=World.block_lt_of_cell? _ _ yg
   have zh:=World.block_lt_of_cell? _ _ yh
   have hlt':(j:Int)<n:=by omega
   generalize f j=y at *
   clear HA HB
   go_wp2
   go_quiet (fail)
   go_wp2
   go_roundw
   case rel=>exact ⟨j+1,q+nq,by omega,by go_num,by first|rfl|(rw[World.drewN_drewN];done)|(simp;done)⟩
   case measure=>simp[intOf];omega
  ·obtain rfl:j=n:=by omega
   go_wp2
   go_ret
   exact ⟨rfl,below_drewN (Below.refl _ _) q⟩
structure Ck2 (W:World) (rb kb pb:Nat) (wa:Int):Prop where
 z0:W.cell? ⟨rb,1,none⟩=some (.slice (some ⟨kb,0,none⟩) 64 64)
 z1:W.cell? ⟨pb,44,none⟩=some (.int .i64 wa)
theorem WordsIn.stays {w w':World} {v:Value} {xs:List Int} (X:WordsIn w v xs) (h:Below w.heap.size w w'):WordsIn w' v xs:=by
 obtain ⟨ao,cap,e,hc,hh⟩:=X.sh
 exact ⟨⟨ao,cap,e,hc,fun hp=>let ⟨b,off,eb,hcell⟩:=hh hp;⟨b,off,eb,fun i hi=>(h.cell (World.block_lt_of_cell? _ _ (hcell i hi))).trans (hcell i hi)⟩⟩,X.wf⟩
theorem model_any {w:World} {ps:Array Value} {v:Value} {wa:Int} {xs:List Int} (h43:ps[43]?=some v) (h44:ps[44]?=some (.int .i64 wa)) (X:WordsIn w v xs) (hx:xs.length≤5000) :
  Calls Tryz.prog 23 #[.agg ps] w fun e w'=>∃ rb gb kb hb:Nat,e=.returned (.pointer (some ⟨rb,0,none⟩))∧DMem w' rb gb kb hb (mw xs) (fun p=>decide (p=wa)) (fun _=>false)∧Below w.heap.size w w'∧w.heap.size≤rb∧w.heap.size≤gb∧w.heap.size≤kb∧w.heap.size≤hb:=by
 have B0:Below w.heap.size w (w.alloc (.cells ps 50)):=(Below.refl _ _).alloc (Nat.le_refl _) _
 have c43:(w.alloc (.cells ps 50)).cell? ⟨w.heap.size,43,none⟩=some v:=by rw[World.cell?_alloc_at _ _ _ _ rfl];exact h43
 have c44:(w.alloc (.cells ps 50)).cell? ⟨w.heap.size,44,none⟩=some (.int .i64 wa):=by rw[World.cell?_alloc_at _ _ _ _ rfl];exact h44
 have hnw:=dnew_any (X.stays B0) hx
 obtain ⟨ao,cap,rfl,_⟩:=X.sh
 clear X h43 h44
 go_enter Tryz.func23,Tryz.ntmps23
 go_upto_region 1 with fail
 generalize w.alloc (.cells ps 50)=W at *
 have q0:=World.block_lt_of_cell? _ _ c43
 go_wp2_with fail
 refine hnw.mono ?_
 rintro e w1 ⟨rb,gb,kb,hb,rfl,D1,b1,l1,l2,l3,l4⟩
 have hW:=B0.size
 have HD:Hid (DMem w1 rb gb kb hb (mw xs) (fun _=>false) (fun _=>false)):=D1
 have HB:Hid (Below w.heap.size w w1):=B0.trans (b1.mono hW)
 have LL:Hid (w.heap.size≤rb∧w.heap.size≤gb∧w.heap.size≤kb∧w.heap.size≤hb):=⟨by omega,by omega,by omega,by omega⟩
 have d44:w1.cell? ⟨w.heap.size,44,none⟩=some (.int .i64 wa):=(b1.cell (p:=⟨w.heap.size,44,none⟩) q0).trans c44
 have c1:=D1.d.c1
 have q1:=World.block_lt_of_cell? _ _ c1
 have q2:=World.block_lt_of_cell? _ _ d44
 clear hnw D1 b1 l1 l2 l3 l4 c43 c44 q0 B0 hW
 by_cases h0:0≤wa
 ·by_cases h1:wa<64
  ·have g1:=HD.out.d.wc wa.toNat (by omega)
   have f1:=HD.out.fk wa.toNat
   have q3:=World.block_lt_of_cell? _ _ g1
   have D2:Hid (DMem (w1.setCell ⟨kb,wa.toNat,none⟩ (.bool true)).drew rb gb kb hb (mw xs) (fun p=>decide (p=wa)) (fun _=>false)):=HD.out.flagK wa.toNat (by omega) true _ (fun p _=>by
    by_cases e:p=wa.toNat
    ·rw[if_pos e];simp;omega
    ·rw[if_neg e];simp;omega)
   have B2:Hid (Below w.heap.size w (w1.setCell ⟨kb,wa.toNat,none⟩ (.bool true)).drew):=(HB.out.setCell LL.out.2.2.1 _).drew
   go_wp2
   refine zP 7 [(0,0),(1,0),(2,0),(3,1),(4,0),(5,1),(6,0),(7,2)] (fun W=>Ck2 W rb kb w.heap.size wa) (by kernel_rfl) (by kernel_rfl) (fun _ _ _ d _ h=>by cases d<;>exact h) ⟨by simpa using c1,by simpa using d44⟩ ?_
   repeat (first|(refine zF (by rfl) (by rfl) (fun W=>by (go_simp;try with_reducible rfl)) (fun K hK=>?_);go_simp;refine hK _ ?_;clear hK K)|(refine zQ (by rfl) (by rfl) (fun W hW=>by (obtain ⟨z0,z1⟩:=hW;go_simp;try with_reducible rfl)) (fun K hK=>?_);go_simp;refine hK _ ?_;clear hK K))
   refine zSr (by rfl) (by rfl) (fun K hK=>?_)
   go_simp
   refine hK _ _ (fun h=>absurd h (by decide)) ?_
   clear hK K
   refine zN ?_
   clear c1 g1 f1 q1 q2 q3 d44 HB HD
   generalize (w1.setCell ⟨kb,wa.toNat,none⟩ (.bool true)).drew=W2 at *
   go_wp2
   go_ret
   first|exact ⟨rb,gb,kb,hb,rfl,D2.out,B2.out,LL.out⟩|exact ⟨rb,rfl,gb,kb,hb,D2.out,B2.out,LL.out⟩
  ·have D2:Hid (DMem w1 rb gb kb hb (mw xs) (fun p=>decide (p=wa)) (fun _=>false)):=HD.out.same (fun p hp=>by simp;omega) (fun _ _=>rfl)
   go_wp2
   go_ret
   first|exact ⟨rb,gb,kb,hb,rfl,D2.out,HB.out,LL.out⟩|exact ⟨rb,rfl,gb,kb,hb,D2.out,HB.out,LL.out⟩
 ·have D2:Hid (DMem w1 rb gb kb hb (mw xs) (fun p=>decide (p=wa)) (fun _=>false)):=HD.out.same (fun p hp=>by simp;omega) (fun _ _=>rfl)
  go_wp2
  go_ret
  first|exact ⟨rb,gb,kb,hb,rfl,D2.out,HB.out,LL.out⟩|exact ⟨rb,rfl,gb,kb,hb,D2.out,HB.out,LL.out⟩
set_option maxHeartbeats 2000000
theorem opError_none (o:Opx) (many:Int) (w:World) (hk:kn o.s=0):Calls Tryz.prog 66 #[opV o,.int .i64 many] w fun e w'=>e=.returned (.int .i64 (opE o many))∧Below w.heap.size w w':=by
 have hf:=fun w=>foA o.s w
 have HE:Hid (opE o many=4):=by show _=_;unfold opE Opx.k;rw[if_pos hk]
 have e0:(⟨(fldL (kn o.s)).toArray⟩:ByteArray)=⟨#[]⟩:=by rw[hk];rfl
 rw[e0]at hf
 have OB:Hid (Below w.heap.size w (w.alloc (.cells #[.string o.s,.int .i64 o.d,.int .i64 o.a,.int .i64 o.b,.int .u32 o.i,.int .i64 o.t] 139))):=(Below.refl _ _).alloc (Nat.le_refl _) _
 clear hk e0
 unfold opV
 go_enter Tryz.func66,Tryz.ntmps66
 go_wp2_with fail
 refine (hf _).mono ?_
 rintro e w1 ⟨rfl,hw⟩
 rw[hw]
 clear hw w1
 go_wp2
 go_ret
 exact ⟨by rw[HE.out];rfl,OB.out⟩
theorem opError_any (o:Opx) (ok:o.ok) (many:Int) (w:World):Calls Tryz.prog 66 #[opV o,.int .i64 many] w fun e w'=>e=.returned (.int .i64 (opE o many))∧Below w.heap.size w w':=by
 have hl:=kn_lt o.s
 have hk:kn o.s=0∨(1≤kn o.s∧kn o.s≤1)∨(2≤kn o.s∧kn o.s≤2)∨(3≤kn o.s∧kn o.s≤20)∨(21≤kn o.s∧kn o.s≤21)∨(22≤kn o.s∧kn o.s≤22)∨(23≤kn o.s∧kn o.s≤23)∨(24≤kn o.s∧kn o.s≤24)∨(25≤kn o.s∧kn o.s≤25)∨(26≤kn o.s∧kn o.s≤26)∨(27≤kn o.s∧kn o.s≤27):=by omega
 rcases hk with h|h|h|h|h|h|h|h|h|h|h
 ·exact opError_none o many w h
 ·exact opError_set o ok many w h
 ·exact opError_copy o ok many w h
 ·exact opError_sum o ok many w h
 ·exact opError_over1 o ok many w h
 ·exact opError_over2 o ok many w h
 ·exact opError_load o ok many w h
 ·exact opError_store o ok many w h
 ·exact opError_if o ok many w h
 ·exact opError_out o ok many w h
 ·exact opError_outr o ok many w h
theorem opE_cases (o:Opx) (many:Int):opE o many=0∨opE o many=2∨opE o many=3∨opE o many=4:=by
 unfold opE
 split
 ·omega
 ·split
  ·omega
  ·split<;>omega
theorem isOutD_any (o:Opx) (w:World):Calls Tryz.prog 65 #[opV o] w fun e w'=>e=.returned (.bool (outB o))∧Below w.heap.size w w':=by
 have h1:=kn_eq o.s 26 (by omega) (by omega)
 have h2:=kn_eq o.s 27 (by omega) (by omega)
 have e1:Hid (outB o=((o.s.toList==[111,117,116])||(o.s.toList==[111,117,116,114]))):=by
  show _=_
  unfold outB
  rw[show (o.s.toList==[111,117,116])=decide (kn o.s=26) from h1,show (o.s.toList==[111,117,116,114])=decide (kn o.s=27) from h2]
  simp
 clear h1 h2
 unfold opV
 go_enter Tryz.func65,Tryz.ntmps65
 go_wp2
 all_goals
  go_ret
  refine ⟨?_,(Below.refl _ _).alloc (Nat.le_refl _) _⟩
  rw[e1.out]
  first|(simp_all;done)|rfl
theorem storesD_any {w:World} {v:Value} {l:List Opx} (A:OpsIn w v l) (hl:(l.length:Int)≤1000000) :
  Calls Tryz.prog 64 #[v] w fun e w'=>e=.returned (.int .i64 (strs l))∧w'=w:=by
 obtain ⟨ao,cap,rfl,hc,hh⟩:=A.sh
 have HH:Hid (0<l.length→∃ b off:Nat,ao=some ⟨b,off,none⟩∧∀ (i:Nat) (o:Opx),l[i]?=some o→∀ (j:Nat) (u:Value),(opC o)[j]?=some u→w.cell? ⟨b,off+i*6+j,none⟩=some u):=hh
 clear hh A
 go_enter Tryz.func64,Tryz.ntmps64
 go_wp2
 go_loop [3,4] (fun n i=>∃ j:Nat,j≤l.length∧i=.int .i64 j∧n=.int .i64 (strs (l.take j))) (fun _ i=>l.length-(intOf i).toNat)
 case atStart=>exact ⟨0,Nat.zero_le _,rfl,rfl⟩
 case round =>
  obtain ⟨j,hj,rfl,rfl⟩:=hrel
  by_cases hlt:j<l.length
  ·have ho:l[j]?=some l[j]:=List.getElem?_eq_getElem hlt
   obtain ⟨b,off,rfl,hcell⟩:=HH.out (by omega)
   obtain ⟨x0,x1,x2,x3,x4,x5⟩:=op_cells (hcell j _ ho)
   have hk:=kn_eq l[j].s 24 (by omega) (by omega)
   have HS:Hid (strs (l.take (j+1))=strs (l.take j)+(if l[j].k=24 then 1 else 0)):=by
    show _=_;rw[take_snoc' ho,strs_snoc]
   have hb:=strs_le (l.take j)
   have hb2:(l.take j).length≤j:=List.length_take_le _ _
   have hlt':(j:Int)<l.length:=by omega
   clear ho hcell
   generalize l[j]=o at *
   by_cases h24:kn o.s=24
   ·have hk':(o.s.toList==[115,116,111,114,101])=true:=by rw[show (o.s.toList==[115,116,111,114,101])=_ from hk];simpa using h24
    clear hk
    go_wp2
    go_round
    case rel=>exact ⟨j+1,by omega,by go_num,by rw[HS.out,if_pos h24];go_num⟩
    case measure=>simp[intOf];omega
   ·have hk':(o.s.toList==[115,116,111,114,101])=false:=by rw[show (o.s.toList==[115,116,111,114,101])=_ from hk];simpa using h24
    clear hk
    go_wp2
    go_round
    case rel=>exact ⟨j+1,by omega,by go_num,by rw[HS.out,if_neg h24];go_num⟩
    case measure=>simp[intOf];omega
  ·obtain rfl:j=l.length:=by omega
   go_wp2
   go_ret
   first|exact ⟨rfl,rfl⟩|exact ⟨by rw[List.take_length];rfl,rfl⟩|(simp;done)
theorem r1c {fn:Func} {p:Tmp} {ty:TypeId} {A:Addr} {x:Value} (h:fn.results=#[.cell p ty]) (tmps:Array Value) (P:Program) (w:World) (hp:tmps.getD p undef=.pointer (some A)) (hl:(loadVar ty A).run P w=.ok x w) :
  (results fn tmps).run P w=.ok x w:=by
 simp only[results,h]
 simp only[asAddr,hp,Sem.run_bind,List.mapM_toArray,List.mapM_cons,List.mapM_nil,Sem.run_map,Sem.run_pure,Result.andThen,hl]
 simp
theorem fault_load {w:World} {B:Nat} {a b:Value} (z0:w.cell? ⟨B,0,none⟩=some a) (z1:w.cell? ⟨B,1,none⟩=some b):(loadVar 63 ⟨B,0,none⟩).run Tryz.prog w=.ok (.agg #[a,b]) w:=by
 simp[go_sem,z0,z1]
theorem putF2 {w:World} {B:Nat} {u0 u1 v0 v1:Value} (z0:w.cell? ⟨B,0,none⟩=some u0) (z1:w.cell? ⟨B,1,none⟩=some u1):((w.setCell ⟨B,0,none⟩ v0).setCell ⟨B,1,none⟩ v1).cell? ⟨B,0,none⟩=some v0∧((w.setCell ⟨B,0,none⟩ v0).setCell ⟨B,1,none⟩ v1).cell? ⟨B,1,none⟩=some v1:=by
 constructor
 ·rw[World.cell?_setCell_other _ _ _ _ (by intro e;injection e with e1 e2;cases e2)];exact World.cell?_setCell_same _ _ _ z0
 ·exact World.cell?_setCell_same _ _ _ (by rw[World.cell?_setCell_other _ _ _ _ (by intro e;injection e with e1 e2;cases e2)];exact z1)
theorem bare_any (n:Int) (w:World):Calls Tryz.prog 63 #[.int .i64 n] w fun e w'=>e=.returned (.agg #[.int .i64 n,.int .i64 (-1)])∧Below w.heap.size w w':=by
 go_enter Tryz.func63,Tryz.ntmps63
 go_wp2
 refine bodyPost_ret (r1c (A:=⟨w.heap.size,0,none⟩) rfl _ _ _ rfl (fault_load (a:=.int .i64 n) (b:=.int .i64 (-1)) (by simp) (by simp))) rfl ?_
 exact ⟨rfl,(Below.refl _ _).alloc (Nat.le_refl _) _⟩
theorem fine_any (w:World):Calls Tryz.prog 67 #[] w fun e w'=>e=.returned (.agg #[.int .i64 0,.int .i64 (-1)])∧Below w.heap.size w w':=by
 go_enter Tryz.func67,Tryz.ntmps67
 go_wp2
 refine bodyPost_ret (r1c (A:=⟨w.heap.size,0,none⟩) rfl _ _ _ rfl (fault_load (a:=.int .i64 0) (b:=.int .i64 (-1)) (by simp) (by simp))) rfl ?_
 exact ⟨rfl,(Below.refl _ _).alloc (Nat.le_refl _) _⟩
def roV (r:Ro):Value:=.agg #[.int .u32 r.v,.int .u32 r.a,.bool r.trap,.bool r.leave]
structure RBx (w W:World) (x:Nat→Int) (o:Opx):Prop where
 b:Below w.heap.size w W
 r:∀ i,i<64→W.cell? ⟨w.heap.size,i,none⟩=some (.int .u32 (x i))
 o0:W.cell? ⟨w.heap.size+1,0,none⟩=some (.string o.s)
 o1:W.cell? ⟨w.heap.size+1,1,none⟩=some (.int .i64 o.d)
 o2:W.cell? ⟨w.heap.size+1,2,none⟩=some (.int .i64 o.a)
 o3:W.cell? ⟨w.heap.size+1,3,none⟩=some (.int .i64 o.b)
 o4:W.cell? ⟨w.heap.size+1,4,none⟩=some (.int .u32 o.i)
 a0:W.cell? ⟨w.heap.size+1+1,0,none⟩=some (.int .u32 0)
 a1:W.cell? ⟨w.heap.size+1+1,1,none⟩=some (.int .u32 0)
 a2:W.cell? ⟨w.heap.size+1+1,2,none⟩=some (.bool false)
 a3:W.cell? ⟨w.heap.size+1+1,3,none⟩=some (.bool false)
 f0:W.frozen? ⟨w.heap.size+1+1,0,none⟩=false
 f1:W.frozen? ⟨w.heap.size+1+1,1,none⟩=false
 f2:W.frozen? ⟨w.heap.size+1+1,2,none⟩=false
 f3:W.frozen? ⟨w.heap.size+1+1,3,none⟩=false
 z:w.heap.size+1+1<W.heap.size
theorem RBx.drewN {w W:World} {x:Nat→Int} {o:Opx} (R:RBx w W x o) (n:Nat):RBx w (W.drewN n) x o:=⟨below_drewN R.b n,R.r,R.o0,R.o1,R.o2,R.o3,R.o4,R.a0,R.a1,R.a2,R.a3,R.f0,R.f1,R.f2,R.f3,R.z⟩
theorem RBx.new (w:World) (xs:Array Value) (x:Nat→Int) (hx:∀ i,i<64→xs[i]?=some (.int .u32 (x i))) (o:Opx):RBx w (((w.alloc (.cells xs 100)).alloc (.cells #[.string o.s,.int .i64 o.d,.int .i64 o.a,.int .i64 o.b,.int .u32 o.i,.int .i64 o.t] 139)).alloc (.cells #[.int .u32 0,.int .u32 0,.bool false,.bool false] 214)) x o :=
 ⟨(((Below.refl _ _).alloc (Nat.le_refl _) _).alloc (by simp) _).alloc (by simp;omega) _,fun i hi=>by rw[World.cell?_alloc_past _ _ _ (by simp;omega),World.cell?_alloc_past _ _ _ (by simp),World.cell?_alloc_at _ _ _ _ (by simp)];exact hx i hi,by rw[World.cell?_alloc_past _ _ _ (by simp),World.cell?_alloc_at _ _ _ _ (by simp)];rfl,by rw[World.cell?_alloc_past _ _ _ (by simp),World.cell?_alloc_at _ _ _ _ (by simp)];rfl,by rw[World.cell?_alloc_past _ _ _ (by simp),World.cell?_alloc_at _ _ _ _ (by simp)];rfl,by rw[World.cell?_alloc_past _ _ _ (by simp),World.cell?_alloc_at _ _ _ _ (by simp)];rfl,by rw[World.cell?_alloc_past _ _ _ (by simp),World.cell?_alloc_at _ _ _ _ (by simp)];rfl,by rw[World.cell?_alloc_at _ _ _ _ (by simp)];rfl,by rw[World.cell?_alloc_at _ _ _ _ (by simp)];rfl,by rw[World.cell?_alloc_at _ _ _ _ (by simp)];rfl,by rw[World.cell?_alloc_at _ _ _ _ (by simp)];rfl,World.frozen?_alloc_at _ _ _ _ (by simp),World.frozen?_alloc_at _ _ _ _ (by simp),World.frozen?_alloc_at _ _ _ _ (by simp),World.frozen?_alloc_at _ _ _ _ (by simp),by simp⟩
theorem res_load {w:World} {B:Nat} {a b c d:Value} (z0:w.cell? ⟨B,0,none⟩=some a) (z1:w.cell? ⟨B,1,none⟩=some b) (z2:w.cell? ⟨B,2,none⟩=some c) (z3:w.cell? ⟨B,3,none⟩=some d):(loadVar 214 ⟨B,0,none⟩).run Tryz.prog w=.ok (.agg #[a,b,c,d]) w:=by
 simp[go_sem,z0,z1,z2,z3]
theorem ofs_ne {B i j:Nat} (h:i≠j):(⟨B,i,none⟩:Addr)≠⟨B,j,none⟩:=by intro e;injection e with e1 e2;exact h e2
def put4 (W:World) (B:Nat) (a b c d:Value):World:=(((W.setCell ⟨B,0,none⟩ a).setCell ⟨B,1,none⟩ b).setCell ⟨B,2,none⟩ c).setCell ⟨B,3,none⟩ d
theorem rsP {w W:World} {x:Nat→Int} {o:Opx} (R:RBx w W x o) (a b c d:Value) :
  (loadVar 214 ⟨w.heap.size+1+1,0,none⟩).run Tryz.prog (put4 W (w.heap.size+1+1) a b c d)=.ok (.agg #[a,b,c,d]) (put4 W (w.heap.size+1+1) a b c d)∧Below w.heap.size w (put4 W (w.heap.size+1+1) a b c d):=by
 constructor
 ·have h0:=R.a0
  have h1:=R.a1
  have h2:=R.a2
  have h3:=R.a3
  generalize w.heap.size+1+1=B at *
  unfold put4
  refine res_load ?_ ?_ ?_ ?_
  ·rw[World.cell?_setCell_other _ _ _ _ (ofs_ne (by omega)),World.cell?_setCell_other _ _ _ _ (ofs_ne (by omega)),World.cell?_setCell_other _ _ _ _ (ofs_ne (by omega))];exact World.cell?_setCell_same _ _ _ h0
  ·rw[World.cell?_setCell_other _ _ _ _ (ofs_ne (by omega)),World.cell?_setCell_other _ _ _ _ (ofs_ne (by omega))];exact World.cell?_setCell_same _ _ _ (by rw[World.cell?_setCell_other _ _ _ _ (ofs_ne (by omega))];exact h1)
  ·rw[World.cell?_setCell_other _ _ _ _ (ofs_ne (by omega))];exact World.cell?_setCell_same _ _ _ (by rw[World.cell?_setCell_other _ _ _ _ (ofs_ne (by omega)),World.cell?_setCell_other _ _ _ _ (ofs_ne (by omega))];exact h2)
  ·exact World.cell?_setCell_same _ _ _ (by rw[World.cell?_setCell_other _ _ _ _ (ofs_ne (by omega)),World.cell?_setCell_other _ _ _ _ (ofs_ne (by omega)),World.cell?_setCell_other _ _ _ _ (ofs_ne (by omega))];exact h3)
 ·unfold put4
  exact (((R.b.setCell (by show _≤_+1+1;omega) _).setCell (by show _≤_+1+1;omega) _).setCell (by show _≤_+1+1;omega) _).setCell (by show _≤_+1+1;omega) _
set_option maxHeartbeats 1000000
theorem resultOf_overp (wt:Int→Bool) (m:Nat→Int) (xs:Array Value) (x:Nat→Int) (hx:∀ i,i<64→xs[i]?=some (.int .u32 (x i))) (o:Opx) (hk:kn o.s=21) (ha0:0≤o.a) (ha1:o.a<64) (hb0:0≤o.b) (hb1:o.b<64) (hxb:∀ i,i<64→0≤x i∧x i<4294967296) (mp:Value) (w:World) :
  Calls Tryz.prog 125 #[.agg xs,mp,opV o] w fun e w'=>e=.returned (roV (resZ wt x m o))∧Below w.heap.size w w':=by
 have s23:(o.s.toList==[108,111,97,100])=false:=knF o.s 23 (by omega)
 have s1:(o.s.toList==[115,101,116])=false:=knF o.s 1 (by omega)
 have s2:(o.s.toList==[99,111,112,121])=false:=knF o.s 2 (by omega)
 have s21:(o.s.toList==[111,118,101,114,43])=true:=by rw[show (o.s.toList==[111,118,101,114,43])=_ from kn_eq o.s 21 (by omega) (by omega)];simpa using hk
 have s22:(o.s.toList==[111,118,101,114,45])=false:=knF o.s 22 (by omega)
 have s24:(o.s.toList==[115,116,111,114,101])=false:=knF o.s 24 (by omega)
 have s25:(o.s.toList==[105,102])=false:=knF o.s 25 (by omega)
 have s26:(o.s.toList==[111,117,116])=false:=knF o.s 26 (by omega)
 have s27:(o.s.toList==[111,117,116,114])=false:=knF o.s 27 (by omega)
 have HR:Hid (resZ wt x m o=⟨0,0,ov (sg (x o.a.toNat)+sg (x o.b.toNat)),false⟩):=by show _=_;unfold resZ Opx.k;rw[hk];rfl
 rw[show roV (resZ wt x m o)=_ from congrArg roV HR.out]
 have RB:=RBx.new w xs x hx o
 unfold opV
 have xa:=hxb o.a.toNat (by omega)
 have xbd:=hxb o.b.toNat (by omega)
 have sa:=sg_bd xa.1 xa.2
 have sb:=sg_bd xbd.1 xbd.2
 have h1:=fun w=>sgA (x o.a.toNat) xa.1 xa.2 w
 have h2:=fun w=>sgA (x o.b.toNat) xbd.1 xbd.2 w
 have h3:=fun w=>isS (sg (x o.a.toNat)+sg (x o.b.toNat)) w
 obtain ⟨tr,htr⟩:∃ b,ov (sg (x o.a.toNat)+sg (x o.b.toNat))=b:=⟨_,rfl⟩
 rw[htr]at h3 ⊢
 clear htr hxb
 obtain ⟨sa0,sa1⟩:=sa
 obtain ⟨sb0,sb1⟩:=sb
 clear HR
 go_enter Tryz.func125,Tryz.ntmps125
 go_upto_region 1 with fail
 generalize (((w.alloc (.cells xs 100)).alloc (.cells #[.string o.s,.int .i64 o.d,.int .i64 o.a,.int .i64 o.b,.int .u32 o.i,.int .i64 o.t] 139)).alloc (.cells #[.int .u32 0,.int .u32 0,.bool false,.bool false] 214))=W at *
 have HRB:Hid (RBx w W x o):=RB
 have ra:=RB.r o.a.toNat (by omega)
 have rb:=RB.r o.b.toNat (by omega)
 obtain ⟨_,_,o0,o1,o2,o3,o4,a0,a1,a2,a3,f0,f1,f2,f3,z⟩:=RB
 clear hx hk
 generalize sg (x o.a.toNat)=sga at *
 generalize sg (x o.b.toNat)=sgb at *
 go_wp2_with fail
 refine (h1 _).mono ?_
 rintro e w1 ⟨rfl,hw⟩
 rw[hw]
 clear hw w1 h1
 go_wp2_with fail
 refine (h2 _).mono ?_
 rintro e w2 ⟨rfl,hw⟩
 rw[hw]
 clear hw w2 h2
 go_wp2_with fail
 refine (h3 _).mono ?_
 rintro e w3 ⟨rfl,hw⟩
 rw[hw]
 clear hw w3 h3
 cases tr with
 | false =>
  go_wp2
  obtain ⟨q1,q2⟩:=rsP HRB.out (.int .u32 (0)) (.int .u32 (0)) (.bool (false)) (.bool (false))
  refine bodyPost_ret (r1c (A:=⟨w.heap.size+1+1,0,none⟩) rfl _ _ _ rfl q1) rfl ?_
  exact ⟨rfl,q2⟩
 | true =>
  go_wp2
  obtain ⟨q1,q2⟩:=rsP HRB.out (.int .u32 (0)) (.int .u32 (0)) (.bool (true)) (.bool (false))
  refine bodyPost_ret (r1c (A:=⟨w.heap.size+1+1,0,none⟩) rfl _ _ _ rfl q1) rfl ?_
  exact ⟨rfl,q2⟩
theorem resultOf_overm (wt:Int→Bool) (m:Nat→Int) (xs:Array Value) (x:Nat→Int) (hx:∀ i,i<64→xs[i]?=some (.int .u32 (x i))) (o:Opx) (hk:kn o.s=22) (ha0:0≤o.a) (ha1:o.a<64) (hb0:0≤o.b) (hb1:o.b<64) (hxb:∀ i,i<64→0≤x i∧x i<4294967296) (mp:Value) (w:World) :
  Calls Tryz.prog 125 #[.agg xs,mp,opV o] w fun e w'=>e=.returned (roV (resZ wt x m o))∧Below w.heap.size w w':=by
 have s23:(o.s.toList==[108,111,97,100])=false:=knF o.s 23 (by omega)
 have s1:(o.s.toList==[115,101,116])=false:=knF o.s 1 (by omega)
 have s2:(o.s.toList==[99,111,112,121])=false:=knF o.s 2 (by omega)
 have s21:(o.s.toList==[111,118,101,114,43])=false:=knF o.s 21 (by omega)
 have s22:(o.s.toList==[111,118,101,114,45])=true:=by rw[show (o.s.toList==[111,118,101,114,45])=_ from kn_eq o.s 22 (by omega) (by omega)];simpa using hk
 have s24:(o.s.toList==[115,116,111,114,101])=false:=knF o.s 24 (by omega)
 have s25:(o.s.toList==[105,102])=false:=knF o.s 25 (by omega)
 have s26:(o.s.toList==[111,117,116])=false:=knF o.s 26 (by omega)
 have s27:(o.s.toList==[111,117,116,114])=false:=knF o.s 27 (by omega)
 have HR:Hid (resZ wt x m o=⟨0,0,ov (sg (x o.a.toNat)-sg (x o.b.toNat)),false⟩):=by show _=_;unfold resZ Opx.k;rw[hk];rfl
 rw[show roV (resZ wt x m o)=_ from congrArg roV HR.out]
 have RB:=RBx.new w xs x hx o
 unfold opV
 have xa:=hxb o.a.toNat (by omega)
 have xbd:=hxb o.b.toNat (by omega)
 have sa:=sg_bd xa.1 xa.2
 have sb:=sg_bd xbd.1 xbd.2
 have h1:=fun w=>sgA (x o.a.toNat) xa.1 xa.2 w
 have h2:=fun w=>sgA (x o.b.toNat) xbd.1 xbd.2 w
 have h3:=fun w=>isS (sg (x o.a.toNat)-sg (x o.b.toNat)) w
 obtain ⟨tr,htr⟩:∃ b,ov (sg (x o.a.toNat)-sg (x o.b.toNat))=b:=⟨_,rfl⟩
 rw[htr]at h3 ⊢
 clear htr hxb
 obtain ⟨sa0,sa1⟩:=sa
 obtain ⟨sb0,sb1⟩:=sb
 clear HR
 go_enter Tryz.func125,Tryz.ntmps125
 go_upto_region 1 with fail
 generalize (((w.alloc (.cells xs 100)).alloc (.cells #[.string o.s,.int .i64 o.d,.int .i64 o.a,.int .i64 o.b,.int .u32 o.i,.int .i64 o.t] 139)).alloc (.cells #[.int .u32 0,.int .u32 0,.bool false,.bool false] 214))=W at *
 have HRB:Hid (RBx w W x o):=RB
 have ra:=RB.r o.a.toNat (by omega)
 have rb:=RB.r o.b.toNat (by omega)
 obtain ⟨_,_,o0,o1,o2,o3,o4,a0,a1,a2,a3,f0,f1,f2,f3,z⟩:=RB
 clear hx hk
 generalize sg (x o.a.toNat)=sga at *
 generalize sg (x o.b.toNat)=sgb at *
 go_wp2_with fail
 refine (h1 _).mono ?_
 rintro e w1 ⟨rfl,hw⟩
 rw[hw]
 clear hw w1 h1
 go_wp2_with fail
 refine (h2 _).mono ?_
 rintro e w2 ⟨rfl,hw⟩
 rw[hw]
 clear hw w2 h2
 go_wp2_with fail
 refine (h3 _).mono ?_
 rintro e w3 ⟨rfl,hw⟩
 rw[hw]
 clear hw w3 h3
 cases tr with
 | false =>
  go_wp2
  obtain ⟨q1,q2⟩:=rsP HRB.out (.int .u32 (0)) (.int .u32 (0)) (.bool (false)) (.bool (false))
  refine bodyPost_ret (r1c (A:=⟨w.heap.size+1+1,0,none⟩) rfl _ _ _ rfl q1) rfl ?_
  exact ⟨rfl,q2⟩
 | true =>
  go_wp2
  obtain ⟨q1,q2⟩:=rsP HRB.out (.int .u32 (0)) (.int .u32 (0)) (.bool (true)) (.bool (false))
  refine bodyPost_ret (r1c (A:=⟨w.heap.size+1+1,0,none⟩) rfl _ _ _ rfl q1) rfl ?_
  exact ⟨rfl,q2⟩
theorem resultOf_sum (wt:Int→Bool) (m:Nat→Int) (xs:Array Value) (x:Nat→Int) (hx:∀ i,i<64→xs[i]?=some (.int .u32 (x i))) (o:Opx) (hk:3≤kn o.s∧kn o.s≤16) (ha0:0≤o.a) (ha1:o.a<64) (hb0:0≤o.b) (hb1:o.b<64) (hxb:∀ i,i<64→0≤x i∧x i<4294967296) (mp:Value) (w:World) :
  Calls Tryz.prog 125 #[.agg xs,mp,opV o] w fun e w'=>e=.returned (roV (resZ wt x m o))∧Below w.heap.size w w':=by
 have s23:(o.s.toList==[108,111,97,100])=false:=knF o.s 23 (by omega)
 have s1:(o.s.toList==[115,101,116])=false:=knF o.s 1 (by omega)
 have s2:(o.s.toList==[99,111,112,121])=false:=knF o.s 2 (by omega)
 have s21:(o.s.toList==[111,118,101,114,43])=false:=knF o.s 21 (by omega)
 have s22:(o.s.toList==[111,118,101,114,45])=false:=knF o.s 22 (by omega)
 have s24:(o.s.toList==[115,116,111,114,101])=false:=knF o.s 24 (by omega)
 have s25:(o.s.toList==[105,102])=false:=knF o.s 25 (by omega)
 have s26:(o.s.toList==[111,117,116])=false:=knF o.s 26 (by omega)
 have s27:(o.s.toList==[111,117,116,114])=false:=knF o.s 27 (by omega)
 have HR:Hid (resZ wt x m o=⟨valV (kn o.s) (x o.a.toNat) (x o.b.toNat) (x o.d.toNat) o.i,0,false,false⟩):=by show _=_;unfold resZ Opx.k;rw[if_neg (by omega),if_neg (by omega),if_neg (by omega),if_neg (by omega),if_neg (by omega),if_neg (by omega),if_neg (by omega)]
 rw[show roV (resZ wt x m o)=_ from congrArg roV HR.out]
 have RB:=RBx.new w xs x hx o
 unfold opV
 have xa:=hxb o.a.toNat (by omega)
 have xbd:=hxb o.b.toNat (by omega)
 have hd:=fun w=>isDiv_any o.s w
 have hs:=fun w=>sumOf_any (kn o.s) hk (x o.a.toNat) (x o.b.toNat) (x o.d.toNat) o.i xa.1 xa.2 xbd.1 xbd.2 w
 rw[←kn_word (s:=o.s) (by omega)]at hs
 rw[show dvB (kn o.s)=false by unfold dvB;simp;omega]at hd
 obtain ⟨vv,hvv⟩:∃ v,valV (kn o.s) (x o.a.toNat) (x o.b.toNat) (x o.d.toNat) o.i=v:=⟨_,rfl⟩
 rw[hvv]at hs ⊢
 clear hvv hxb
 clear HR
 go_enter Tryz.func125,Tryz.ntmps125
 go_upto_region 1 with fail
 generalize (((w.alloc (.cells xs 100)).alloc (.cells #[.string o.s,.int .i64 o.d,.int .i64 o.a,.int .i64 o.b,.int .u32 o.i,.int .i64 o.t] 139)).alloc (.cells #[.int .u32 0,.int .u32 0,.bool false,.bool false] 214))=W at *
 have HRB:Hid (RBx w W x o):=RB
 have ra:=RB.r o.a.toNat (by omega)
 have rb:=RB.r o.b.toNat (by omega)
 obtain ⟨_,_,o0,o1,o2,o3,o4,a0,a1,a2,a3,f0,f1,f2,f3,z⟩:=RB
 clear hx hk
 go_wp2_with fail
 refine (hd _).mono ?_
 rintro e w1 ⟨rfl,hw⟩
 rw[hw]
 clear hw w1 hd
 go_wp2_with fail
 refine (hs _).mono ?_
 rintro e w1 ⟨rfl,hw⟩
 rw[hw]
 clear hw w1 hs
 go_wp2
 obtain ⟨q1,q2⟩:=rsP HRB.out (.int .u32 (vv)) (.int .u32 (0)) (.bool (false)) (.bool (false))
 refine bodyPost_ret (r1c (A:=⟨w.heap.size+1+1,0,none⟩) rfl _ _ _ rfl q1) rfl ?_
 exact ⟨rfl,q2⟩
def xsA (X:Nat→Int):Array Value:=((List.range 64).map fun j=>Value.int .u32 (X j)).toArray
theorem xsA_get (X:Nat→Int) (i:Nat) (h:i<64):(xsA X)[i]?=some (.int .u32 (X i)):=by unfold xsA;rw[List.getElem?_toArray,List.getElem?_map,List.getElem?_range h];rfl
theorem MBox.load {w:World} {mb:Nat} {X:Nat→Int} {p:Value} (M:MBox w mb X p):(loadVar 100 ⟨mb,0,none⟩).run Tryz.prog w=.ok (.agg (xsA X)) w :=
 run_loadVar_mid w mb 0 100 ((List.range 64).map fun j=>Value.int .u32 (X j)) _ (fun j u hu=>by
  have hj:j<64:=by have:=(List.getElem?_eq_some_iff.1 hu).1;simpa using this
  rw[Nat.zero_add,M.c j hj]
  rw[List.getElem?_map,List.getElem?_range hj]at hu
  exact hu) Tryz.underlying100 rfl (by show _=some 64;kernel_rfl)
theorem exec_loadT {ρ:Operand→Value} {o:Oper} {x:Operand} {sb:Nat} {v:Value} {t:TypeId} (ho:o.op=.load t x) (hx:ρ x=.pointer (some ⟨sb,0,none⟩)) (W:World) (hl:(loadVar t ⟨sb,0,none⟩).run Tryz.prog W=.ok v W):(execOp ρ o).run Tryz.prog W=.ok (.value v) W:=by
 have hs:(Instr.sureAddr (.pointer (some ⟨sb,0,none⟩))).run Tryz.prog W=.ok ⟨sb,0,none⟩ W:=by simp[Instr.sureAddr]
 have h:(Instr.loadAt t (.pointer (some ⟨sb,0,none⟩))).run Tryz.prog W=.ok v W:=by unfold Instr.loadAt;rw[Sem.run_bind,hs,Result.andThen_ok];exact hl
 unfold execOp
 simp only[ho,hx,Sem.run_bind,h,Result.andThen_ok]
 rfl
structure Kept (w w':World) (X:Nat→Prop):Prop where
 os:w'.os=w.os
 tape:w'.tape=w.tape
 output:w'.output=w.output
 size:w.heap.size≤w'.heap.size
 block:∀ k,k<w.heap.size→¬ X k→w'.heap[k]?=w.heap[k]?
theorem Kept.refl (w:World) (X:Nat→Prop):Kept w w X:=⟨rfl,rfl,rfl,Nat.le_refl _,fun _ _ _=>rfl⟩
theorem Kept.trans {w w1 w2:World} {X Y:Nat→Prop} (a:Kept w w1 X) (b:Kept w1 w2 Y) (h:∀ k,k<w.heap.size→Y k→X k):Kept w w2 X :=
 ⟨b.os.trans a.os,b.tape.trans a.tape,b.output.trans a.output,Nat.le_trans a.size b.size,fun k hk hx=>(b.block k (Nat.lt_of_lt_of_le hk a.size) (fun hy=>hx (h k hk hy))).trans (a.block k hk hx)⟩
theorem Kept.mono {w w':World} {X Y:Nat→Prop} (a:Kept w w' X) (h:∀ k,X k→Y k):Kept w w' Y:=⟨a.os,a.tape,a.output,a.size,fun k hk hy=>a.block k hk (fun hx=>hy (h k hx))⟩
theorem Kept.of_below {w w':World} (X:Nat→Prop) (h:Below w.heap.size w w'):Kept w w' X:=⟨h.os,h.tape,h.output,h.size,fun k hk _=>h.block k hk⟩
theorem Kept.setCell (w:World) (a:Addr) (v:Value) (X:Nat→Prop) (h:X a.block):Kept w (w.setCell a v) X :=
 ⟨rfl,rfl,rfl,by simp,fun k _ hx=>Below.heap_setCell w a v k (fun e=>hx (e▸h))⟩
theorem Kept.put {w w1:World} {sb:Nat} (h:Kept w w1 (·=sb)) (j:Nat) (v:Value):Kept w (w1.setCell ⟨sb,j,none⟩ v) (·=sb) :=
 h.trans (Kept.setCell w1 ⟨sb,j,none⟩ v (·=sb) rfl) (fun _ _ h=>h)
theorem Kept.drew (w:World) (X:Nat→Prop):Kept w w.drew X:=⟨rfl,rfl,rfl,Nat.le_refl _,fun _ _ _=>rfl⟩
theorem Kept.cell {w w':World} {X:Nat→Prop} (h:Kept w w' X) {a:Addr} {v:Value} (hc:w.cell? a=some v) (hx:¬ X a.block):w'.cell? a=some v :=
 (World.cell?_of_block (h.block _ (World.block_lt_of_cell? _ _ hc) hx)).trans hc
theorem Kept.below {w0 w w':World} {B:Nat} {X:Nat→Prop} (h:Kept w w' X) (h0:Below B w0 w) (hB:B≤w0.heap.size) (hx:∀ k,k<B→¬ X k):Below B w0 w' :=
 ⟨h.os.trans h0.os,h.tape.trans h0.tape,h.output.trans h0.output,Nat.le_trans h0.size h.size,fun k hk=>(h.block k (by have:=h0.size;omega) (hx k hk)).trans (h0.block k hk)⟩
theorem StAt.kept {w w':World} {sb:Nat} {S:St} {X:Nat→Prop} (h:StAt w sb S) (k:Kept w w' X) (hx:¬ X sb):StAt w' sb S:=h.block (k.block _ h.lt hx)
theorem StAt.putPc {w:World} {sb:Nat} {S:St} (h:StAt w sb S) (x:Int):StAt (w.setCell ⟨sb,34,none⟩ (.int .u32 x)) sb { S with pc:=x } :=
 h.put (by omega) rfl fun i hi hn=>by simp[stV,hn]
theorem StAt.putNx {w:World} {sb:Nat} {S:St} (h:StAt w sb S) (x:Int):StAt (w.setCell ⟨sb,35,none⟩ (.int .u32 x)) sb { S with nx:=x } :=
 h.put (by omega) rfl fun i hi hn=>by simp[stV,hn]
theorem StAt.putSl {w:World} {sb:Nat} {S:St} (h:StAt w sb S) (x:Bool):StAt (w.setCell ⟨sb,36,none⟩ (.bool x)) sb { S with sl:=x } :=
 h.put (by omega) rfl fun i hi hn=>by simp[stV,hn]
theorem StAt.putHi {w:World} {sb:Nat} {S:St} (h:StAt w sb S) (x:Int):StAt (w.setCell ⟨sb,32,none⟩ (.int .u32 x)) sb { S with hi:=x } :=
 h.put (by omega) rfl fun i hi hn=>by simp[stV,hn]
theorem StAt.putLo {w:World} {sb:Nat} {S:St} (h:StAt w sb S) (x:Int):StAt (w.setCell ⟨sb,33,none⟩ (.int .u32 x)) sb { S with lo:=x } :=
 h.put (by omega) rfl fun i hi hn=>by simp[stV,hn]
theorem StAt.putSt {w:World} {sb:Nat} {S:St} (h:StAt w sb S) (x:Int):StAt (w.setCell ⟨sb,37,none⟩ (.int .u32 x)) sb { S with st:=x } :=
 h.put (by omega) rfl fun i hi hn=>by simp[stV,hn]
theorem StAt.putEp {w:World} {sb:Nat} {S:St} (h:StAt w sb S) (x:Int):StAt (w.setCell ⟨sb,39,none⟩ (.int .u32 x)) sb { S with ep:=x } :=
 h.put (by omega) rfl fun i hi hn=>by simp[stV,hn]
theorem StAt.putBd {w:World} {sb:Nat} {S:St} (h:StAt w sb S) (x:Int):StAt (w.setCell ⟨sb,40,none⟩ (.int .u32 x)) sb { S with bd:=x } :=
 h.put (by omega) rfl fun i hi hn=>by simp[stV,hn]
theorem StAt.putCm {w:World} {sb:Nat} {S:St} (h:StAt w sb S) (x:Int):StAt (w.setCell ⟨sb,41,none⟩ (.int .u32 x)) sb { S with cm:=x } :=
 h.put (by omega) rfl fun i hi hn=>by simp[stV,hn]
theorem StAt.putCt {w:World} {sb:Nat} {S:St} (h:StAt w sb S) (x:Int):StAt (w.setCell ⟨sb,42,none⟩ (.int .i64 x)) sb { S with ct:=x } :=
 h.put (by omega) rfl fun i hi hn=>by unfold stV;by_cases h1:i<32<;>by_cases h2:i=32<;>by_cases h3:i=33<;>by_cases h4:i=34<;>by_cases h5:i=35<;>by_cases h6:i=36<;>by_cases h7:i=37<;>by_cases h8:i=38<;>by_cases h9:i=39<;>by_cases h10:i=40<;>by_cases h11:i=41<;>first|(exfalso;omega)|simp[h1,h2,h3,h4,h5,h6,h7,h8,h9,h10,h11]
theorem StAt.putR {w:World} {sb:Nat} {S:St} (h:StAt w sb S) (n:Nat) (hn:n<32) (x:Int):StAt (w.setCell ⟨sb,n,none⟩ (.int .u32 x)) sb { S with r:=fun i=>if i=n then x else S.r i } :=
 h.put (by omega) (by unfold stV;rw[if_pos hn];simp) fun i hi hne=>by simp[stV,hne]
section
variable {w : World} {pb sb bb : Nat} {S : St} {k s t d : Nat} {m : Int}
end
structure RowsIn (w:World) (v:Value) (ll:List (List Opx)):Prop where
 sh:∃ ao cap,v=.slice ao ll.length cap∧ll.length≤cap∧(0<ll.length→∃ b,ao=some ⟨b,0,none⟩∧∀ i l,ll[i]?=some l→∃ u,w.cell? ⟨b,i,none⟩=some u∧OpsIn w u l)
theorem RowsIn.stays {w w':World} {v:Value} {ll:List (List Opx)} (R:RowsIn w v ll) (h:Below w.heap.size w w'):RowsIn w' v ll:=by
 obtain ⟨ao,cap,e,hcp,hh⟩:=R.sh
 exact ⟨ao,cap,e,hcp,fun hp=>let ⟨b,eb,hc⟩:=hh hp;⟨b,eb,fun i l hi=>let ⟨u,hu,hO⟩:=hc i l hi;⟨u,(h.cell (World.block_lt_of_cell? _ _ hu)).trans hu,hO.stays h⟩⟩⟩
def Ones (w:World) (vo:Value) (us:List Value) (l:List Opx):Prop:=us.length=l.length∧∀ (k:Nat) (u:Value) (o:Opx),us[k]?=some u→l[k]?=some o→∃ g,u=.slice (some ⟨g,0,none⟩) 1 1∧OpsIn w u [o]∧vo.ownBlock≠some g∧g<w.heap.size
theorem OpsIn.block1 {w w':World} {g:Nat} {o:Opx} (A:OpsIn w (.slice (some ⟨g,0,none⟩) 1 1) [o]) (h:w'.heap[g]?=w.heap[g]?):OpsIn w' (.slice (some ⟨g,0,none⟩) 1 1) [o]:=by
 obtain ⟨ao,cap,e,hc,hh⟩:=A.sh
 injection e with e1 e2 e3
 subst e1
 subst e3
 refine ⟨⟨some ⟨g,0,none⟩,1,rfl,hc,fun hp=>?_⟩,A.ok⟩
 obtain ⟨b,off,e,hcell⟩:=hh hp
 injection e with e
 injection e with e1 e2
 subst e1
 subst e2
 exact ⟨g,0,rfl,fun i o hi j u hu=>(World.cell?_of_block (a:=⟨g,0+i*6+j,none⟩) h).trans (hcell i o hi j u hu)⟩
theorem ones_new (w:World) (o:Opx) (ok:o.ok):OpsIn (w.alloc (.cells #[.string o.s,.int .i64 o.d,.int .i64 o.a,.int .i64 o.b,.int .u32 o.i,.int .i64 o.t] 139)) (.slice (some ⟨w.heap.size,0,none⟩) 1 1) [o]:=by
 refine ⟨⟨some ⟨w.heap.size,0,none⟩,1,rfl,by simp,fun _=>⟨w.heap.size,0,rfl,fun i o' hi j u hu=>?_⟩⟩,fun o' ho=>by rw[List.mem_singleton.1 ho];exact ok⟩
 cases i with
 | zero =>
  obtain rfl:o=o':=by simpa using hi
  rw[show 0+0*6+j=j by omega,bcD]
  rw[List.getElem?_toArray]
  exact hu
 | succ i=>simp at hi
theorem Ones.snoc {w W w':World} {vo vo':Value} {us:List Value} {l:List Opx} {o:Opx} (H:Ones w vo us l) (hv:∀ k,vo.ownBlock=some k→k<w.heap.size) (hW:Below w.heap.size w W) (g:Nat) (hg:w.heap.size≤g) (hg2:g<W.heap.size) (hO:OpsIn W (.slice (some ⟨g,0,none⟩) 1 1) [o]) (hgr:W.grownBy w' vo.ownBlock) (hm:Moved W vo vo') :
  Ones w' vo' (us++[.slice (some ⟨g,0,none⟩) 1 1]) (l++[o]):=by
 have hsz:=hgr.size
 have blk:∀ k,k<W.heap.size→vo.ownBlock≠some k→w'.heap[k]?=W.heap[k]?:=fun k hk hne=>hgr.block k hk (Ne.symm hne)
 have nv:∀ k,k<W.heap.size→vo.ownBlock≠some k→vo'.ownBlock≠some k:=fun k hk hne h=>by
  rcases hm k h with h|h
  ·exact hne h
  ·omega
 have hgo:vo.ownBlock≠some g:=fun h=>by have:=hv g h;omega
 refine ⟨by simp[H.1],fun k u o' hu ho=>?_⟩
 by_cases hk:k<us.length
 ·rw[List.getElem?_append_left hk]at hu
  rw[List.getElem?_append_left (by rw[←H.1];exact hk)]at ho
  obtain ⟨a,ea,hA,hn,hl⟩:=H.2 k u o' hu ho
  subst ea
  have hl2:a<W.heap.size:=by have:=hW.size;omega
  exact ⟨a,rfl,(hA.stays hW).block1 (blk a hl2 hn),nv a hl2 hn,by omega⟩
 ·rw[List.getElem?_append_right (by omega)]at hu
  rw[List.getElem?_append_right (by rw[←H.1];omega),←H.1]at ho
  have h0:k-us.length=0:=by
   rcases Nat.eq_zero_or_pos (k-us.length) with h|h
   ·exact h
   ·rw[List.getElem?_eq_none (by simp;omega)]at hu;cases hu
  rw[h0]at hu ho
  obtain rfl:Value.slice (some ⟨g,0,none⟩) 1 1=u:=by simpa using hu
  obtain rfl:o=o':=by simpa using ho
  exact ⟨g,rfl,hO.block1 (blk g hg2 hgo),nv g hg2 hgo,by omega⟩
theorem infoOps:(Tryz.prog.info? 52).map (fun i=>(i.zero,i.size,i.bytes))=some (some (.slice none 0 0),1,24):=by kernel_rfl
theorem Ones.rows {w:World} {base:Nat} {vo:Value} {us:List Value} {l:List Opx} (H:Ones w vo us l) (ho:w.ownsRow base 52 1 vo us.length us):RowsIn w vo (eachL l):=by
 have hlen:(eachL l).length=us.length:=by unfold eachL;rw[List.length_map,H.1]
 obtain ⟨h1,h2⟩:=ho
 rcases h2 with ⟨hv,hn⟩|⟨g,cap,cur,hv,hb,hg,hr⟩
 ·exact ⟨none,0,by rw[hv,hlen,hn],by omega,fun hp=>by omega⟩
 ·obtain ⟨r1,r2,r3,r4⟩:=hr
  refine ⟨some ⟨g,0,none⟩,cap,by rw[hv,hlen],by omega,fun _=>⟨g,rfl,fun i row hi=>?_⟩⟩
  have hil:i<us.length:=by rw[←hlen];exact (List.getElem?_eq_some_iff.1 hi).1
  obtain ⟨o,ho,rfl⟩:∃ o,l[i]?=some o∧[o]=row:=by
   unfold eachL at hi
   rw[List.getElem?_map]at hi
   cases hx:l[i]? with
   | none=>rw[hx]at hi;cases hi
   | some o=>rw[hx]at hi;exact ⟨o,rfl,by simpa using hi⟩
  obtain ⟨u,hu⟩:∃ u,us[i]?=some u:=⟨_,List.getElem?_eq_getElem hil⟩
  obtain ⟨a,rfl,hA,_,_⟩:=H.2 i u o hu ho
  refine ⟨_,?_,hA⟩
  rw[cell_of_row _ _ _ _ _ _ hg]
  have:(cur.toList.take (us.length*1))[i]?=some (.slice (some ⟨a,0,none⟩) 1 1):=by rw[r4];exact hu
  rw[List.getElem?_take,if_pos (by omega)]at this
  rw[←Array.getElem?_toList];exact this
theorem own_at {w:World} {base:Nat} {e:TypeId} {size n:Nat} {v:Value} {xs:List Value} (h:w.ownsRow base e size v n xs):∀ k,v.ownBlock=some k→k<w.heap.size∧base≤k:=by
 intro k hk
 rcases h.2 with ⟨hv,_⟩|⟨g,cap,cur,hv,hb,hg,_⟩
 ·subst hv;cases hk
 ·subst hv
  obtain rfl:g=k:=by simpa [Value.ownBlock] using hk
  exact ⟨(Array.getElem?_eq_some_iff.1 hg).1,hb⟩
set_option maxHeartbeats 1000000
def hitN (wt ht:Int→Bool) (a:Int):Int→Bool:=fun p=>ht p||(wt p&&decide (p=a/256))
theorem DMem.blk {w w':World} {rb gb kb hb:Nat} {m:Nat→Int} {wt ht:Int→Bool} (D:DMem w rb gb kb hb m wt ht) (h:∀ k,k=rb∨k=gb∨k=kb∨k=hb→w'.heap[k]?=w.heap[k]?):DMem w' rb gb kb hb m wt ht:=by
 have c:∀ (k j:Nat) (v:Value),k=rb∨k=gb∨k=kb∨k=hb→w.cell? ⟨k,j,none⟩=some v→w'.cell? ⟨k,j,none⟩=some v:=fun k j v hk e=>(World.cell?_of_block (a:=⟨k,j,none⟩) (h k hk)).trans e
 have f:∀ (k j:Nat),k=rb∨k=gb∨k=kb∨k=hb→w.frozen? ⟨k,j,none⟩=false→w'.frozen? ⟨k,j,none⟩=false:=fun k j hk e=>(World.frozen?_of_block (a:=⟨k,j,none⟩) (h k hk)).trans e
 exact ⟨D.d.blocks (fun k hk=>h k (by rcases hk with h|h|h<;>simp[h])),c _ _ _ (by simp) D.c2,fun p hp=>c _ _ _ (by simp) (D.hc p hp),fun p=>f _ _ (by simp) (D.fk p),fun p=>f _ _ (by simp) (D.fh p),D.ng,D.nr,D.nk,D.kr,fun p=>f _ _ (by simp) (D.fr p)⟩
theorem DMem.lts {w:World} {rb gb kb hb:Nat} {m:Nat→Int} {wt ht:Int→Bool} (D:DMem w rb gb kb hb m wt ht) {k:Nat} (h:k=rb∨k=gb∨k=kb∨k=hb):k<w.heap.size:=by
 rcases h with h|h|h|h
 ·exact D.d.lt (Or.inl h)
 ·exact D.d.lt (Or.inr (Or.inl h))
 ·exact D.d.lt (Or.inr (Or.inr h))
 ·subst h;exact World.block_lt_of_cell? _ _ (D.hc 0 (by omega))
theorem DMem.words {w w':World} {rb gb kb hb:Nat} {m m':Nat→Int} {wt ht:Int→Bool} (D:DMem w rb gb kb hb m wt ht) (d:DRam w' rb gb kb m' wt) (g:w.grownBy w' (some gb)):DMem w' rb gb kb hb m' wt ht:=by
 have h:∀ k,k=rb∨k=kb∨k=hb→w'.heap[k]?=w.heap[k]?:=fun k hk=>g.block k (D.lts (by rcases hk with h|h|h<;>simp[h])) (by
  have a1:=D.d.nr;have a2:=D.d.nk;have a3:=D.ng
  rcases hk with rfl|rfl|rfl<;>simp<;>omega)
 have c:∀ (k j:Nat) (v:Value),k=rb∨k=kb∨k=hb→w.cell? ⟨k,j,none⟩=some v→w'.cell? ⟨k,j,none⟩=some v:=fun k j v hk e=>(World.cell?_of_block (a:=⟨k,j,none⟩) (h k hk)).trans e
 have f:∀ (k j:Nat),k=rb∨k=kb∨k=hb→w.frozen? ⟨k,j,none⟩=false→w'.frozen? ⟨k,j,none⟩=false:=fun k j hk e=>(World.frozen?_of_block (a:=⟨k,j,none⟩) (h k hk)).trans e
 exact ⟨d,c _ _ _ (by simp) D.c2,fun p hp=>c _ _ _ (by simp) (D.hc p hp),fun p=>f _ _ (by simp) (D.fk p),fun p=>f _ _ (by simp) (D.fh p),D.ng,D.nr,D.nk,D.kr,fun p=>f _ _ (by simp) (D.fr p)⟩
theorem kept_grown {w w':World} {g:Nat} (h:w.grownBy w' (some g)):Kept w w' (·=g):=⟨h.os,h.tape,h.output,h.size,fun k hk hx=>h.block k hk (by intro e;exact hx (Option.some.inj e))⟩
theorem DMem.hit {w:World} {rb gb kb hb:Nat} {m:Nat→Int} {wt ht:Int→Bool} (D:DMem w rb gb kb hb m wt ht) (j:Nat) (hj:j<64) (ht':Int→Bool) (h:∀ p:Nat,p<64→ht' p=if p=j then true else ht p):DMem (w.setCell ⟨hb,j,none⟩ (.bool true)) rb gb kb hb m wt ht' :=
 (D.flagH j hj true ht' h).blk fun k _=>rfl
theorem dstoreH_ok {w:World} {rb gb kb hb:Nat} {m:Nat→Int} {wt ht:Int→Bool} (M:DMem w rb gb kb hb m wt ht) (a s v:Int) (h0:0≤a) (h1:a<4294967296) (v0:0≤v) (v1:v<4294967296) (hc:chk a s=0):Calls Tryz.prog 12 #[.pointer (some ⟨rb,0,none⟩),.int .u32 a,.int .i64 s,.int .u32 v] w fun e w'=>e=.returned (.int .i64 0)∧DMem w' rb gb kb hb (upd m a s v) wt (hitN wt ht a)∧Kept w w' (fun k=>k=gb∨k=hb):=by
 obtain ⟨hs,hm,hf⟩:=chk_ok hc
 have hre:=reach_any a s h0 h1 (by omega) (by omega) w
 rw[rc_ok hc]at hre
 have s0:1≤s:=by omega
 have s1:s≤4:=by omega
 have hgo:a+s≤16384:=by rcases hs with rfl|rfl|rfl<;>omega
 have HP:Hid (puts m a s v s.toNat=upd m a s v):=puts_all m a s v h0 hs hm v0 v1 M.d.mb
 have DH:Hid (DRam w rb gb kb m wt):=M.d
 have MH:Hid (DMem w rb gb kb hb m wt ht):=M
 clear M hc hm hs
 go_enter Tryz.func12,Tryz.ntmps12
 go_wp2_with fail
 refine hre.mono ?_
 rintro e w' ⟨rfl,rfl⟩
 clear hre
 go_wp2_with fail
 go_loopw [10] (fun i wr=>∃ j:Nat,(j:Int)≤s∧i=.int .i64 j∧Hid (DRam wr rb gb kb (puts m a s v j) wt)∧Hid (w'.grownBy wr (some gb))) (fun i _=>s.toNat-(intOf i).toNat)
 case atStart=>exact ⟨0,by omega,rfl,DH.out,dgrown_refl _ _⟩
 case round =>
  obtain ⟨j,hj,rfl,DR,GR⟩:=hrel
  by_cases hlt:(j:Int)<s
  ·have hpa:=part_any v (8*(s-1-j)) 8 v0 v1 (by omega) (by omega) (by omega) (by omega) wr
   rw[pw8,pw_b s j (by omega) (by omega)]at hpa
   have hb:0≤bOf v s j∧bOf v s j<256:=by unfold bOf;omega
   have hpu:=put_any DR.out (a+j) (bOf v s j) (by omega) (by omega) hb.1 hb.2
   have e:v/2^(8*(s-1-(j:Int))).toNat%256=bOf v s j:=rfl
   rw[e]at hpa
   have HN:Hid (puts m a s v (j+1)=upd (puts m a s v j) (a+j) 1 (bOf v s j)):=rfl
   clear e
   generalize bOf v s j=bo at *
   obtain ⟨b0,b1⟩:=hb
   go_wp2_with fail
   refine hpa.mono ?_
   rintro e w'' ⟨rfl,rfl⟩
   clear hpa
   go_wp2_with fail
   refine hpu.mono ?_
   rintro e w2 ⟨rfl,D2,G2⟩
   clear hpu
   go_wp2
   go_roundw
   case rel=>exact ⟨j+1,by omega,by go_num,by show DRam _ _ _ _ _ _;rw[HN.out];exact D2,dgrown_trans GR.out G2⟩
   case measure=>simp[intOf];omega
  ·have hjn:j=s.toNat:=by omega
   have D2:Hid (DRam wr rb gb kb (upd m a s v) wt):=by show DRam _ _ _ _ _ _;rw[←HP.out,←hjn];exact DR.out
   have M2:Hid (DMem wr rb gb kb hb (upd m a s v) wt ht):=MH.out.words D2.out GR.out
   have c1:=D2.out.c1
   have c2:=M2.out.c2
   have hw:=D2.out.wc (a/256).toNat (by omega)
   have hh:=M2.out.hc (a/256).toNat (by omega)
   have hz:=M2.out.fh (a/256).toNat
   rw[show (((a/256).toNat:Nat):Int)=a/256 by omega]at hw hh
   have KR:Hid (Kept w' wr (fun k=>k=gb∨k=hb)):=(kept_grown GR.out).mono fun k h=>Or.inl h
   have hb1:(a/256).toNat<64:=by omega
   clear DR hjn HP GR D2 DH
   cases hwt:wt (a/256) with
   | false =>
    rw[hwt]at hw
    have F:Hid (DMem wr rb gb kb hb (upd m a s v) wt (hitN wt ht a)):=M2.out.same (fun _ _=>rfl) (fun p hp=>by
     unfold hitN
     by_cases e:(p:Int)=a/256
     ·rw[e,hwt];simp
     ·simp[e])
    clear hwt
    go_wp2
    go_ret
    exact ⟨rfl,F.out,KR.out⟩
   | true =>
    rw[hwt]at hw
    have F:Hid (DMem (wr.setCell ⟨hb,(a/256).toNat,none⟩ (.bool true)) rb gb kb hb (upd m a s v) wt (hitN wt ht a)):=M2.out.hit (a/256).toNat hb1 _ (fun p hp=>by
     unfold hitN
     by_cases e:p=(a/256).toNat
     ·rw[if_pos e,show (p:Int)=a/256 by omega,hwt];simp
     ·rw[if_neg e,show decide ((p:Int)=a/256)=false by simp;omega];simp)
    have K2:Hid (Kept w' (wr.setCell ⟨hb,(a/256).toNat,none⟩ (.bool true)) (fun k=>k=gb∨k=hb)):=KR.out.trans (Kept.setCell wr ⟨hb,(a/256).toNat,none⟩ _ (·=hb) rfl) (fun k _ h=>Or.inr h)
    clear hwt
    go_wp2
    go_ret
    exact ⟨rfl,F.out,K2.out⟩
end Go.Proofs.YtflagpkmebdckaaGreatDoor
namespace Go.Proofs.YtflagpkmebdckaaGreatDoor.K
open Go.RowKit Go.Extern.Stop Go.Stop Go.Extern
open Num Tab
set_option linter.unusedVariables false
end Go.Proofs.YtflagpkmebdckaaGreatDoor.K
namespace Go.Proofs.YtflagpkmebdckaaGreatDoor
open Go.RowKit Go.Maps
open Num
set_option linter.unusedVariables false
set_option maxRecDepth 100000
set_option maxHeartbeats 1000000
theorem longPl_any {w:World} {ps:Array Value} {ao:Option Addr} {n cap:Nat} {ct:Int} (h43:ps[43]?=some (.slice ao n cap)) (h42:ps[42]?=some (.int .i64 ct)) :
  Calls Tryz.prog 17 #[.agg ps] w fun e w'=>e=.returned (.bool (decide (200<(n:Int))||decide (ct<0)||decide (1099511627776<ct)))∧Below w.heap.size w w':=by
 have B0:Hid (Below w.heap.size w (w.alloc (.cells ps 50))):=(Below.refl _ _).alloc (Nat.le_refl _) _
 have c43:(w.alloc (.cells ps 50)).cell? ⟨w.heap.size,43,none⟩=some (.slice ao n cap):=by rw[World.cell?_alloc_at _ _ _ _ rfl];exact h43
 have c42:(w.alloc (.cells ps 50)).cell? ⟨w.heap.size,42,none⟩=some (.int .i64 ct):=by rw[World.cell?_alloc_at _ _ _ _ rfl];exact h42
 clear h43 h42
 obtain ⟨R,hR⟩:∃ R,(decide (200<(n:Int))||decide (ct<0)||decide (1099511627776<ct))=R:=⟨_,rfl⟩
 have HR:Hid ((decide (200<(n:Int))||decide (ct<0)||decide (1099511627776<ct))=R):=hR
 rw[hR]
 clear hR
 go_enter Tryz.func17,Tryz.ntmps17
 go_upto_region 1 with fail
 generalize w.alloc (.cells ps 50)=W at *
 have q0:=World.block_lt_of_cell? _ _ c43
 by_cases h1:200<(n:Int)
 ·have E:Hid (R=true):=by show _=_;rw[←HR.out];simp[h1]
  clear HR
  go_wp2
  go_ret
  exact ⟨by rw[E.out];rfl,B0.out⟩
 by_cases h2:ct<0
 ·have E:Hid (R=true):=by show _=_;rw[←HR.out];simp[h2]
  clear HR
  go_wp2
  go_ret
  exact ⟨by rw[E.out];rfl,B0.out⟩
 by_cases h3:1099511627776<ct
 ·have E:Hid (R=true):=by show _=_;rw[←HR.out];simp[h3]
  clear HR
  go_wp2
  go_ret
  exact ⟨by rw[E.out];rfl,B0.out⟩
 ·have E:Hid (R=false):=by show _=_;rw[←HR.out];simp[h1,h2,h3]
  clear HR
  go_wp2
  go_ret
  exact ⟨by rw[E.out];rfl,B0.out⟩
end Go.Proofs.YtflagpkmebdckaaGreatDoor
