
import Derived.Test.YtflagpkmebdckaaGreatDoorKApp
import Derived.Test.YtflagpkmebdckaaGreatDoorKOptFns
import Derived.Test.YtflagpkmebdckaaGreatDoorKLowPure
import Derived.Test.YtflagpkmebdckaaGreatDoorKRunPure
import Derived.Test.YtflagpkmebdckaaGreatDoorKPlPure
import Derived.Test.YtflagpkmebdckaaGreatDoorKPl4
namespace Go.Proofs.YtflagpkmebdckaaGreatDoor
open Go.RowKit Go.Maps
open Num
set_option linter.unusedVariables false
theorem end_putG {W:World} {B:Nat} {u0 u1:Value} (z0:W.cell? ⟨B,0,none⟩=some u0) (z1:W.cell? ⟨B,1,none⟩=some u1) (v0 v1:Value):((W.setCell ⟨B,0,none⟩ v0).setCell ⟨B,1,none⟩ v1).cell? ⟨B,0,none⟩=some v0∧((W.setCell ⟨B,0,none⟩ v0).setCell ⟨B,1,none⟩ v1).cell? ⟨B,1,none⟩=some v1:=by
 have a1:=World.cell?_setCell_same W ⟨B,0,none⟩ v0 z0
 have a2:(W.setCell ⟨B,0,none⟩ v0).cell? ⟨B,1,none⟩=some u1:=by rw[World.cell?_setCell_other _ _ _ _ (by intro e;injection e with e1 e2;omega)];exact z1
 exact ⟨by rw[World.cell?_setCell_other _ _ _ _ (by intro e;injection e with e1 e2;omega)];exact a1,World.cell?_setCell_same _ _ _ a2⟩
theorem end_loadG {w:World} {B:Nat} {a b:Value} (z0:w.cell? ⟨B,0,none⟩=some a) (z1:w.cell? ⟨B,1,none⟩=some b):(loadVar 84 ⟨B,0,none⟩).run Tryz.prog w=.ok (.agg #[a,b]) w:=by
 simp[go_sem,z0,z1]
section
variable {w : World} {base mb stb sb bp bw bh N : Nat} {X : Nat → Int} {p : List Pq} {vi : Value} {m : Nat → Int} {wt ht : Int → Bool}
end
structure EfOk (wt:Int→Bool) (o:Opx) (ro:Ro) (E:Ef):Prop where
 r0:0≤E.r
 r1:E.r<64
 v:u32 E.v
 s:E.s=0∨E.r=0∧Pend.ok ⟨E.a,E.s,E.sv⟩
 x:∀ (Y l:Nat→Int) (lv:Int),doX E Y=(appZ ⟨Y,l,lv⟩ o ro).x
 m:∀ (mm:Nat→Int) (L:List Pend) (Y:Nat→Int) (lv:Int),vw mm (doP E L)=(appZ ⟨Y,vw mm L,lv⟩ o ro).m
 w:E.s≠0→wt (E.a/256)=false
 lv:E.lv=ro.leave
 to:ro.leave=true→E.to=ro.a
theorem wr_val {o:Opx} (h:1≤o.k∧o.k≤20∨o.k=23):wrX o=o.d:=by unfold wrX rD;rw[if_pos (by rw[if_pos h])]
theorem wr_none {o:Opx} (h:o.k=21∨o.k=22∨24≤o.k):wrX o=0:=by
 unfold wrX rD
 rw[if_neg]
 rw[if_neg (by omega)]
 split<;>omega
theorem efOk {o:Opx} {many:Int} (hw:opE o many=0) (ok:o.ok) {wt:Int→Bool} {X M:Nat→Int} (hX:∀ i,i<64→0≤X i∧X i<4294967296) (mb:∀ i,0≤M i∧M i<4294967296) (ht:(resZ wt X M o).trap=false):EfOk wt o (resZ wt X M o) (efO o (resZ wt X M o)):=by
 obtain ⟨vbd,abd⟩:=resZ_bd (wt:=wt) ok hw hX mb
 obtain ⟨k0,_,_,_,hd,_⟩:=opE_flds hw
 have k0:o.k≠0:=k0
 have hlt:o.k<28:=kn_lt o.s
 have z:u32 0:=⟨by omega,by omega⟩
 have hcs:(1≤o.k∧o.k≤20∨o.k=23)∨(o.k=21∨o.k=22)∨o.k=24∨25≤o.k:=by omega
 rcases hcs with hk|hk|hk|hk
 ·have hE:efO o (resZ wt X M o)=⟨o.d,(resZ wt X M o).v,0,0,0,false,0⟩:=by unfold efO;rw[if_neg (by omega),if_neg (by omega),if_neg (by omega)]
  have hdd:=hd hk
  have hwr:=wr_val hk
  have hlv:(resZ wt X M o).leave=false:=by
   rcases hk with hk|hk
   ·rw[resZ_val hk.2]
   ·unfold resZ
    rw[if_neg (by omega),if_neg (by omega),if_pos hk]
    generalize (if o.b<0 then -o.b else o.b)=n
    split<;>rfl
  generalize resZ wt X M o=ro at *
  rw[hE]
  refine ⟨by show 0≤o.d;omega,by show o.d<64;omega,vbd,.inl rfl,fun Y l lv=>?_,fun mm L Y lv=>?_,fun h=>absurd rfl h,hlv.symm,fun h=>by rw[hlv]at h;cases h⟩
  ·show (if o.d=0 then Y else setX Y o.d ro.v)=(if 0<wrX o then setX Y (wrX o) ro.v else Y)
   rw[hwr,if_neg (by omega),if_pos (by omega)]
  ·show vw mm (if (0:Int)=0 then L else _)=(if o.k=24 then _ else vw mm L)
   rw[if_pos rfl,if_neg (by omega)]
 ·have hE:efO o (resZ wt X M o)=⟨0,0,0,0,0,false,0⟩:=by unfold efO;rw[if_pos hk]
  have hwr:=wr_none (o:=o) (by omega)
  have hlv:(resZ wt X M o).leave=false:=by
   unfold resZ
   rcases hk with hk|hk
   ·rw[if_pos hk]
   ·rw[if_neg (by omega),if_pos hk]
  generalize resZ wt X M o=ro at *
  rw[hE]
  refine ⟨by show (0:Int)≤0;omega,by show (0:Int)<64;omega,z,.inl rfl,fun Y l lv=>?_,fun mm L Y lv=>?_,fun h=>absurd rfl h,hlv.symm,fun h=>by rw[hlv]at h;cases h⟩
  ·show (if (0:Int)=0 then Y else _)=(if 0<wrX o then setX Y (wrX o) ro.v else Y)
   rw[hwr,if_pos rfl,if_neg (by omega)]
  ·show vw mm (if (0:Int)=0 then L else _)=(if o.k=24 then _ else vw mm L)
   rw[if_pos rfl,if_neg (by omega)]
 ·have hE:efO o (resZ wt X M o)=⟨0,0,(resZ wt X M o).a,o.d,(resZ wt X M o).v,false,0⟩:=by unfold efO;rw[if_neg (by omega),if_pos hk]
  have hwr:=wr_none (o:=o) (by omega)
  obtain ⟨hc,hwt⟩:=resZ_store hk ht
  have hlv:(resZ wt X M o).leave=false:=by
   unfold resZ
   rw[if_neg (by omega),if_neg (by omega),if_neg (by omega),if_pos hk]
   split<;>rfl
  have hd0:o.d≠0:=by
   intro h
   have:=(chk_ok hc).1
   omega
  generalize resZ wt X M o=ro at *
  rw[hE]
  refine ⟨by show (0:Int)≤0;omega,by show (0:Int)<64;omega,z,.inr ⟨rfl,⟨hc,abd.1,vbd.1,vbd.2⟩⟩,fun Y l lv=>?_,fun mm L Y lv=>?_,fun _=>hwt,hlv.symm,fun h=>by rw[hlv]at h;cases h⟩
  ·show (if (0:Int)=0 then Y else _)=(if 0<wrX o then setX Y (wrX o) ro.v else Y)
   rw[hwr,if_pos rfl,if_neg (by omega)]
  ·show vw mm (if o.d=0 then L else L++[⟨ro.a,o.d,ro.v⟩])=(if o.k=24 then upd (vw mm L) ro.a o.d ro.v else vw mm L)
   rw[if_neg hd0,if_pos hk,vw_snoc];rfl
 ·have hE:efO o (resZ wt X M o)=⟨0,0,0,0,0,(resZ wt X M o).leave,(resZ wt X M o).a⟩:=by unfold efO;rw[if_neg (by omega),if_neg (by omega),if_pos hk]
  have hwr:=wr_none (o:=o) (by omega)
  generalize resZ wt X M o=ro at *
  rw[hE]
  refine ⟨by show (0:Int)≤0;omega,by show (0:Int)<64;omega,z,.inl rfl,fun Y l lv=>?_,fun mm L Y lv=>?_,fun h=>absurd rfl h,rfl,fun h=>rfl⟩
  ·show (if (0:Int)=0 then Y else _)=(if 0<wrX o then setX Y (wrX o) ro.v else Y)
   rw[hwr,if_pos rfl,if_neg (by omega)]
  ·show vw mm (if (0:Int)=0 then L else _)=(if o.k=24 then _ else vw mm L)
   rw[if_pos rfl,if_neg (by omega)]
theorem Moved.trans {w w1:World} {vi vj vk:Value} (h:Moved w vi vj) (g:Moved w1 vj vk) (hs:w.heap.size≤w1.heap.size):Moved w vi vk:=by
 intro k hk
 rcases g k hk with e|e
 ·exact h k e
 ·exact .inr (by omega)
section
variable {w : World} {base mb stb sb bp bw bh N : Nat} {X : Nat → Int} {p : List Pq} {vi : Value} {m : Nat → Int} {wt ht : Int → Bool}
end
structure Acc where
 c:Int
 s:Bool
 a:Int
 v:Int
def accC (x:Acc):List Value:=[.int .i64 x.c,.bool x.s,.int .u32 x.a,.int .u32 x.v]
theorem trC_add (l:List Acc) (x:Acc):l.flatMap accC++accC x=(l++[x]).flatMap accC:=by simp[List.flatMap_append]
theorem info55:(Tryz.prog.info? 187).map (fun i=>(i.zero,i.size,i.bytes))=some (some (.agg #[.int .i64 0,.bool false,.int .u32 0,.int .u32 0]),4,24):=by kernel_rfl
def dev (a s:Int):Bool:=decide (s=4∧a%4=0∧65536≤a∧a≤65548)
section
variable {w : World} {base bb sb bp bw bh N : Nat} {m : Nat → Int} {wt ht : Int → Bool} {out : List Int} {lamp : Int} {tr : List Acc} {vo vt : Value}
end
theorem Kx.belowB {W0 wr w':World} {base mb:Nat} {vj:Value} (h:Below base W0 wr) (k:Kx wr w' mb vj) (hmb:base≤mb) (hv:∀ i,vj.ownBlock=some i→base≤i) (hs:base≤W0.heap.size):Below base W0 w' :=
 ⟨k.os.trans h.os,k.tape.trans h.tape,k.output.trans h.output,Nat.le_trans h.size k.size,fun i hi=>(k.block i (Nat.lt_of_lt_of_le hi (Nat.le_trans hs h.size)) (by omega) (fun e=>by have:=hv i e;omega)).trans (h.block i hi)⟩
def HPost (w:World) (stb sb bp bw bh:Nat) (wt ht:Int→Bool) (S:St) (many:Int):Oz→Ending→World→Prop
 | .trap t,e,w'=>e=.returned (.tuple #[.agg #[.bool true,.int .i64 t],.nilIface])∧Below w.heap.size w w'
 | .fell,e,w'=>e=.returned (.tuple #[.agg #[.bool true,.int .i64 0],.nilIface])∧Below w.heap.size w w'
 | .leave M,e,w'=>e=.returned (.tuple #[.agg #[.bool false,.int .i64 0],.nilIface])∧StRow w' stb (leftS S M.x M.lv many)∧(∃ N',N'≤1000000∧RamIs w' sb bp bw bh N' M.m wt ht)∧w.heap.size≤w'.heap.size∧(∀ k,k<w.heap.size→k≠stb→k≠bp→k≠bh→w'.heap[k]?=w.heap[k]?)∧w'.os=w.os∧w'.tape=w.tape∧w'.output=w.output
theorem begX_u {S:St} (ok:S.ok):∀ j,u32 (begX S j):=by
 intro j;unfold begX
 split
 ·exact ok.r j
 ·split
  ·exact ok.hi
  ·split
   ·exact ok.lo
   ·exact ⟨by omega,by omega⟩
section
variable {w : World} {stb sb bp bw bh N : Nat} {m : Nat → Int} {wt ht : Int → Bool}
end
end Go.Proofs.YtflagpkmebdckaaGreatDoor
