
import Derived.Laws.Tables
import Derived.Laws.ResultCell
import Derived.Test.YtflagpkmebdckaaGreatDoorKOptFns
import Derived.Test.YtflagpkmebdckaaGreatDoorKKEnc
import Derived.Test.YtflagpkmebdckaaGreatDoorKKDecode
import Derived.Test.YtflagpkmebdckaaGreatDoorKLowPure
import Derived.Test.YtflagpkmebdckaaGreatDoorKPlPure
import Derived.Test.YtflagpkmebdckaaGreatDoorQKMatch
namespace Go.Proofs.YtflagpkmebdckaaGreatDoor.K
open Go.RowKit Go.Extern.Stop Go.Stop Go.Extern
open Num Tab Fm
set_option linter.unusedVariables false
theorem RowAt.stays {b k:Nat} {w w':World} (r:RowAt b k w) (h:Below w.heap.size w w'):RowAt b k w':=by
 have s:∀ {o v},w.cell? ⟨b,o,none⟩=some v→w'.cell? ⟨b,o,none⟩=some v:=fun e=>cell_stays h (Nat.le_refl _) e
 exact ⟨s r.c0,s r.c1,s r.c2,s r.c3,s r.c4,s r.c5⟩
set_option maxHeartbeats 1000000
theorem well_any (n:Int) (b:Bool) (w:World):Calls Tryz.prog 118 #[.int .i64 n,.bool b] w fun e w'=>e=.returned (.bool (well n b))∧w'=w:=by
 by_cases h:n=0
 ·subst h
  go_enter Tryz.func118,Tryz.ntmps118
  go_wp2
  go_ret
  exact ⟨ret_bool (by simp[well]),rfl⟩
 ·have h':(n==0)=false:=by simpa using h
  cases b
  ·go_enter Tryz.func118,Tryz.ntmps118
   go_wp2
   go_ret
   exact ⟨ret_bool (by simp[well,h]),rfl⟩
  ·by_cases g:0<n
   ·go_enter Tryz.func118,Tryz.ntmps118
    go_wp2
    go_ret
    exact ⟨ret_bool (by simp[well,h,g]),rfl⟩
   ·go_enter Tryz.func118,Tryz.ntmps118
    go_wp2
    go_ret
    exact ⟨ret_bool (by simp[well,h];omega),rfl⟩
def encO (k:Nat) (s t d m:Int):Value:=if okB (sh k) s t d m then .tuple #[.int .u32 (enc k s t d m),.int .i64 0] else .tuple #[.int .u32 0,.int .i64 2]
theorem encO_ok {k:Nat} {s t d m:Int} (h:okB (sh k) s t d m=true):encO k s t d m=.tuple #[.int .u32 (enc k s t d m),.int .i64 0]:=by unfold encO;rw[if_pos h]
theorem encO_bad {k:Nat} {s t d m:Int} (h:okB (sh k) s t d m=false):encO k s t d m=.tuple #[.int .u32 0,.int .i64 2]:=by unfold encO;rw[if_neg (by rw[h];decide)]
structure QF (B C:Nat) (w W:World) (o s t d m:Int) (x:ByteArray) (M R:Int) (l y z:ByteArray):Prop where
 c0:W.cell? ⟨B,0,none⟩=some (.int .i64 o)
 c1:W.cell? ⟨B,1,none⟩=some (.int .i64 s)
 c2:W.cell? ⟨B,2,none⟩=some (.int .i64 t)
 c3:W.cell? ⟨B,3,none⟩=some (.int .i64 d)
 c4:W.cell? ⟨B,4,none⟩=some (.int .u32 m)
 e0:W.cell? ⟨C,0,none⟩=some (.string x)
 e1:W.cell? ⟨C,1,none⟩=some (.int .i64 M)
 e2:W.cell? ⟨C,2,none⟩=some (.int .i64 R)
 e3:W.cell? ⟨C,3,none⟩=some (.string l)
 e4:W.cell? ⟨C,4,none⟩=some (.string y)
 e5:W.cell? ⟨C,5,none⟩=some (.string z)
 bel:Below w.heap.size w W
theorem QF.drewN {B C:Nat} {w W:World} {o s t d m:Int} {x:ByteArray} {M R:Int} {l y z:ByteArray} (q:QF B C w W o s t d m x M R l y z) (n:Nat):QF B C w (W.drewN n) o s t d m x M R l y z :=
 ⟨by simpa using q.c0,by simpa using q.c1,by simpa using q.c2,by simpa using q.c3,by simpa using q.c4,by simpa using q.e0,by simpa using q.e1,by simpa using q.e2,by simpa using q.e3,by simpa using q.e4,by simpa using q.e5,below_drewN q.bel n⟩
theorem ret_oo {a b c d:Int} (h:a=b) (g:c=d):Ending.returned (.tuple #[.int .u32 a,.int .i64 c])=.returned (.tuple #[.int .u32 b,.int .i64 d]):=by rw[h,g]
end Go.Proofs.YtflagpkmebdckaaGreatDoor.K
namespace Go.Proofs.YtflagpkmebdckaaGreatDoor
open Go.RowKit Go.Maps Go.Shelf
open Num
set_option linter.unusedVariables false
attribute [local go_sem] Oper.semAt_some
theorem setRow_other (w:World) (b k:Nat) (cs:Array Value) (h:k≠b):(w.setRow b cs).heap[k]?=w.heap[k]?:=by
 unfold World.setRow
 simp only
 rw[Array.getElem?_modify]
 rw[if_neg (by omega)]
section
variable {ops : Array Oper} {rest : List Oper} {o : Oper} {a : Act} {w : World} {Q : Exit → Act → World → Prop}
end
end Go.Proofs.YtflagpkmebdckaaGreatDoor
namespace Go.Proofs.YtflagpkmebdckaaGreatDoor
open Go.RowKit Go.Maps Go.Shelf
open Num
set_option linter.unusedVariables false
attribute [local go_sem] Oper.semAt_some
end Go.Proofs.YtflagpkmebdckaaGreatDoor
namespace Go.Proofs.YtflagpkmebdckaaGreatDoor
open Go.RowKit Go.Maps
open Num
set_option linter.unusedVariables false
theorem results_cell1 {fn:Func} {p u:Tmp} {ty:TypeId} {A:Addr} {x:Value} (h:fn.results=#[.cell p ty,.tmp u]) (tmps:Array Value) (P:Program) (w:World) (hp:tmps.getD p undef=.pointer (some A)) (hl:(loadVar ty A).run P w=.ok x w) :
  (results fn tmps).run P w=.ok (.tuple #[x,tmps.getD u undef]) w:=by
 rw[results_cell_tmp h,hp]
 simp[asAddr,Result.andThen,hl]
theorem code_load {w:World} {B:Nat} {a b c:Value} (z0:w.cell? ⟨B,0,none⟩=some a) (z1:w.cell? ⟨B,1,none⟩=some b) (z2:w.cell? ⟨B,2,none⟩=some c):(loadVar 54 ⟨B,0,none⟩).run Tryz.prog w=.ok (.agg #[a,b,c]) w:=by
 simp[go_sem,z0,z1,z2]
theorem put3 {w:World} {B:Nat} {u0 u1 u2 v0 v1 v2:Value} (z0:w.cell? ⟨B,0,none⟩=some u0) (z1:w.cell? ⟨B,1,none⟩=some u1) (z2:w.cell? ⟨B,2,none⟩=some u2):(((w.setCell ⟨B,0,none⟩ v0).setCell ⟨B,1,none⟩ v1).setCell ⟨B,2,none⟩ v2).cell? ⟨B,0,none⟩=some v0∧(((w.setCell ⟨B,0,none⟩ v0).setCell ⟨B,1,none⟩ v1).setCell ⟨B,2,none⟩ v2).cell? ⟨B,1,none⟩=some v1∧(((w.setCell ⟨B,0,none⟩ v0).setCell ⟨B,1,none⟩ v1).setCell ⟨B,2,none⟩ v2).cell? ⟨B,2,none⟩=some v2:=by
 refine ⟨?_,?_,?_⟩
 ·rw[set_other (by omega),set_other (by omega)];exact set_same (by rw[z0];rfl)
 ·rw[set_other (by omega)];exact set_same (by rw[set_other (by omega),z1];rfl)
 ·exact set_same (by rw[set_other (by omega),set_other (by omega),z2];rfl)
end Go.Proofs.YtflagpkmebdckaaGreatDoor
