
import Derived.Laws.Cover1
import Derived.Test.YtflagpkmebdckaaGreatDoorQIrChk2
import Derived.Test.YtflagpkmebdckaaGreatDoorKOptFns
import Derived.Test.YtflagpkmebdckaaGreatDoorKRunPure
import Derived.Test.YtflagpkmebdckaaGreatDoorKPlPure
namespace Go.Proofs.YtflagpkmebdckaaGreatDoor
open Go.RowKit Go.Maps
open Num
set_option linter.unusedVariables false
def mkF (M:Mk) (vr:Value) (j:Nat):Value :=
 if j=0 then vr else if j<65 then .int .i64 (M.rdy (j-1):Int) else if j<129 then .int .i64 (M.ask (j-65):Int) else if j=129 then .int .i64 (M.bI:Int) else if j=130 then .int .i64 (M.bS:Int) else .int .i64 (M.bM:Int)
def MkC (W:World) (mb:Nat) (M:Mk) (vr:Value):Prop:=RowIs W mb 151 132 (mkF M vr)
theorem MkC.c0 {W:World} {mb:Nat} {M:Mk} {vr:Value} (C:MkC W mb M vr):W.cell? ⟨mb,0,none⟩=some vr:=RowIs.cell C (j:=0) (by omega)
theorem MkC.rd {W:World} {mb:Nat} {M:Mk} {vr:Value} (C:MkC W mb M vr) (r:Nat) (h:r<64):W.cell? ⟨mb,1+r,none⟩=some (.int .i64 (M.rdy r:Int)):=by
 have:=RowIs.cell C (j:=1+r) (by omega)
 rw[this];unfold mkF;rw[if_neg (by omega),if_pos (by omega),show 1+r-1=r by omega]
theorem MkC.i {W:World} {mb:Nat} {M:Mk} {vr:Value} (C:MkC W mb M vr):W.cell? ⟨mb,129,none⟩=some (.int .i64 (M.bI:Int)):=RowIs.cell C (j:=129) (by omega)
theorem MkC.s {W:World} {mb:Nat} {M:Mk} {vr:Value} (C:MkC W mb M vr):W.cell? ⟨mb,130,none⟩=some (.int .i64 (M.bS:Int)):=RowIs.cell C (j:=130) (by omega)
theorem MkC.m {W:World} {mb:Nat} {M:Mk} {vr:Value} (C:MkC W mb M vr):W.cell? ⟨mb,131,none⟩=some (.int .i64 (M.bM:Int)):=RowIs.cell C (j:=131) (by omega)
theorem MkC.stays {W W':World} {mb:Nat} {M:Mk} {vr:Value} (C:MkC W mb M vr) (h:Below W.heap.size W W'):MkC W' mb M vr:=RowIs.stays C h
theorem MkC.lt {W:World} {mb:Nat} {M:Mk} {vr:Value} (C:MkC W mb M vr):mb<W.heap.size:=RowIs.lt C
theorem MkC.drew {W:World} {mb:Nat} {M:Mk} {vr:Value} (C:MkC W mb M vr):MkC W.drew mb M vr:=C
theorem mkF_r {M:Mk} {vr:Value} {j:Nat} (h1:1≤j) (h2:j<65):mkF M vr j=.int .i64 (M.rdy (j-1):Int):=by unfold mkF;rw[if_neg (by omega),if_pos h2]
theorem mkF_a {M:Mk} {vr:Value} {j:Nat} (h1:65≤j) (h2:j<129):mkF M vr j=.int .i64 (M.ask (j-65):Int):=by unfold mkF;rw[if_neg (by omega),if_neg (by omega),if_pos h2]
theorem MkC.fz {W:World} {mb:Nat} {M:Mk} {vr:Value} (C:MkC W mb M vr) (j:Nat):W.frozen? ⟨mb,j,none⟩=false:=RowIs.fz C j
theorem MkC.putR {W:World} {mb:Nat} {M:Mk} {vr:Value} (C:MkC W mb M vr) (r:Nat) (hr:r<64) (v:Nat):MkC (W.setCell ⟨mb,1+r,none⟩ (.int .i64 (v:Int))) mb { M with rdy:=setN M.rdy r v } vr:=by
 refine RowIs.put C (1+r) _ _ ?_ (fun j hj hne=>?_)
 ·rw[mkF_r (by omega) (by omega)];show Value.int .i64 ((if 1+r-1=r then v else M.rdy (1+r-1):Nat):Int)=_;rw[if_pos (by omega)]
 ·have hc:j=0∨(1≤j∧j<65)∨(65≤j∧j<129)∨j=129∨j=130∨j=131:=by omega
  rcases hc with hc|hc|hc|hc|hc|hc
  ·subst hc;rfl
  ·rw[mkF_r hc.1 hc.2,mkF_r hc.1 hc.2];show Value.int .i64 ((if j-1=r then v else M.rdy (j-1):Nat):Int)=_;rw[if_neg (by omega)]
  ·rw[mkF_a hc.1 hc.2,mkF_a hc.1 hc.2]
  ·subst hc;first|rfl|omega
  ·subst hc;first|rfl|omega
  ·subst hc;first|rfl|omega
theorem MkC.putS {W:World} {mb:Nat} {M:Mk} {vr:Value} (C:MkC W mb M vr) (v:Nat):MkC (W.setCell ⟨mb,130,none⟩ (.int .i64 (v:Int))) mb { M with bS:=v } vr:=by
 refine RowIs.put C (130) _ _ ?_ (fun j hj hne=>?_)
 ·rfl
 ·have hc:j=0∨(1≤j∧j<65)∨(65≤j∧j<129)∨j=129∨j=130∨j=131:=by omega
  rcases hc with hc|hc|hc|hc|hc|hc
  ·subst hc;rfl
  ·rw[mkF_r hc.1 hc.2,mkF_r hc.1 hc.2]
  ·rw[mkF_a hc.1 hc.2,mkF_a hc.1 hc.2]
  ·subst hc;first|rfl|omega
  ·subst hc;first|rfl|omega
  ·subst hc;first|rfl|omega
theorem MkC.putM {W:World} {mb:Nat} {M:Mk} {vr:Value} (C:MkC W mb M vr) (v:Nat):MkC (W.setCell ⟨mb,131,none⟩ (.int .i64 (v:Int))) mb { M with bM:=v } vr:=by
 refine RowIs.put C (131) _ _ ?_ (fun j hj hne=>?_)
 ·rfl
 ·have hc:j=0∨(1≤j∧j<65)∨(65≤j∧j<129)∨j=129∨j=130∨j=131:=by omega
  rcases hc with hc|hc|hc|hc|hc|hc
  ·subst hc;rfl
  ·rw[mkF_r hc.1 hc.2,mkF_r hc.1 hc.2]
  ·rw[mkF_a hc.1 hc.2,mkF_a hc.1 hc.2]
  ·subst hc;first|rfl|omega
  ·subst hc;first|rfl|omega
  ·subst hc;first|rfl|omega
end Go.Proofs.YtflagpkmebdckaaGreatDoor
