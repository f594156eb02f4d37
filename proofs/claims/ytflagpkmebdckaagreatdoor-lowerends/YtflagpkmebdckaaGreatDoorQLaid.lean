
import Derived.Test.YtflagpkmebdckaaGreatDoorRows
import Derived.ProofKit
import Derived.LaidMore
import Derived.LaidLaws
import Derived.LaidHandle
import Derived.OpenShut
import Derived.Stop.Joined
import Derived.Test.YtflagpkmebdckaaGreatDoorQCode
import Derived.Test.YtflagpkmebdckaaGreatDoorQSent
namespace Go.Proofs.YtflagpkmebdckaaGreatDoor
open Go.ChangeShapes Go.WideShapes Go.ChangeAt Go.RowKit
set_option linter.unusedVariables false
theorem Tryz.own:ownKnob Tryz.prog.godebug=none:=by kernel_rfl
theorem Tryz.gH:Tryz.prog.globalNamed "errors.errorType"=some 11:=by kernel_rfl
theorem Tryz.rt:(Tryz.prog.cutTypes.find? (·.1=="internal/reflectlite.rtype")).map (·.2)=some 306:=by kernel_rfl
theorem Tryz.oneRow:((List.range 363).filter fun t=>Tryz.prog.rowNamed t [101,114,114,111,114])=[32]:=by kernel_rfl
theorem Tryz.size:Tryz.prog.types.size=363:=by kernel_rfl
theorem Tryz.star:"*"++"errors.errorString"="*errors.errorString":=by decide
theorem Tryz.rowS (u:TypeId) (h:Tryz.prog.typeName? 3 u=some "*errors.errorString"):u=332 :=
 typeName_ptr_named (nm:="errors.errorString") (by rw[Tryz.star];kernel_rfl) (by kernel_rfl) (by decide) u (by rw[Tryz.star];exact h)
theorem Tryz.cellsES:Tryz.prog.cellsOf 351=1:=by kernel_rfl
theorem Tryz.cellsStr:Tryz.prog.cellsOf 9=1:=by kernel_rfl
def ten:List (String × List UInt8):=[("changeling/api.ErrText",[99,104,97,110,103,101,108,105,110,103,58,32,116,101,120,116]),("changeling/api.ErrBound",[99,104,97,110,103,101,108,105,110,103,58,32,98,111,117,110,100]),("changeling/api.ErrShape",[99,104,97,110,103,101,108,105,110,103,58,32,115,104,97,112,101]),("changeling/api.ErrKind",[99,104,97,110,103,101,108,105,110,103,58,32,107,105,110,100]),("changeling/api.ErrName",[99,104,97,110,103,101,108,105,110,103,58,32,110,97,109,101]),("changeling/api.ErrNone",[99,104,97,110,103,101,108,105,110,103,58,32,110,111,110,101]),("changeling/api.ErrExist",[99,104,97,110,103,101,108,105,110,103,58,32,101,120,105,115,116]),("changeling/api.ErrFull",[99,104,97,110,103,101,108,105,110,103,58,32,102,117,108,108]),("changeling/api.ErrAlign",[99,104,97,110,103,101,108,105,110,103,58,32,97,108,105,103,110]),("changeling/api.ErrFar",[99,104,97,110,103,101,108,105,110,103,58,32,102,97,114])]
theorem ten_named:∀ x∈ten,∃ g,Tryz.prog.globalNamed x.1=some g∧(Tryz.prog.globals[g]?).map (·.type)=some 32:=by
 have h:(ten.all fun x=>match Tryz.prog.globalNamed x.1 with|some g=>decide ((Tryz.prog.globals[g]?).map (·.type)=some 32)|none=>false)=true:=by kernel_rfl
 intro x hx
 have:=List.all_eq_true.1 h x hx
 cases hg:Tryz.prog.globalNamed x.1 with
 | none=>rw[hg]at this;cases this
 | some g=>rw[hg]at this;exact ⟨g,rfl,of_decide_eq_true this⟩
theorem Tryz.gS0:Tryz.prog.globalNamed "changeling/api.ErrText"=some 6:=by kernel_rfl
theorem Tryz.gS1:Tryz.prog.globalNamed "changeling/api.ErrBound"=some 0:=by kernel_rfl
theorem Tryz.gS2:Tryz.prog.globalNamed "changeling/api.ErrShape"=some 1:=by kernel_rfl
theorem Tryz.gS3:Tryz.prog.globalNamed "changeling/api.ErrKind"=some 5:=by kernel_rfl
theorem Tryz.gS4:Tryz.prog.globalNamed "changeling/api.ErrName"=some 7:=by kernel_rfl
theorem Tryz.gS5:Tryz.prog.globalNamed "changeling/api.ErrNone"=some 4:=by kernel_rfl
theorem Tryz.gS6:Tryz.prog.globalNamed "changeling/api.ErrExist"=some 8:=by kernel_rfl
theorem Tryz.gS7:Tryz.prog.globalNamed "changeling/api.ErrFull"=some 9:=by kernel_rfl
theorem Tryz.gS8:Tryz.prog.globalNamed "changeling/api.ErrAlign"=some 2:=by kernel_rfl
theorem Tryz.gS9:Tryz.prog.globalNamed "changeling/api.ErrFar"=some 3:=by kernel_rfl
theorem errs_of_laid {W:World} (hs:laidMet Tryz.prog (ten.map fun x=>(x.1,sentinel "*errors.errorString" x.2)) W)
  (hh:handlesMet Tryz.prog [("errors.errorType",.iface "internal/reflectlite.rtype" (.agg [.ptr (.lit (.string [101,114,114,111,114]))]))] W):∃ S,Errs S W:=by
 obtain ⟨ps,hl,hnd,hrows⟩:=hs
 obtain ⟨ads,hlen,hvar,hmem,hn⟩:=laid_all Tryz.underlying32 Tryz.rowS Tryz.underlying332 Tryz.underlying351 rfl rfl Tryz.underlying9 Tryz.cellsES Tryz.cellsStr ten ten_named ps hl hrows
 have h10:ads.length=10:=hlen
 have get:∀ i (h:i<10),ads.getD i ⟨0,0,none⟩=ads[i]:=fun i h=>by simp[List.getD,h10,h]
 refine ⟨fun i=>ads.getD i ⟨0,0,none⟩,?_,?_,?_,?_,?_,?_,?_,?_,?_,?_,?_,?_,?_⟩
 ·obtain ⟨name,u,ty,e1,e2,e3,e4,e5⟩:=hh _ (List.mem_singleton.2 rfl)
  have en:name=[101,114,114,111,114]:=(Option.some.inj e1).symm
  subst en
  obtain rfl:=Option.some.inj (Tryz.rt.symm.trans e2)
  have hm:ty∈(List.range 363).filter fun t=>Tryz.prog.rowNamed t [101,114,114,111,114]:=List.mem_filter.2 ⟨List.mem_range.2 (by rw[←Tryz.size];exact e3),e4⟩
  rw[Tryz.oneRow]at hm
  obtain rfl:=List.mem_singleton.1 hm
  have hh:typeHandle Tryz.prog 32=.pointer (some ⟨13,32,none⟩):=by kernel_rfl
  rw[hh]at e5
  simpa using World.var?_cell Tryz.gH e5 0
 ·have h:=hvar 0 (by decide) (by omega)
  rw[←get 0 (by omega)]at h
  simpa using World.var?_cell Tryz.gS0 h 0
 ·have h:=hvar 1 (by decide) (by omega)
  rw[←get 1 (by omega)]at h
  simpa using World.var?_cell Tryz.gS1 h 0
 ·have h:=hvar 2 (by decide) (by omega)
  rw[←get 2 (by omega)]at h
  simpa using World.var?_cell Tryz.gS2 h 0
 ·have h:=hvar 3 (by decide) (by omega)
  rw[←get 3 (by omega)]at h
  simpa using World.var?_cell Tryz.gS3 h 0
 ·have h:=hvar 4 (by decide) (by omega)
  rw[←get 4 (by omega)]at h
  simpa using World.var?_cell Tryz.gS4 h 0
 ·have h:=hvar 5 (by decide) (by omega)
  rw[←get 5 (by omega)]at h
  simpa using World.var?_cell Tryz.gS5 h 0
 ·have h:=hvar 6 (by decide) (by omega)
  rw[←get 6 (by omega)]at h
  simpa using World.var?_cell Tryz.gS6 h 0
 ·have h:=hvar 7 (by decide) (by omega)
  rw[←get 7 (by omega)]at h
  simpa using World.var?_cell Tryz.gS7 h 0
 ·have h:=hvar 8 (by decide) (by omega)
  rw[←get 8 (by omega)]at h
  simpa using World.var?_cell Tryz.gS8 h 0
 ·have h:=hvar 9 (by decide) (by omega)
  rw[←get 9 (by omega)]at h
  simpa using World.var?_cell Tryz.gS9 h 0
 ·intro i hi
  have:=hrows _ _ (hmem (ads[i]'(by omega)) (List.getElem_mem _))
  show ∃ c t,W.heap[(ads.getD i ⟨0,0,none⟩).block]?=some (.cells c t (0,0))
  rw[get i hi];exact this.1
 ·intro i j hi hj e
  have e':ads.getD i ⟨0,0,none⟩=ads.getD j ⟨0,0,none⟩:=e
  rw[get i hi,get j hj]at e'
  have pw:=List.pairwise_iff_getElem.1 (hn hnd)
  rcases Nat.lt_trichotomy i j with h|h|h
  ·exact absurd e' (pw i j (by omega) (by omega) h)
  ·exact h
  ·exact absurd e'.symm (pw j i (by omega) (by omega) h)
end Go.Proofs.YtflagpkmebdckaaGreatDoor
