
import Derived.Test.YtflagpkmebdckaaGreatDoorKOptFns
import Derived.Test.YtflagpkmebdckaaGreatDoorKKRowOf
namespace Go.Proofs.YtflagpkmebdckaaGreatDoor.K
open Go.RowKit Go.Extern.Stop Go.Stop Go.Extern
open Num Tab Fm
set_option linter.unusedVariables false
set_option maxHeartbeats 2000000
theorem lt_le:∀ n,n<12→(lt n).length≤10:=by decide
theorem isOf_lt (n:Nat) (hn:n<12) (c:Int) (w:World):Calls Tryz.prog 119 #[.string ⟨(lt n).toArray⟩,.int .u8 c] w fun e w'=>e=.returned (.bool (hasB (lt n) c))∧w'=w:=isOf_any _ _ (lt_le n hn) w
theorem p26 (v:Int):v/pw 26%pw 6=v/67108864%64:=rfl
theorem p21 (v:Int):v/pw 21%pw 5=v/2097152%32:=rfl
theorem p16 (v:Int):v/pw 16%pw 5=v/65536%32:=rfl
theorem p11 (v:Int):v/pw 11%pw 5=v/2048%32:=rfl
theorem p6 (v:Int):v/pw 6%pw 5=v/64%32:=rfl
theorem p0 (v:Int):v/pw 0%pw 6=v%64:=by show v/1%64=_;rw[Int.ediv_one]
theorem match_2 (x y z:ByteArray) (N v:Int) (h0:0≤v) (h1:v<4294967296) (w:World) :
  Calls Tryz.prog 175 #[.int .u32 v,.agg #[.string x,.int .i64 0,.int .i64 N,.string ⟨(lt 2).toArray⟩,.string y,.string z]] w fun e w'=>e=.returned (.bool (decide (v/67108864%64=0∧v/64%32=0∧v%64=N)))∧Below w.heap.size w w':=by
 have f83:hasB (lt 2) 83=true:=by decide
 have f84:hasB (lt 2) 84=true:=by decide
 have f68:hasB (lt 2) 68=true:=by decide
 have f97:hasB (lt 2) 97=false:=by decide
 have f105:hasB (lt 2) 105=false:=by decide
 have f106:hasB (lt 2) 106=false:=by decide
 have q26:=p26 v
 have q21:=p21 v
 have q16:=p16 v
 have q11:=p11 v
 have q6:=p6 v
 have q0:=p0 v
 go_enter Tryz.func175,Tryz.ntmps175
 go_wp2_with fail
 go_quiet ((go_at_call 46;exact Calls.quiet_of_same (part_any v 26 6 h0 h1 (by omega) (by omega) (by omega) (by omega) _)))
 go_wp2_with (first|(go_at_call 119;refine (isOf_lt 2 (by decide) _ _).mono ?_;rintro e w' ⟨rfl,rfl⟩)|(go_at_call 46;refine (part_any v _ _ h0 h1 (by decide) (by decide) (by decide) (by decide) _).mono ?_;rintro e w' ⟨rfl,rfl⟩))
 all_goals go_ret
 all_goals refine ⟨ret_bool ?_,by first|exact below_drewN ((Below.refl _ _).alloc (Nat.le_refl _) _) _|exact (Below.refl _ _).alloc (Nat.le_refl _) _⟩
 all_goals simp only[bne_iff_ne,ne_eq,bne_eq_false_iff_eq]at *
 all_goals first|(rw[eq_comm,decide_eq_true_eq];omega)|(rw[eq_comm,decide_eq_false_iff_not];omega)|(rw[Bool.eq_iff_iff];simp;omega)
end Go.Proofs.YtflagpkmebdckaaGreatDoor.K
