
import Derived.RangeFuncBox
import Derived.RangeFuncLeaves
import Derived.RangeFuncNested
import Derived.Shelf.Abstract
import Derived.WalkKit
import Derived.OwnWalkIn
import Derived.TacticsInMore
import Derived.LoopNIn
import Derived.LoopIn
import Derived.Deep.QuietTactic
import Derived.Test.YtflagpkmebdckaaGreatDoorKNum
import Derived.Test.YtflagpkmebdckaaGreatDoorKOptFns
namespace Go.Proofs.YtflagpkmebdckaaGreatDoor
open Go.RowKit
open Num
set_option linter.unusedVariables false
set_option maxHeartbeats 8000000
def hasB (l:List UInt8) (c:Int):Bool:=l.any fun b=>(b.toNat:Int)==c
theorem hasB_take (l:List UInt8) (c:Int) (k:Nat) (h:k<l.length):hasB (l.take (k+1)) c=(hasB (l.take k) c||((l[k].toNat:Int)==c)):=by
 unfold hasB
 rw[List.take_succ_eq_append_getElem h];simp only[List.any_append,List.any_cons,List.any_nil,Bool.or_false]
theorem hasB_no (l:List UInt8) (c:Int) (k:Nat) (h:k<l.length) (hn:((l[k].toNat:Int)==c)=true):hasB l c=true:=by
 unfold hasB
 exact List.any_eq_true.2 ⟨l[k],List.getElem_mem _,hn⟩
theorem isOf_any (l:List UInt8) (c:Int) (hl:l.length≤10) (w:World):Calls Tryz.prog 119 #[.string ⟨l.toArray⟩,.int .u8 c] w fun e w'=>e=.returned (.bool (hasB l c))∧w'=w:=by
 have hz:(ByteArray.mk l.toArray).size=l.length:=by simp[ByteArray.size]
 go_enter Tryz.func119,Tryz.ntmps119
 go_wp2
 go_loop [5] (fun i=>∃ k:Nat,k≤l.length∧i=.int .i64 k∧hasB (l.take k) c=false) (fun i=>l.length-(intOf i).toNat)
 case atStart=>exact ⟨0,Nat.zero_le _,rfl,rfl⟩
 case round =>
  obtain ⟨k,hk,rfl,hb⟩:=hrel
  have HB:Hid (hasB (l.take k) c=false):=hb
  clear hb
  by_cases hlt:k<l.length
  ·have ht:=hasB_take l c k hlt
   have HT:Hid (hasB (l.take (k+1)) c=(hasB (l.take k) c||((l[k].toNat:Int)==c))):=ht
   clear ht
   have hge:∀ h,(ByteArray.mk l.toArray)[k]'h=l[k]:=fun h=>rfl
   by_cases he:((l[k].toNat:Int)==c)=true
   ·have hy:Hid (hasB l c=true):=hasB_no l c k hlt he
    go_wp2
    go_ret
    exact ⟨ret_bool hy.out.symm,rfl⟩
   ·have he':((l[k].toNat:Int)==c)=false:=by simpa using he
    clear he
    go_wp2
    go_round
    case rel=>exact ⟨k+1,by omega,by go_num,by rw[HT.out,HB.out,he'];rfl⟩
    case measure=>simp[intOf];omega
  ·have e:Hid (hasB l c=false):=by rw[←HB.out,List.take_of_length_le (by omega)];exact rfl
   go_wp2
   go_ret
   exact ⟨ret_bool e.out.symm,rfl⟩
def fldL (k:Nat):List UInt8:=if k=1 then [68,73] else if k=2 then [68,65] else if 3≤k∧k≤20 then [68,65,66] else if k=21∨k=22 then [65,66] else if k=23∨k=24 then [68,65,66,73] else if k=25 then [65,73] else if k=26 then [73] else if k=27 then [65] else []
theorem fieldsOf_1 (w:World):Calls Tryz.prog 122 #[.string ⟨#[115,101,116]⟩] w fun e w'=>e=.returned (.string ⟨#[68,73]⟩)∧w'=w:=by
 go_enter Tryz.func122,Tryz.ntmps122
 go_wp2
 go_ret
 exact ⟨rfl,rfl⟩
theorem fieldsOf_2 (w:World):Calls Tryz.prog 122 #[.string ⟨#[99,111,112,121]⟩] w fun e w'=>e=.returned (.string ⟨#[68,65]⟩)∧w'=w:=by
 go_enter Tryz.func122,Tryz.ntmps122
 go_wp2
 go_ret
 exact ⟨rfl,rfl⟩
theorem fieldsOf_3 (w:World):Calls Tryz.prog 122 #[.string ⟨#[97,100,100]⟩] w fun e w'=>e=.returned (.string ⟨#[68,65,66]⟩)∧w'=w:=by
 go_enter Tryz.func122,Tryz.ntmps122
 go_wp2
 go_ret
 exact ⟨rfl,rfl⟩
theorem fieldsOf_4 (w:World):Calls Tryz.prog 122 #[.string ⟨#[115,117,98]⟩] w fun e w'=>e=.returned (.string ⟨#[68,65,66]⟩)∧w'=w:=by
 go_enter Tryz.func122,Tryz.ntmps122
 go_wp2
 go_ret
 exact ⟨rfl,rfl⟩
theorem fieldsOf_5 (w:World):Calls Tryz.prog 122 #[.string ⟨#[97,110,100]⟩] w fun e w'=>e=.returned (.string ⟨#[68,65,66]⟩)∧w'=w:=by
 go_enter Tryz.func122,Tryz.ntmps122
 go_wp2
 go_ret
 exact ⟨rfl,rfl⟩
theorem fieldsOf_6 (w:World):Calls Tryz.prog 122 #[.string ⟨#[111,114]⟩] w fun e w'=>e=.returned (.string ⟨#[68,65,66]⟩)∧w'=w:=by
 go_enter Tryz.func122,Tryz.ntmps122
 go_wp2
 go_ret
 exact ⟨rfl,rfl⟩
theorem fieldsOf_7 (w:World):Calls Tryz.prog 122 #[.string ⟨#[120,111,114]⟩] w fun e w'=>e=.returned (.string ⟨#[68,65,66]⟩)∧w'=w:=by
 go_enter Tryz.func122,Tryz.ntmps122
 go_wp2
 go_ret
 exact ⟨rfl,rfl⟩
theorem fieldsOf_8 (w:World):Calls Tryz.prog 122 #[.string ⟨#[110,111,114]⟩] w fun e w'=>e=.returned (.string ⟨#[68,65,66]⟩)∧w'=w:=by
 go_enter Tryz.func122,Tryz.ntmps122
 go_wp2
 go_ret
 exact ⟨rfl,rfl⟩
theorem fieldsOf_9 (w:World):Calls Tryz.prog 122 #[.string ⟨#[115,108,116]⟩] w fun e w'=>e=.returned (.string ⟨#[68,65,66]⟩)∧w'=w:=by
 go_enter Tryz.func122,Tryz.ntmps122
 go_wp2
 go_ret
 exact ⟨rfl,rfl⟩
theorem fieldsOf_10 (w:World):Calls Tryz.prog 122 #[.string ⟨#[115,108,116,117]⟩] w fun e w'=>e=.returned (.string ⟨#[68,65,66]⟩)∧w'=w:=by
 go_enter Tryz.func122,Tryz.ntmps122
 go_wp2
 go_ret
 exact ⟨rfl,rfl⟩
theorem fieldsOf_11 (w:World):Calls Tryz.prog 122 #[.string ⟨#[115,104,108]⟩] w fun e w'=>e=.returned (.string ⟨#[68,65,66]⟩)∧w'=w:=by
 go_enter Tryz.func122,Tryz.ntmps122
 go_wp2
 go_ret
 exact ⟨rfl,rfl⟩
theorem fieldsOf_12 (w:World):Calls Tryz.prog 122 #[.string ⟨#[115,104,114]⟩] w fun e w'=>e=.returned (.string ⟨#[68,65,66]⟩)∧w'=w:=by
 go_enter Tryz.func122,Tryz.ntmps122
 go_wp2
 go_ret
 exact ⟨rfl,rfl⟩
theorem fieldsOf_13 (w:World):Calls Tryz.prog 122 #[.string ⟨#[115,97,114]⟩] w fun e w'=>e=.returned (.string ⟨#[68,65,66]⟩)∧w'=w:=by
 go_enter Tryz.func122,Tryz.ntmps122
 go_wp2
 go_ret
 exact ⟨rfl,rfl⟩
theorem fieldsOf_14 (w:World):Calls Tryz.prog 122 #[.string ⟨#[109,117,108]⟩] w fun e w'=>e=.returned (.string ⟨#[68,65,66]⟩)∧w'=w:=by
 go_enter Tryz.func122,Tryz.ntmps122
 go_wp2
 go_ret
 exact ⟨rfl,rfl⟩
theorem fieldsOf_15 (w:World):Calls Tryz.prog 122 #[.string ⟨#[109,117,108,104]⟩] w fun e w'=>e=.returned (.string ⟨#[68,65,66]⟩)∧w'=w:=by
 go_enter Tryz.func122,Tryz.ntmps122
 go_wp2
 go_ret
 exact ⟨rfl,rfl⟩
theorem fieldsOf_16 (w:World):Calls Tryz.prog 122 #[.string ⟨#[109,117,108,104,117]⟩] w fun e w'=>e=.returned (.string ⟨#[68,65,66]⟩)∧w'=w:=by
 go_enter Tryz.func122,Tryz.ntmps122
 go_wp2
 go_ret
 exact ⟨rfl,rfl⟩
theorem fieldsOf_17 (w:World):Calls Tryz.prog 122 #[.string ⟨#[113,117,111]⟩] w fun e w'=>e=.returned (.string ⟨#[68,65,66]⟩)∧w'=w:=by
 go_enter Tryz.func122,Tryz.ntmps122
 go_wp2
 go_ret
 exact ⟨rfl,rfl⟩
theorem fieldsOf_18 (w:World):Calls Tryz.prog 122 #[.string ⟨#[114,101,109]⟩] w fun e w'=>e=.returned (.string ⟨#[68,65,66]⟩)∧w'=w:=by
 go_enter Tryz.func122,Tryz.ntmps122
 go_wp2
 go_ret
 exact ⟨rfl,rfl⟩
theorem fieldsOf_19 (w:World):Calls Tryz.prog 122 #[.string ⟨#[113,117,111,117]⟩] w fun e w'=>e=.returned (.string ⟨#[68,65,66]⟩)∧w'=w:=by
 go_enter Tryz.func122,Tryz.ntmps122
 go_wp2
 go_ret
 exact ⟨rfl,rfl⟩
theorem fieldsOf_20 (w:World):Calls Tryz.prog 122 #[.string ⟨#[114,101,109,117]⟩] w fun e w'=>e=.returned (.string ⟨#[68,65,66]⟩)∧w'=w:=by
 go_enter Tryz.func122,Tryz.ntmps122
 go_wp2
 go_ret
 exact ⟨rfl,rfl⟩
theorem fieldsOf_21 (w:World):Calls Tryz.prog 122 #[.string ⟨#[111,118,101,114,43]⟩] w fun e w'=>e=.returned (.string ⟨#[65,66]⟩)∧w'=w:=by
 go_enter Tryz.func122,Tryz.ntmps122
 go_wp2
 go_ret
 exact ⟨rfl,rfl⟩
theorem fieldsOf_22 (w:World):Calls Tryz.prog 122 #[.string ⟨#[111,118,101,114,45]⟩] w fun e w'=>e=.returned (.string ⟨#[65,66]⟩)∧w'=w:=by
 go_enter Tryz.func122,Tryz.ntmps122
 go_wp2
 go_ret
 exact ⟨rfl,rfl⟩
theorem fieldsOf_23 (w:World):Calls Tryz.prog 122 #[.string ⟨#[108,111,97,100]⟩] w fun e w'=>e=.returned (.string ⟨#[68,65,66,73]⟩)∧w'=w:=by
 go_enter Tryz.func122,Tryz.ntmps122
 go_wp2
 go_ret
 exact ⟨rfl,rfl⟩
theorem fieldsOf_24 (w:World):Calls Tryz.prog 122 #[.string ⟨#[115,116,111,114,101]⟩] w fun e w'=>e=.returned (.string ⟨#[68,65,66,73]⟩)∧w'=w:=by
 go_enter Tryz.func122,Tryz.ntmps122
 go_wp2
 go_ret
 exact ⟨rfl,rfl⟩
theorem fieldsOf_25 (w:World):Calls Tryz.prog 122 #[.string ⟨#[105,102]⟩] w fun e w'=>e=.returned (.string ⟨#[65,73]⟩)∧w'=w:=by
 go_enter Tryz.func122,Tryz.ntmps122
 go_wp2
 go_ret
 exact ⟨rfl,rfl⟩
theorem fieldsOf_26 (w:World):Calls Tryz.prog 122 #[.string ⟨#[111,117,116]⟩] w fun e w'=>e=.returned (.string ⟨#[73]⟩)∧w'=w:=by
 go_enter Tryz.func122,Tryz.ntmps122
 go_wp2
 go_ret
 exact ⟨rfl,rfl⟩
theorem fieldsOf_27 (w:World):Calls Tryz.prog 122 #[.string ⟨#[111,117,116,114]⟩] w fun e w'=>e=.returned (.string ⟨#[65]⟩)∧w'=w:=by
 go_enter Tryz.func122,Tryz.ntmps122
 go_wp2
 go_ret
 exact ⟨rfl,rfl⟩
theorem fieldsOf_0 (s:ByteArray) (h1:(s.toList==[115,101,116])=false) (h2:(s.toList==[99,111,112,121])=false) (h3:(s.toList==[97,100,100])=false) (h4:(s.toList==[115,117,98])=false) (h5:(s.toList==[97,110,100])=false) (h6:(s.toList==[111,114])=false) (h7:(s.toList==[120,111,114])=false) (h8:(s.toList==[110,111,114])=false) (h9:(s.toList==[115,108,116])=false) (h10:(s.toList==[115,108,116,117])=false) (h11:(s.toList==[115,104,108])=false) (h12:(s.toList==[115,104,114])=false) (h13:(s.toList==[115,97,114])=false) (h14:(s.toList==[109,117,108])=false) (h15:(s.toList==[109,117,108,104])=false) (h16:(s.toList==[109,117,108,104,117])=false) (h17:(s.toList==[113,117,111])=false) (h18:(s.toList==[114,101,109])=false) (h19:(s.toList==[113,117,111,117])=false) (h20:(s.toList==[114,101,109,117])=false) (h21:(s.toList==[111,118,101,114,43])=false) (h22:(s.toList==[111,118,101,114,45])=false) (h23:(s.toList==[108,111,97,100])=false) (h24:(s.toList==[115,116,111,114,101])=false) (h25:(s.toList==[105,102])=false) (h26:(s.toList==[111,117,116])=false) (h27:(s.toList==[111,117,116,114])=false) (w:World):Calls Tryz.prog 122 #[.string s] w fun e w'=>e=.returned (.string ⟨#[]⟩)∧w'=w:=by
 go_enter Tryz.func122,Tryz.ntmps122
 go_wp2
 go_ret
 exact ⟨rfl,rfl⟩
theorem foA (s:ByteArray) (w:World):Calls Tryz.prog 122 #[.string s] w fun e w'=>e=.returned (.string ⟨(fldL (kn s)).toArray⟩)∧w'=w:=by
 by_cases h:kn s=0
 ·rw[h];exact fieldsOf_0 s (kn_ne h 1 (by omega) (by omega)) (kn_ne h 2 (by omega) (by omega)) (kn_ne h 3 (by omega) (by omega)) (kn_ne h 4 (by omega) (by omega)) (kn_ne h 5 (by omega) (by omega)) (kn_ne h 6 (by omega) (by omega)) (kn_ne h 7 (by omega) (by omega)) (kn_ne h 8 (by omega) (by omega)) (kn_ne h 9 (by omega) (by omega)) (kn_ne h 10 (by omega) (by omega)) (kn_ne h 11 (by omega) (by omega)) (kn_ne h 12 (by omega) (by omega)) (kn_ne h 13 (by omega) (by omega)) (kn_ne h 14 (by omega) (by omega)) (kn_ne h 15 (by omega) (by omega)) (kn_ne h 16 (by omega) (by omega)) (kn_ne h 17 (by omega) (by omega)) (kn_ne h 18 (by omega) (by omega)) (kn_ne h 19 (by omega) (by omega)) (kn_ne h 20 (by omega) (by omega)) (kn_ne h 21 (by omega) (by omega)) (kn_ne h 22 (by omega) (by omega)) (kn_ne h 23 (by omega) (by omega)) (kn_ne h 24 (by omega) (by omega)) (kn_ne h 25 (by omega) (by omega)) (kn_ne h 26 (by omega) (by omega)) (kn_ne h 27 (by omega) (by omega)) w
 ·have hs:=kn_word h
  have hl:=kn_lt s
  generalize kn s=k at *
  subst hs
  have hk:k=1∨k=2∨k=3∨k=4∨k=5∨k=6∨k=7∨k=8∨k=9∨k=10∨k=11∨k=12∨k=13∨k=14∨k=15∨k=16∨k=17∨k=18∨k=19∨k=20∨k=21∨k=22∨k=23∨k=24∨k=25∨k=26∨k=27:=by omega
  rcases hk with rfl|rfl|rfl|rfl|rfl|rfl|rfl|rfl|rfl|rfl|rfl|rfl|rfl|rfl|rfl|rfl|rfl|rfl|rfl|rfl|rfl|rfl|rfl|rfl|rfl|rfl|rfl
  ·exact fieldsOf_1 w
  ·exact fieldsOf_2 w
  ·exact fieldsOf_3 w
  ·exact fieldsOf_4 w
  ·exact fieldsOf_5 w
  ·exact fieldsOf_6 w
  ·exact fieldsOf_7 w
  ·exact fieldsOf_8 w
  ·exact fieldsOf_9 w
  ·exact fieldsOf_10 w
  ·exact fieldsOf_11 w
  ·exact fieldsOf_12 w
  ·exact fieldsOf_13 w
  ·exact fieldsOf_14 w
  ·exact fieldsOf_15 w
  ·exact fieldsOf_16 w
  ·exact fieldsOf_17 w
  ·exact fieldsOf_18 w
  ·exact fieldsOf_19 w
  ·exact fieldsOf_20 w
  ·exact fieldsOf_21 w
  ·exact fieldsOf_22 w
  ·exact fieldsOf_23 w
  ·exact fieldsOf_24 w
  ·exact fieldsOf_25 w
  ·exact fieldsOf_26 w
  ·exact fieldsOf_27 w
theorem ioF (k:Nat) (c:Int) (w:World):Calls Tryz.prog 119 #[.string ⟨(fldL k).toArray⟩,.int .u8 c] w fun e w'=>e=.returned (.bool (hasB (fldL k) c))∧w'=w:=isOf_any (fldL k) c (by unfold fldL;(repeat' split)<;>decide) w
theorem fld_D (k:Nat) (h:k<28):hasB (fldL k) 68=decide (rD k≠0):=by revert k;decide
theorem fld_A (k:Nat) (h:k<28):hasB (fldL k) 65=decide (rA k≠0):=by revert k;decide
theorem fld_B (k:Nat) (h:k<28):hasB (fldL k) 66=decide (rB k≠0):=by revert k;decide
theorem fld_I (k:Nat) (h:k<28):hasB (fldL k) 73=rI k:=by revert k;decide
theorem isDiv_any (s:ByteArray) (w:World):Calls Tryz.prog 188 #[.string s] w fun e w'=>e=.returned (.bool (dvB (kn s)))∧w'=w:=by
 have h1:=kn_eq s 17 (by omega) (by omega)
 have h2:=kn_eq s 18 (by omega) (by omega)
 have h3:=kn_eq s 19 (by omega) (by omega)
 have h4:=kn_eq s 20 (by omega) (by omega)
 have e1:Hid (dvB (kn s)=((s.toList==[113,117,111])||((s.toList==[114,101,109])||((s.toList==[113,117,111,117])||(s.toList==[114,101,109,117]))))):=by
  show _=_
  rw[show (s.toList==[113,117,111])=decide (kn s=17) from h1,show (s.toList==[114,101,109])=decide (kn s=18) from h2,show (s.toList==[113,117,111,117])=decide (kn s=19) from h3,show (s.toList==[114,101,109,117])=decide (kn s=20) from h4]
  unfold dvB
  rw[Bool.eq_iff_iff];simp;omega
 clear h1 h2 h3 h4
 go_enter Tryz.func188,Tryz.ntmps188
 go_wp2
 all_goals
  go_ret
  refine ⟨?_,rfl⟩
  rw[e1.out]
  first|(simp_all;done)|(rw[Bool.or_assoc,Bool.or_assoc];rfl)
theorem wrX_D (o:Opx):wrX o=if (hasB (fldL (kn o.s)) 68&&!(decide (kn o.s=24)))=true then o.d else 0:=by
 rw[fld_D _ (kn_lt o.s)]
 unfold wrX Opx.k
 have hl:=kn_lt o.s
 generalize kn o.s=k at *
 congr 1
 apply propext
 unfold rD
 simp only[Bool.and_eq_true,decide_eq_true_eq,Bool.not_eq_true',decide_eq_false_iff_not]
 by_cases h1:1≤k∧k≤20∨k=23
 ·simp[h1];omega
 ·by_cases h2:k=24<;>simp[h1,h2]
theorem bcD {w:World} {o:Opx} {j:Nat}:(w.alloc (.cells #[.string o.s,.int .i64 o.d,.int .i64 o.a,.int .i64 o.b,.int .u32 o.i,.int .i64 o.t] 139)).cell? ⟨w.heap.size,j,none⟩=(#[.string o.s,.int .i64 o.d,.int .i64 o.a,.int .i64 o.b,.int .u32 o.i,.int .i64 o.t]:Array Value)[j]?:=cell_of_row _ _ _ _ _ _ (heap_alloc_new w _)
theorem writeOf_any (o:Opx) (w:World):Calls Tryz.prog 126 #[opV o] w fun e w'=>e=.returned (.int .i64 (wrX o))∧Below w.heap.size w w':=by
 have hf:=fun w=>foA o.s w
 have hi:=fun w=>ioF (kn o.s) 68 w
 have h24:=kn_eq o.s 24 (by omega) (by omega)
 have HW:Hid (wrX o=if (hasB (fldL (kn o.s)) 68&&!(o.s.toList==[115,116,111,114,101]))=true then o.d else 0):=by
  show _=_;rw[wrX_D,show (o.s.toList==[115,116,111,114,101])=_ from h24]
 clear h24
 have hB:Hid (Below w.heap.size w (w.alloc (.cells #[.string o.s,.int .i64 o.d,.int .i64 o.a,.int .i64 o.b,.int .u32 o.i,.int .i64 o.t] 139))):=(Below.refl _ _).alloc (Nat.le_refl _) _
 unfold opV
 generalize hasB (fldL (kn o.s)) 68=x1 at *
 generalize (⟨(fldL (kn o.s)).toArray⟩:ByteArray)=fs at *
 cases hx2:(o.s.toList==[115,116,111,114,101])
 all_goals
  rw[hx2]at HW
  cases x1
  all_goals
   go_enter Tryz.func126,Tryz.ntmps126
   go_wp2_with fail
   refine (hf _).mono ?_
   rintro e w1 ⟨rfl,rfl⟩
   go_wp2_with fail
   refine (hi _).mono ?_
   rintro e w1 ⟨rfl,rfl⟩
   go_wp2
   go_ret
   exact ⟨by rw[HW.out];rfl,hB.out⟩
end Go.Proofs.YtflagpkmebdckaaGreatDoor
namespace Go.Proofs.YtflagpkmebdckaaGreatDoor
open Num
set_option linter.unusedVariables false
theorem m4 (x:Int):x%4=0∨x%4=1∨x%4=2∨x%4=3:=by omega
def hitB (p:Pend) (x:Int):Bool:=decide (p.a≤x∧x<p.a+p.s)
structure Pend.ok (p:Pend):Prop where
 c:chk p.a p.s=0
 a0:0≤p.a
 v0:0≤p.v
 v1:p.v<4294967296
theorem put_bd {m:Nat→Int} {p:Pend} (ok:p.ok) (mb:∀ i,0≤m i∧m i<4294967296):∀ i,0≤p.put m i∧p.put m i<4294967296:=by
 obtain ⟨hs,hm,_⟩:=chk_ok ok.c
 exact upd_bd m p.a p.s p.v hs hm mb
theorem vw_bd {m:Nat→Int} (mb:∀ i,0≤m i∧m i<4294967296):∀ (l:List Pend),(∀ p∈l,p.ok)→∀ i,0≤vw m l i∧vw m l i<4294967296:=by
 intro l
 unfold vw
 induction l generalizing m with
 | nil=>intro _;exact mb
 | cons p l ih=>intro h;exact ih (put_bd (h p (List.mem_cons_self ..)) mb) (fun q hq=>h q (List.mem_cons_of_mem _ hq))
theorem vw_snoc (m:Nat→Int) (l:List Pend) (p:Pend):vw m (l++[p])=p.put (vw m l):=by simp[vw,List.foldl_append]
end Go.Proofs.YtflagpkmebdckaaGreatDoor
namespace Go.Proofs.YtflagpkmebdckaaGreatDoor
open Go.RowKit Go.Maps Go.Shelf
open Num
set_option linter.unusedVariables false
attribute [local go_sem] Oper.semAt_some
abbrev Pq:={ q:Pend // q.ok }
def pqs (p:List Pq):List Pend:=p.map (·.1)
def pdC (q:Pend):List Value:=[.int .u32 q.a,.int .i64 q.s,.int .u32 q.v]
def PdIn (n₀:Nat) (W:World) (sv:Value) (p:List Pq):Prop :=
 (sv=.slice none 0 0∧p=[])∨∃ b off cap,sv=.slice (some ⟨b,off,none⟩) p.length cap∧b<n₀∧∀ (j:Nat) (q:Pq),p[j]?=some q→W.cell? ⟨b,off+j*3,none⟩=some (.int .u32 q.1.a)∧W.cell? ⟨b,off+j*3+1,none⟩=some (.int .i64 q.1.s)∧W.cell? ⟨b,off+j*3+2,none⟩=some (.int .u32 q.1.v)
theorem PdIn.below {n₀:Nat} {A B:World} (h:Below n₀ A B) {sv:Value} {p:List Pq}:PdIn n₀ A sv p→PdIn n₀ B sv p
 | .inl e=>.inl e
 | .inr ⟨b,off,cap,e,hb,hc⟩=>.inr ⟨b,off,cap,e,hb,fun j q hq=>⟨(h.cell (p:=⟨b,off+j*3,none⟩) hb).trans (hc j q hq).1,(h.cell (p:=⟨b,off+j*3+1,none⟩) hb).trans (hc j q hq).2.1,(h.cell (p:=⟨b,off+j*3+2,none⟩) hb).trans (hc j q hq).2.2⟩⟩
def NoHit (x:Int) (l:List (Nat × Pq)):Prop:=∀ y∈l,hitB y.2.1 x=false
theorem NoHit.snoc {x:Int} {l:List (Nat × Pq)} (h:NoHit x l) {y:Nat × Pq} (hy:hitB y.2.1 x=false):NoHit x (l++[y]) :=
 fun p hp=>(List.mem_append.1 hp).elim (h p) (fun e=>by simp at e;subst e;exact hy)
end Go.Proofs.YtflagpkmebdckaaGreatDoor
