
import Derived.Deep.RegionWith
import Derived.Deep.Cut
import Derived.Laws.Rows
import Derived.Laws.CopyOwn
import Derived.Test.YtflagpkmebdckaaGreatDoorProg
import Derived.WalkKit
import Derived.Below
import Derived.Deep.QuietTactic
import Derived.BigQuiet
import Derived.StillTailTactics
import Derived.Laws.MakeOwn
import Derived.OwnWalk
import Derived.Test.YtflagpkmebdckaaGreatDoorKNum
import Derived.Test.YtflagpkmebdckaaGreatDoorKWatch
import Derived.Test.YtflagpkmebdckaaGreatDoorQStore
import Derived.Test.YtflagpkmebdckaaGreatDoorQIrChk
import Derived.Test.YtflagpkmebdckaaGreatDoorQIrChk2
namespace Go.Proofs.YtflagpkmebdckaaGreatDoor
open Go.RowKit
set_option linter.unusedVariables false
def Moved (w:World) (v v':Value):Prop:=∀ k,v'.ownBlock=some k→v.ownBlock=some k∨w.heap.size≤k
theorem Moved.refl (w:World) (v:Value):Moved w v v:=fun _ h=>Or.inl h
theorem run_append_moved {P:Program} (w:World) (base:Nat) (t ty e:TypeId) (i:TypeInfo) (z:Value) (size bytes:Nat) (ht:P.underlying t=some (.slice e)) (hi:P.info? e=some i) (hz:i.zero=some z)
  (hsize:i.size=size) (hby:i.bytes=bytes) (hzs:z.cells.size=size) (hsz:0<size)
  (v:Value) (n:Nat) (xs:List Value) (hown:w.ownsRow base e size v n xs)
  (a:Addr) (m c:Nat) (news:List Value) (hl:news.length=m*size) (hnews:∀ j u,news[j]?=some u→w.cell? (a.add j)=some u) (h1:∀ u∈news,u.oneCell'=true)
  (h63:n+m≤maxLen) (hbytes:(n+m)*bytes≤140737488355328) (hbase:base≤w.heap.size) :
  ∃ v' w',(Builtin.append_ #[t,t] ty #[v,.slice (some a) m c]).run P w=.ok v' w'∧w'.ownsRow base e size v' (n+m) (xs++news)∧w.grownBy w' v.ownBlock∧Moved w v v':=by
 obtain ⟨v',w',hr,h2,h3,h4⟩:=run_append_own (P:=P) w base t ty e i z size bytes ht hi hz hsize hby hzs hsz v n xs hown a m c news hl hnews h1 h63 hbytes hbase
 refine ⟨v',w',hr,h2,h3,?_⟩
 subst hsize
 subst hby
 have hsmall:n+m≤9223372036854775807:=by simp only[maxLen]at h63;omega
 rcases hown.2 with ⟨rfl,rfl⟩|⟨g,cap,cur,rfl,hbg,hg,hnc,hcm,hcs,htake⟩
 ·by_cases hm:m=0
  ·obtain rfl:v'=.slice none 0 0:=h4.2 ⟨rfl,hm⟩
   exact Moved.refl _ _
  ·have hr2:=run_append_nil (P:=P) w t ty e i z ht hi hz a m c news hl hnews (by omega) (by omega) (by have hb:=hbytes;simp only[Nat.zero_add]at hb;omega)
   rw[hr]at hr2
   injection hr2 with e1 e2
   subst e1
   intro k hk
   simp[Value.ownBlock]at hk
   exact Or.inr (by omega)
 ·by_cases hroom:n+m≤cap
  ·have hfit:n*i.size+news.length≤cur.size:=by rw[hl,hcs,←Nat.add_mul];exact Nat.mul_le_mul_right _ hroom
   have hr2:=run_append_room (P:=P) w t ty e i ht hi g n cap cur hg a m c news hl hnews h1 hroom hfit
   rw[hr]at hr2
   injection hr2 with e1 e2
   subst e1
   intro k hk
   exact Or.inl hk
  ·have holds:∀ j u,xs[j]?=some u→w.cell? ((⟨g,0,none⟩:Addr).add j)=some u:=hown.cells (g:=g) rfl
   have hr2:=run_append_grow (P:=P) w t ty e i z ht hi hz ⟨g,0,none⟩ n cap xs hown.1 holds a m c news hl hnews (by omega) (by omega) (growslice_fits (by omega) hbytes)
   rw[hr]at hr2
   injection hr2 with e1 e2
   subst e1
   intro k hk
   simp[Value.ownBlock]at hk
   exact Or.inr (by omega)
theorem wpList_append_moved {P:Program} {w:World} {ops:Array Oper} {rest:List Oper} {o:Oper} {a:Act} {Q:Exit→Act→World→Prop} (hgd:o.guard=none) (s x:Operand) (t:TypeId)
  (ho:o.op=.call { callee:=.builtin .append,args:=#[s,x],argTypes:=#[t,t] })
  (base:Nat) (e:TypeId) (i:TypeInfo) (z:Value) (size bytes:Nat) (ht:P.underlying t=some (.slice e)) (hi:P.info? e=some i) (hz:i.zero=some z)
  (hsize:i.size=size) (hby:i.bytes=bytes) (hzs:z.cells.size=size) (hsz:0<size)
  (v:Value) (n:Nat) (xs:List Value) (hs:a.eval s=v) (hown:w.ownsRow base e size v n xs)
  (ad:Addr) (m c:Nat) (news:List Value) (hx:a.eval x=.slice (some ad) m c) (hl:news.length=m*size) (hnews:∀ j u,news[j]?=some u→w.cell? (ad.add j)=some u) (h1:∀ u∈news,u.oneCell'=true)
  (h63:n+m≤maxLen) (hbytes:(n+m)*bytes≤140737488355328) (hbase:base≤w.heap.size)
  (h:∀ v' w',w'.ownsRow base e size v' (n+m) (xs++news)→w.grownBy w' v.ownBlock→Moved w v v'→wpList P ops Q rest (a.put o.dst v') w'):wpList P ops Q (o :: rest) a w:=by
 refine wpList_plain hgd fun K hK=>?_
 obtain ⟨v',w',hr,h2,h3,h4⟩:=run_append_moved (P:=P) w base t o.type e i z size bytes ht hi hz hsize hby hzs hsz v n xs hown ad m c news hl hnews h1 h63 hbytes hbase
 unfold Oper.wp execOp
 simp only[ho,resolve,invoke,builtin,Sem.run_bind,Sem.run_pure,Result.andThen_ok,List.map_toArray,List.map_cons,List.map_nil,hs,hx,hr]
 exact hK _ _ (h v' w' h2 h3 h4)
def RowIs (w:World) (b:Nat) (t:TypeId) (n:Nat) (f:Nat→Value):Prop:=∃ cur:Array Value,w.heap[b]?=some (.cells cur t (0,0))∧cur.size=n∧∀ j,j<n→cur[j]?=some (f j)
theorem RowIs.cell {w:World} {b:Nat} {t:TypeId} {n:Nat} {f:Nat→Value} (h:RowIs w b t n f) {j:Nat} (hj:j<n):w.cell? ⟨b,j,none⟩=some (f j):=by
 obtain ⟨cur,h1,h2,h3⟩:=h
 rw[cell_of_row _ _ _ _ _ _ h1];exact h3 j hj
theorem RowIs.fz {w:World} {b:Nat} {t:TypeId} {n:Nat} {f:Nat→Value} (h:RowIs w b t n f) (j:Nat):w.frozen? ⟨b,j,none⟩=false:=by
 obtain ⟨cur,h1,h2,h3⟩:=h
 simp[World.frozen?,h1]
theorem RowIs.lt {w:World} {b:Nat} {t:TypeId} {n:Nat} {f:Nat→Value} (h:RowIs w b t n f):b<w.heap.size:=by
 obtain ⟨cur,h1,_⟩:=h;exact (Array.getElem?_eq_some_iff.1 h1).1
theorem RowIs.block {w w':World} {b:Nat} {t:TypeId} {n:Nat} {f:Nat→Value} (h:RowIs w b t n f) (e:w'.heap[b]?=w.heap[b]?):RowIs w' b t n f:=by
 obtain ⟨cur,h1,h2,h3⟩:=h;exact ⟨cur,e.trans h1,h2,h3⟩
theorem RowIs.stays {w w':World} {b:Nat} {t:TypeId} {n:Nat} {f:Nat→Value} (h:RowIs w b t n f) (hb:Below w.heap.size w w'):RowIs w' b t n f:=h.block (hb.block _ h.lt)
theorem RowIs.put {w:World} {b:Nat} {t:TypeId} {n:Nat} {f:Nat→Value} (h:RowIs w b t n f) (i:Nat) (v:Value) (g:Nat→Value) (hg:g i=v) (ho:∀ j,j<n→j≠i→g j=f j):RowIs (w.setCell ⟨b,i,none⟩ v) b t n g:=by
 obtain ⟨cur,h1,h2,h3⟩:=h
 rw[setCell_eq_setRow _ _ _ cur t (0,0) _ h1]
 refine ⟨cur.setIfInBounds i v,setRow_heap w b _ _ t _ h1,by simp[h2],fun j hj=>?_⟩
 by_cases e:i=j
 ·subst e;rw[Array.getElem?_setIfInBounds_self,if_pos (by omega),hg]
 ·rw[Array.getElem?_setIfInBounds_ne e,h3 j hj,ho j hj (Ne.symm e)]
theorem owns_blocks {w w':World} {base:Nat} {e:TypeId} {size n:Nat} {v:Value} {xs:List Value} (h:w.ownsRow base e size v n xs) (hb:∀ k,v.ownBlock=some k→w'.heap[k]?=w.heap[k]?):w'.ownsRow base e size v n xs:=by
 refine ⟨h.1,?_⟩
 rcases h.2 with hn|⟨g,cap,cur,rfl,hbg,hgg,rest⟩
 ·exact .inl hn
 ·exact .inr ⟨g,cap,cur,rfl,hbg,(hb g rfl).trans hgg,rest⟩
theorem own_pos {w:World} {base:Nat} {e:TypeId} {size n:Nat} {v:Value} {xs:List Value} (h:w.ownsRow base e size v (n+1) xs):∃ g cap,v=.slice (some ⟨g,0,none⟩) (n+1) cap:=by
 rcases h.2 with ⟨_,h⟩|⟨g,cap,cur,rfl,_⟩
 ·omega
 ·exact ⟨g,cap,rfl⟩
theorem add_lit (g k:Nat):(⟨g,0,none⟩:Addr).add k=⟨g,k,none⟩:=by unfold Addr.add;split<;>simp_all
end Go.Proofs.YtflagpkmebdckaaGreatDoor
namespace Go.Proofs.YtflagpkmebdckaaGreatDoor
open Go.RowKit Go.Maps
open Num
set_option linter.unusedVariables false
theorem infoOp:(Tryz.prog.info? 139).map (fun i=>(i.zero,i.size,i.bytes))=some (some (.agg #[.string ⟨#[]⟩,.int .i64 0,.int .i64 0,.int .i64 0,.int .u32 0,.int .i64 0]),6,56):=by kernel_rfl
def opL (l:List Opx):List Value:=l.flatMap opC
theorem opL_get:∀ (p:List Opx) (j:Nat) (q:Opx) (i:Nat),p[j]?=some q→i<6→(opL p)[j*6+i]?=(opC q)[i]?
 | [],j,q,i,h,_=>by simp at h
 | r :: p,0,q,i,h,hi=>by
  simp at h;subst h
  show (opC r++opL p)[0*6+i]?=_
  rw[List.getElem?_append_left (by simp[opC];omega)];simp
 | r :: p,j+1,q,i,h,hi=>by
  show (opC r++opL p)[(j+1)*6+i]?=_
  rw[List.getElem?_append_right (by simp[opC];omega),←opL_get p j q i (by simpa using h) hi]
  congr 1;simp[opC];omega
end Go.Proofs.YtflagpkmebdckaaGreatDoor
namespace Go.Proofs.YtflagpkmebdckaaGreatDoor
end Go.Proofs.YtflagpkmebdckaaGreatDoor
namespace Go.Proofs.YtflagpkmebdckaaGreatDoor.K
open Go.RowKit
open Num Tab
set_option linter.unusedVariables false
set_option maxHeartbeats 1000000
theorem ret_int {k:IntKind} {a b:Int} (h:a=b):Ending.returned (.int k a)=.returned (.int k b):=by rw[h]
theorem ret_bool {a b:Bool} (h:a=b):Ending.returned (.bool a)=.returned (.bool b):=by rw[h]
theorem shift_any (k a n:Int) (h0:0≤a) (h1:a<4294967296) (g0:0≤n) (w:World) :
  Calls Tryz.prog 84 #[.int .u8 k,.int .u32 a,.int .u32 n] w fun e w'=>e=.returned (.int .u32 (shf k a n))∧w'=w:=by
 by_cases k1:k=60
 ·subst k1
  go_enter Tryz.func84,Tryz.ntmps84
  go_wp2
  go_ret
  exact ⟨rfl,rfl⟩
 by_cases k2:k=62
 ·subst k2
  go_enter Tryz.func84,Tryz.ntmps84
  go_wp2
  go_ret
  exact ⟨rfl,rfl⟩
 by_cases k3:k=126
 ·subst k3
  go_enter Tryz.func84,Tryz.ntmps84
  go_wp2
  go_ret
  exact ⟨ret_int (by rw[sg_of_wrap h0 h1];rfl),rfl⟩
 have e1:(k==60)=false:=by simpa using k1
 have e2:(k==62)=false:=by simpa using k2
 have e3:(k==126)=false:=by simpa using k3
 have e':shf k a n=a:=by unfold shf;rw[if_neg k1,if_neg k2,if_neg k3]
 have e:Hid (shf k a n=a):=e'
 clear e' k1 k2 k3
 go_enter Tryz.func84,Tryz.ntmps84
 go_wp2
 go_ret
 exact ⟨ret_int e.out.symm,rfl⟩
theorem place83 (w:World):Calls Tryz.prog 156 #[.int .i32 83] w fun e w'=>e=.returned (.tuple #[.int .i64 21,.int .i64 5])∧w'=w:=by
 go_enter Tryz.func156,Tryz.ntmps156
 go_wp2
 go_ret2
 exact ⟨rfl,rfl⟩
theorem place84 (w:World):Calls Tryz.prog 156 #[.int .i32 84] w fun e w'=>e=.returned (.tuple #[.int .i64 16,.int .i64 5])∧w'=w:=by
 go_enter Tryz.func156,Tryz.ntmps156
 go_wp2
 go_ret2
 exact ⟨rfl,rfl⟩
theorem place68 (w:World):Calls Tryz.prog 156 #[.int .i32 68] w fun e w'=>e=.returned (.tuple #[.int .i64 11,.int .i64 5])∧w'=w:=by
 go_enter Tryz.func156,Tryz.ntmps156
 go_wp2
 go_ret2
 exact ⟨rfl,rfl⟩
theorem place97 (w:World):Calls Tryz.prog 156 #[.int .i32 97] w fun e w'=>e=.returned (.tuple #[.int .i64 6,.int .i64 5])∧w'=w:=by
 go_enter Tryz.func156,Tryz.ntmps156
 go_wp2
 go_ret2
 exact ⟨rfl,rfl⟩
theorem place105 (w:World):Calls Tryz.prog 156 #[.int .i32 105] w fun e w'=>e=.returned (.tuple #[.int .i64 0,.int .i64 16])∧w'=w:=by
 go_enter Tryz.func156,Tryz.ntmps156
 go_wp2
 go_ret2
 exact ⟨rfl,rfl⟩
theorem place106 (w:World):Calls Tryz.prog 156 #[.int .i32 106] w fun e w'=>e=.returned (.tuple #[.int .i64 0,.int .i64 26])∧w'=w:=by
 go_enter Tryz.func156,Tryz.ntmps156
 go_wp2
 go_ret2
 exact ⟨rfl,rfl⟩
theorem isOp_any (k:Int) (w:World):Calls Tryz.prog 158 #[.int .i64 k] w fun e w'=>e=.returned (.bool (decide (0<k∧k<54)))∧w'=w:=by
 by_cases h:0<k
 ·go_enter Tryz.func158,Tryz.ntmps158
  go_wp2
  go_ret
  exact ⟨ret_bool (by simp[h]),rfl⟩
 ·go_enter Tryz.func158,Tryz.ntmps158
  go_wp2
  go_ret
  exact ⟨ret_bool (by simp;omega),rfl⟩
theorem take83 (o s t d m:Int) (h0:0≤m) (h1:m<4294967296) (w:World):Calls Tryz.prog 176 #[.agg #[.int .i64 o,.int .i64 s,.int .i64 t,.int .i64 d,.int .u32 m],.int .i32 83] w fun e w'=>e=.returned (.int .u64 (s%18446744073709551616))∧Below w.heap.size w w':=by
 go_enter Tryz.func176,Tryz.ntmps176
 go_wp2
 go_ret
 exact ⟨rfl,(Below.refl _ _).alloc (Nat.le_refl _) _⟩
theorem take84 (o s t d m:Int) (h0:0≤m) (h1:m<4294967296) (w:World):Calls Tryz.prog 176 #[.agg #[.int .i64 o,.int .i64 s,.int .i64 t,.int .i64 d,.int .u32 m],.int .i32 84] w fun e w'=>e=.returned (.int .u64 (t%18446744073709551616))∧Below w.heap.size w w':=by
 go_enter Tryz.func176,Tryz.ntmps176
 go_wp2
 go_ret
 exact ⟨rfl,(Below.refl _ _).alloc (Nat.le_refl _) _⟩
theorem take68 (o s t d m:Int) (h0:0≤m) (h1:m<4294967296) (w:World):Calls Tryz.prog 176 #[.agg #[.int .i64 o,.int .i64 s,.int .i64 t,.int .i64 d,.int .u32 m],.int .i32 68] w fun e w'=>e=.returned (.int .u64 (d%18446744073709551616))∧Below w.heap.size w w':=by
 go_enter Tryz.func176,Tryz.ntmps176
 go_wp2
 go_ret
 exact ⟨rfl,(Below.refl _ _).alloc (Nat.le_refl _) _⟩
theorem take97 (o s t d m:Int) (h0:0≤m) (h1:m<4294967296) (w:World):Calls Tryz.prog 176 #[.agg #[.int .i64 o,.int .i64 s,.int .i64 t,.int .i64 d,.int .u32 m],.int .i32 97] w fun e w'=>e=.returned (.int .u64 (m))∧Below w.heap.size w w':=by
 go_enter Tryz.func176,Tryz.ntmps176
 go_wp2
 go_ret
 exact ⟨rfl,(Below.refl _ _).alloc (Nat.le_refl _) _⟩
theorem take105 (o s t d m:Int) (h0:0≤m) (h1:m<4294967296) (w:World):Calls Tryz.prog 176 #[.agg #[.int .i64 o,.int .i64 s,.int .i64 t,.int .i64 d,.int .u32 m],.int .i32 105] w fun e w'=>e=.returned (.int .u64 (m))∧Below w.heap.size w w':=by
 go_enter Tryz.func176,Tryz.ntmps176
 go_wp2
 go_ret
 exact ⟨rfl,(Below.refl _ _).alloc (Nat.le_refl _) _⟩
theorem take106 (o s t d m:Int) (h0:0≤m) (h1:m<4294967296) (w:World):Calls Tryz.prog 176 #[.agg #[.int .i64 o,.int .i64 s,.int .i64 t,.int .i64 d,.int .u32 m],.int .i32 106] w fun e w'=>e=.returned (.int .u64 (m))∧Below w.heap.size w w':=by
 go_enter Tryz.func176,Tryz.ntmps176
 go_wp2
 go_ret
 exact ⟨rfl,(Below.refl _ _).alloc (Nat.le_refl _) _⟩
theorem put83 (b:Nat) (v:Int) (h0:0≤v) (h1:v<4294967296) (w:World) (old:Value) (hc:w.cell? ⟨b,1,none⟩=some old) (hf:w.frozen? ⟨b,1,none⟩=false) :
  Calls Tryz.prog 157 #[.pointer (some ⟨b,0,none⟩),.int .i32 83,.int .u32 v] w fun e w'=>e=.returned (.tuple #[])∧w'=w.setCell ⟨b,1,none⟩ (.int .i64 v):=by
 go_enter Tryz.func157,Tryz.ntmps157
 go_wp2
 go_end0
 exact ⟨rfl,rfl⟩
theorem put84 (b:Nat) (v:Int) (h0:0≤v) (h1:v<4294967296) (w:World) (old:Value) (hc:w.cell? ⟨b,2,none⟩=some old) (hf:w.frozen? ⟨b,2,none⟩=false) :
  Calls Tryz.prog 157 #[.pointer (some ⟨b,0,none⟩),.int .i32 84,.int .u32 v] w fun e w'=>e=.returned (.tuple #[])∧w'=w.setCell ⟨b,2,none⟩ (.int .i64 v):=by
 go_enter Tryz.func157,Tryz.ntmps157
 go_wp2
 go_end0
 exact ⟨rfl,rfl⟩
theorem put68 (b:Nat) (v:Int) (h0:0≤v) (h1:v<4294967296) (w:World) (old:Value) (hc:w.cell? ⟨b,3,none⟩=some old) (hf:w.frozen? ⟨b,3,none⟩=false) :
  Calls Tryz.prog 157 #[.pointer (some ⟨b,0,none⟩),.int .i32 68,.int .u32 v] w fun e w'=>e=.returned (.tuple #[])∧w'=w.setCell ⟨b,3,none⟩ (.int .i64 v):=by
 go_enter Tryz.func157,Tryz.ntmps157
 go_wp2
 go_end0
 exact ⟨rfl,rfl⟩
theorem put97 (b:Nat) (v:Int) (h0:0≤v) (h1:v<4294967296) (w:World) (old:Value) (hc:w.cell? ⟨b,4,none⟩=some old) (hf:w.frozen? ⟨b,4,none⟩=false) :
  Calls Tryz.prog 157 #[.pointer (some ⟨b,0,none⟩),.int .i32 97,.int .u32 v] w fun e w'=>e=.returned (.tuple #[])∧w'=w.setCell ⟨b,4,none⟩ (.int .u32 v):=by
 go_enter Tryz.func157,Tryz.ntmps157
 go_wp2
 go_end0
 exact ⟨rfl,rfl⟩
theorem put105 (b:Nat) (v:Int) (h0:0≤v) (h1:v<4294967296) (w:World) (old:Value) (hc:w.cell? ⟨b,4,none⟩=some old) (hf:w.frozen? ⟨b,4,none⟩=false) :
  Calls Tryz.prog 157 #[.pointer (some ⟨b,0,none⟩),.int .i32 105,.int .u32 v] w fun e w'=>e=.returned (.tuple #[])∧w'=w.setCell ⟨b,4,none⟩ (.int .u32 v):=by
 go_enter Tryz.func157,Tryz.ntmps157
 go_wp2
 go_end0
 exact ⟨rfl,rfl⟩
theorem put106 (b:Nat) (v:Int) (h0:0≤v) (h1:v<4294967296) (w:World) (old:Value) (hc:w.cell? ⟨b,4,none⟩=some old) (hf:w.frozen? ⟨b,4,none⟩=false) :
  Calls Tryz.prog 157 #[.pointer (some ⟨b,0,none⟩),.int .i32 106,.int .u32 v] w fun e w'=>e=.returned (.tuple #[])∧w'=w.setCell ⟨b,4,none⟩ (.int .u32 v):=by
 go_enter Tryz.func157,Tryz.ntmps157
 go_wp2
 go_end0
 exact ⟨rfl,rfl⟩
end Go.Proofs.YtflagpkmebdckaaGreatDoor.K
namespace Go.Proofs.YtflagpkmebdckaaGreatDoor
open Num
set_option linter.unusedVariables false
def byt (m:Nat→Int) (a:Int):Int:=m (a/4).toNat/2^(bhd a 1).toNat%256
theorem bhd1 (a:Int):bhd a 1=24-8*(a%4):=by unfold bhd;omega
theorem mod4 (a:Int):a%4=0∨a%4=1∨a%4=2∨a%4=3:=by omega
theorem put_eq (x b:Int) (a:Int) (x0:0≤x) (x1:x<4294967296) (b0:0≤b) (b1:b<256) :
  0≤x-x/2^(bhd a 1).toNat%256*2^(bhd a 1).toNat∧x-x/2^(bhd a 1).toNat%256*2^(bhd a 1).toNat+b*2^(bhd a 1).toNat<4294967296∧b*2^(bhd a 1).toNat<4294967296∧x/2^(bhd a 1).toNat%256*2^(bhd a 1).toNat<4294967296∧0≤x/2^(bhd a 1).toNat%256*2^(bhd a 1).toNat∧0≤b*2^(bhd a 1).toNat ∧
  x-x/2^(bhd a 1).toNat%256*2^(bhd a 1).toNat+b*2^(bhd a 1).toNat=stw x b (2^(bhd a 1).toNat) (2^(8*(1:Int)).toNat):=by
 rw[bhd1]
 have e8:(2:Int)^(8*(1:Int)).toNat=256:=by decide
 rw[e8]
 unfold stw
 rcases mod4 a with h|h|h|h
 ·have:(2:Int)^(24-8*(a%4)).toNat=16777216:=by rw[h];decide
  rw[this];omega
 ·have:(2:Int)^(24-8*(a%4)).toNat=65536:=by rw[h];decide
  rw[this];omega
 ·have:(2:Int)^(24-8*(a%4)).toNat=256:=by rw[h];decide
  rw[this];omega
 ·have:(2:Int)^(24-8*(a%4)).toNat=1:=by rw[h];decide
  rw[this];omega
theorem upd_at (m:Nat→Int) (a s v:Int):upd m a s v (a/4).toNat=stw (m (a/4).toNat) v (2^(bhd a s).toNat) (2^(8*s).toNat):=by unfold upd;rw[if_pos rfl]
theorem upd_ne (m:Nat→Int) (a s v:Int) (i:Nat) (h:i≠(a/4).toNat):upd m a s v i=m i:=by unfold upd;rw[if_neg h]
def bOf (v s i:Int):Int:=v/2^(8*(s-1-i)).toNat%256
def puts (m:Nat→Int) (a s v:Int):Nat→Nat→Int
 | 0=>m
 | i+1=>upd (puts m a s v i) (a+i) 1 (bOf v s i)
theorem p16:(2:Int)^16=65536:=by decide
theorem p32:(2:Int)^32=4294967296:=by decide
theorem e1:(2:Int)^(8*(1:Int)).toNat=256:=by decide
theorem e2:(2:Int)^(8*(2:Int)).toNat=65536:=by decide
theorem e4:(2:Int)^(8*(4:Int)).toNat=4294967296:=by decide
theorem puts1 (m:Nat→Int) (a v:Int):puts m a 1 v 1=upd m a 1 v:=by
 funext i
 have e0:a+((0:Nat):Int)=a:=by omega
 have eb:bOf v 1 ((0:Nat):Int)=v%256:=by unfold bOf;rw[show (2:Int)^(8*(1-1-((0:Nat):Int))).toNat=1 by decide,Int.ediv_one]
 show upd m (a+((0:Nat):Int)) 1 (bOf v 1 ((0:Nat):Int)) i=_
 rw[e0,eb]
 unfold upd stw
 rw[e1,Int.emod_emod_of_dvd _ (Int.dvd_refl 256)]
theorem stw2a (x v:Int) (x0:0≤x) (x1:x<4294967296):stw (stw x (v/256%256) 16777216 256) (v%256) 65536 256=stw x v 65536 65536:=by unfold stw;omega
theorem stw2b (x v:Int) (x0:0≤x) (x1:x<4294967296):stw (stw x (v/256%256) 256 256) (v%256) 1 256=stw x v 1 65536:=by unfold stw;omega
theorem stw4 (x v:Int) (x0:0≤x) (x1:x<4294967296) (v0:0≤v) (v1:v<4294967296):stw (stw (stw (stw x (v/16777216%256) 16777216 256) (v/65536%256) 65536 256) (v/256%256) 256 256) (v%256) 1 256=stw x v 1 4294967296:=by
 have h1:stw x (v/16777216%256) 16777216 256=v/16777216%256*16777216+x%16777216:=by unfold stw;omega
 have h2:stw (v/16777216%256*16777216+x%16777216) (v/65536%256) 65536 256=v/65536*65536+x%65536:=by unfold stw;omega
 have h3:stw (v/65536*65536+x%65536) (v/256%256) 256 256=v/256*256+x%256:=by unfold stw;omega
 have h4:stw (v/256*256+x%256) (v%256) 1 256=v:=by unfold stw;omega
 rw[h1,h2,h3,h4]
 unfold stw;omega
theorem puts2 (m:Nat→Int) (a v:Int) (a0:0≤a) (hm:a%2=0) (mb:∀ i,0≤m i∧m i<4294967296):puts m a 2 v 2=upd m a 2 v:=by
 funext i
 have b0:bOf v 2 ((0:Nat):Int)=v/256%256:=by unfold bOf;rw[show (2:Int)^(8*(2-1-((0:Nat):Int))).toNat=256 by decide]
 have b1:bOf v 2 ((1:Nat):Int)=v%256:=by unfold bOf;rw[show (2:Int)^(8*(2-1-((1:Nat):Int))).toNat=1 by decide,Int.ediv_one]
 have f0:a+((0:Nat):Int)=a:=by omega
 have f1:a+((1:Nat):Int)=a+1:=by omega
 show upd (upd m (a+((0:Nat):Int)) 1 (bOf v 2 ((0:Nat):Int))) (a+((1:Nat):Int)) 1 (bOf v 2 ((1:Nat):Int)) i=_
 rw[b0,b1,f0,f1]
 have d1:((a+1)/4).toNat=(a/4).toNat:=by omega
 obtain ⟨m0,m1⟩:=mb (a/4).toNat
 by_cases hi:i=(a/4).toNat
 ·subst hi
  have u1:=upd_at (upd m a 1 (v/256%256)) (a+1) 1 (v%256)
  rw[d1]at u1
  rw[u1,upd_at,upd_at,e1,e2,bhd1,bhd1]
  have h4:a%4=0∨a%4=2:=by omega
  rcases h4 with h|h
  ·have g1:(24-8*((a+1)%4))=16:=by omega
   have g2:(24-8*(a%4))=24:=by omega
   have g3:bhd a 2=16:=by unfold bhd;omega
   rw[g1,g2,g3,show (2:Int)^(16:Int).toNat=65536 by decide,show (2:Int)^(24:Int).toNat=16777216 by decide]
   exact stw2a _ v m0 m1
  ·have g1:(24-8*((a+1)%4))=0:=by omega
   have g2:(24-8*(a%4))=8:=by omega
   have g3:bhd a 2=0:=by unfold bhd;omega
   rw[g1,g2,g3,show (2:Int)^(0:Int).toNat=1 by decide,show (2:Int)^(8:Int).toNat=256 by decide]
   exact stw2b _ v m0 m1
 ·rw[upd_ne _ _ _ _ _ (by omega),upd_ne _ _ _ _ _ hi,upd_ne _ _ _ _ _ hi]
theorem puts4 (m:Nat→Int) (a v:Int) (a0:0≤a) (hm:a%4=0) (v0:0≤v) (v1:v<4294967296) (mb:∀ i,0≤m i∧m i<4294967296):puts m a 4 v 4=upd m a 4 v:=by
 funext i
 have b0:bOf v 4 ((0:Nat):Int)=v/16777216%256:=by unfold bOf;rw[show (2:Int)^(8*(4-1-((0:Nat):Int))).toNat=16777216 by decide]
 have b1:bOf v 4 ((1:Nat):Int)=v/65536%256:=by unfold bOf;rw[show (2:Int)^(8*(4-1-((1:Nat):Int))).toNat=65536 by decide]
 have b2:bOf v 4 ((2:Nat):Int)=v/256%256:=by unfold bOf;rw[show (2:Int)^(8*(4-1-((2:Nat):Int))).toNat=256 by decide]
 have b3:bOf v 4 ((3:Nat):Int)=v%256:=by unfold bOf;rw[show (2:Int)^(8*(4-1-((3:Nat):Int))).toNat=1 by decide,Int.ediv_one]
 have f0:a+((0:Nat):Int)=a:=by omega
 have f1:a+((1:Nat):Int)=a+1:=by omega
 have f2:a+((2:Nat):Int)=a+2:=by omega
 have f3:a+((3:Nat):Int)=a+3:=by omega
 show upd (upd (upd (upd m (a+((0:Nat):Int)) 1 (bOf v 4 ((0:Nat):Int))) (a+((1:Nat):Int)) 1 (bOf v 4 ((1:Nat):Int))) (a+((2:Nat):Int)) 1 (bOf v 4 ((2:Nat):Int))) (a+((3:Nat):Int)) 1 (bOf v 4 ((3:Nat):Int)) i=_
 rw[b0,b1,b2,b3,f0,f1,f2,f3]
 have d1:((a+1)/4).toNat=(a/4).toNat:=by omega
 have d2:((a+2)/4).toNat=(a/4).toNat:=by omega
 have d3:((a+3)/4).toNat=(a/4).toNat:=by omega
 obtain ⟨m0,m1⟩:=mb (a/4).toNat
 by_cases hi:i=(a/4).toNat
 ·subst hi
  have u0:=upd_at m a 1 (v/16777216%256)
  have u1:=upd_at (upd m a 1 (v/16777216%256)) (a+1) 1 (v/65536%256)
  rw[d1]at u1
  have u2:=upd_at (upd (upd m a 1 (v/16777216%256)) (a+1) 1 (v/65536%256)) (a+2) 1 (v/256%256)
  rw[d2]at u2
  have u3:=upd_at (upd (upd (upd m a 1 (v/16777216%256)) (a+1) 1 (v/65536%256)) (a+2) 1 (v/256%256)) (a+3) 1 (v%256)
  rw[d3]at u3
  rw[u3,u2,u1,u0,upd_at,e1,e4,bhd1,bhd1,bhd1,bhd1]
  have g0:(24-8*(a%4))=24:=by omega
  have g1:(24-8*((a+1)%4))=16:=by omega
  have g2:(24-8*((a+2)%4))=8:=by omega
  have g3:(24-8*((a+3)%4))=0:=by omega
  have g4:bhd a 4=0:=by unfold bhd;omega
  rw[g0,g1,g2,g3,g4,show (2:Int)^(0:Int).toNat=1 by decide,show (2:Int)^(8:Int).toNat=256 by decide,show (2:Int)^(16:Int).toNat=65536 by decide,show (2:Int)^(24:Int).toNat=16777216 by decide]
  exact stw4 _ v m0 m1 v0 v1
 ·rw[upd_ne _ _ _ _ _ (by omega),upd_ne _ _ _ _ _ (by omega),upd_ne _ _ _ _ _ (by omega),upd_ne _ _ _ _ _ hi,upd_ne _ _ _ _ _ hi]
theorem puts_all (m:Nat→Int) (a s v:Int) (a0:0≤a) (hs:s=1∨s=2∨s=4) (hm:a%s=0) (v0:0≤v) (v1:v<4294967296) (mb:∀ i,0≤m i∧m i<4294967296):puts m a s v s.toNat=upd m a s v:=by
 rcases hs with rfl|rfl|rfl
 ·exact puts1 m a v
 ·exact puts2 m a v a0 hm mb
 ·exact puts4 m a v a0 hm v0 v1 mb
def gets (m:Nat→Int) (a:Int):Nat→Int
 | 0=>0
 | i+1=>256*gets m a i+byt m (a+i)
theorem byt_bd (m:Nat→Int) (a:Int):0≤byt m a∧byt m a<256:=by unfold byt;omega
theorem gets_bd (m:Nat→Int) (a:Int):0≤gets m a 0∧gets m a 0<1∧0≤gets m a 1∧gets m a 1<256∧0≤gets m a 2∧gets m a 2<65536∧0≤gets m a 3∧gets m a 3<16777216∧0≤gets m a 4∧gets m a 4<4294967296:=by
 have h0:=byt_bd m (a+(0:Nat))
 have h1:=byt_bd m (a+(1:Nat))
 have h2:=byt_bd m (a+(2:Nat))
 have h3:=byt_bd m (a+(3:Nat))
 simp only[gets]
 omega
theorem gets_all (m:Nat→Int) (a s:Int) (a0:0≤a) (hs:s=1∨s=2∨s=4) (hm:a%s=0) (mb:∀ i,0≤m i∧m i<4294967296):gets m a s.toNat=m (a/4).toNat/2^(bhd a s).toNat%2^(8*s).toNat:=by
 obtain ⟨m0,m1⟩:=mb (a/4).toNat
 have f0:a+((0:Nat):Int)=a:=by omega
 have f1:a+((1:Nat):Int)=a+1:=by omega
 have f2:a+((2:Nat):Int)=a+2:=by omega
 have f3:a+((3:Nat):Int)=a+3:=by omega
 rcases hs with rfl|rfl|rfl
 ·show 256*0+byt m (a+((0:Nat):Int))=_
  rw[f0,e1];unfold byt;omega
 ·have d1:((a+1)/4).toNat=(a/4).toNat:=by omega
  show 256*(256*0+byt m (a+((0:Nat):Int)))+byt m (a+((1:Nat):Int))=_
  rw[f0,f1,e2];unfold byt
  rw[d1,bhd1,bhd1]
  have h4:a%4=0∨a%4=2:=by omega
  rcases h4 with h|h
  ·have g1:(24-8*((a+1)%4))=16:=by omega
   have g2:(24-8*(a%4))=24:=by omega
   have g3:bhd a 2=16:=by unfold bhd;omega
   rw[g1,g2,g3,show (2:Int)^(16:Int).toNat=65536 by decide,show (2:Int)^(24:Int).toNat=16777216 by decide]
   omega
  ·have g1:(24-8*((a+1)%4))=0:=by omega
   have g2:(24-8*(a%4))=8:=by omega
   have g3:bhd a 2=0:=by unfold bhd;omega
   rw[g1,g2,g3,show (2:Int)^(0:Int).toNat=1 by decide,show (2:Int)^(8:Int).toNat=256 by decide]
   omega
 ·have d1:((a+1)/4).toNat=(a/4).toNat:=by omega
  have d2:((a+2)/4).toNat=(a/4).toNat:=by omega
  have d3:((a+3)/4).toNat=(a/4).toNat:=by omega
  show 256*(256*(256*(256*0+byt m (a+((0:Nat):Int)))+byt m (a+((1:Nat):Int)))+byt m (a+((2:Nat):Int)))+byt m (a+((3:Nat):Int))=_
  rw[f0,f1,f2,f3,e4];unfold byt
  rw[d1,d2,d3,bhd1,bhd1,bhd1,bhd1]
  have g0:(24-8*(a%4))=24:=by omega
  have g1:(24-8*((a+1)%4))=16:=by omega
  have g2:(24-8*((a+2)%4))=8:=by omega
  have g3:(24-8*((a+3)%4))=0:=by omega
  have g4:bhd a 4=0:=by unfold bhd;omega
  rw[g0,g1,g2,g3,g4,show (2:Int)^(0:Int).toNat=1 by decide,show (2:Int)^(8:Int).toNat=256 by decide,show (2:Int)^(16:Int).toNat=65536 by decide,show (2:Int)^(24:Int).toNat=16777216 by decide]
  omega
theorem wd_mod (x s:Int) (sgn:Bool) (hs:s=1∨s=2∨s=4):wd (x%2^(8*s).toNat) (8*s) sgn=wd x (8*s) sgn:=by
 have h1:¬ ((8:Int)*1<1∨32<(8:Int)*1):=by omega
 have h2:¬ ((8:Int)*2<1∨32<(8:Int)*2):=by omega
 have h4:¬ ((8:Int)*4<1∨32<(8:Int)*4):=by omega
 unfold wd
 rcases hs with rfl|rfl|rfl
 ·rw[e1,if_neg h1,if_neg h1,Int.emod_emod_of_dvd _ (Int.dvd_refl _)]
 ·rw[e2,if_neg h2,if_neg h2,Int.emod_emod_of_dvd _ (Int.dvd_refl _)]
 ·rw[e4,if_neg h4,if_neg h4,Int.emod_emod_of_dvd _ (Int.dvd_refl _)]
end Go.Proofs.YtflagpkmebdckaaGreatDoor
namespace Go.Proofs.YtflagpkmebdckaaGreatDoor
open Go.RowKit
open Num
set_option linter.unusedVariables false
set_option maxRecDepth 100000
set_option maxHeartbeats 1000000
theorem part_eq (a up bits:Int):shf 62 a up=a/pw up∧shf 60 1 bits=lo (1*pw bits):=by unfold shf;simp
theorem part_any (a up bits:Int) (h0:0≤a) (h1:a<4294967296) (g0:0≤up) (g1:up<32) (b0:0≤bits) (b1:bits<32) (w:World) :
  Calls Tryz.prog 46 #[.int .u32 a,.int .i64 up,.int .i64 bits] w fun e w'=>e=.returned (.int .i64 (a/pw up%pw bits))∧w'=w:=by
 have s1:=shf_bd (k:=62) (n:=up) h0 h1
 have hp:=pw_bd bits
 have he:=(part_eq a up bits).1
 have hf:shf 60 1 bits=pw bits:=by rw[(part_eq a up bits).2,Int.one_mul];exact lo_of (by omega) (by omega)
 rw[←hf]at hp
 have HE:Hid (shf 62 a up=a/pw up∧shf 60 1 bits=pw bits):=⟨he,hf⟩
 clear he hf
 have hz:¬ shf 60 1 bits=0:=by omega
 go_enter Tryz.func46,Tryz.ntmps46
 go_wp2_with (go_at_call 85;refine (shA _ _ _ (by omega) (by omega) (by omega) _).mono ?_;rintro e w' ⟨rfl,rfl⟩)
 go_ret
 exact ⟨ret_int (by rw[HE.out.1,HE.out.2]),rfl⟩
def rc (a s:Int):Int:=if chk a s=1 then 3 else if chk a s=2 then 9 else if chk a s=3 then 10 else 0
theorem rc_eq (a s:Int):rc a s=if s≠1∧s≠2∧s≠4 then 3 else if a%s≠0 then 9 else if 16384≤a then 10 else 0:=by
 unfold rc chk
 split
 ·rfl
 ·split
  ·rfl
  ·split<;>rfl
theorem reach_any (a s:Int) (h0:0≤a) (h1:a<4294967296) (s0:-9223372036854775808≤s) (s1:s≤9223372036854775807) (w:World):Calls Tryz.prog 44 #[.int .u32 a,.int .i64 s] w fun e w'=>e=.returned (.int .i64 (rc a s))∧w'=w:=by
 by_cases hs:s≠1∧s≠2∧s≠4
 ·have hr:rc a s=3:=by rw[rc_eq,if_pos hs]
  rw[hr]
  have e1:(s != 1)=true:=by simpa using hs.1
  have e2:(s != 2)=true:=by simpa using hs.2.1
  have e4:(s != 4)=true:=by simpa using hs.2.2
  clear hr hs
  go_enter Tryz.func44,Tryz.ntmps44
  go_wp2
  go_ret
  exact ⟨rfl,rfl⟩
 ·have hs':s=1∨s=2∨s=4:=by omega
  have hr:rc a s=if a%s≠0 then 9 else if 16384≤a then 10 else 0:=by rw[rc_eq,if_neg hs]
  rw[hr]
  clear hr hs
  rcases hs' with rfl|rfl|rfl
  ·rw[if_neg (by omega)]
   by_cases hf:16384≤a
   ·rw[if_pos hf]
    go_enter Tryz.func44,Tryz.ntmps44
    go_wp2
    go_ret
    exact ⟨rfl,rfl⟩
   ·rw[if_neg hf]
    go_enter Tryz.func44,Tryz.ntmps44
    go_wp2
    go_ret
    exact ⟨rfl,rfl⟩
  ·by_cases hm:a%2=0
   ·have em:(a%2 != 0)=false:=by simpa using hm
    rw[if_neg (by omega)]
    clear hm
    by_cases hf:16384≤a
    ·rw[if_pos hf]
     go_enter Tryz.func44,Tryz.ntmps44
     go_wp2
     go_ret
     exact ⟨rfl,rfl⟩
    ·rw[if_neg hf]
     go_enter Tryz.func44,Tryz.ntmps44
     go_wp2
     go_ret
     exact ⟨rfl,rfl⟩
   ·have em:(a%2 != 0)=true:=by simpa using hm
    rw[if_pos hm]
    clear hm
    go_enter Tryz.func44,Tryz.ntmps44
    go_wp2
    go_ret
    exact ⟨rfl,rfl⟩
  ·by_cases hm:a%4=0
   ·have em:(a%4 != 0)=false:=by simpa using hm
    rw[if_neg (by omega)]
    clear hm
    by_cases hf:16384≤a
    ·rw[if_pos hf]
     go_enter Tryz.func44,Tryz.ntmps44
     go_wp2
     go_ret
     exact ⟨rfl,rfl⟩
    ·rw[if_neg hf]
     go_enter Tryz.func44,Tryz.ntmps44
     go_wp2
     go_ret
     exact ⟨rfl,rfl⟩
   ·have em:(a%4 != 0)=true:=by simpa using hm
    rw[if_pos hm]
    clear hm
    go_enter Tryz.func44,Tryz.ntmps44
    go_wp2
    go_ret
    exact ⟨rfl,rfl⟩
end Go.Proofs.YtflagpkmebdckaaGreatDoor
namespace Go.Proofs.YtflagpkmebdckaaGreatDoor
open Go.RowKit Go.Maps
open Num
set_option linter.unusedVariables false
set_option maxRecDepth 100000
set_option maxHeartbeats 1000000
def wl (m:Nat→Int) (k:Nat):List Value:=(List.range k).map fun i=>.int .u32 (m i)
theorem wl_len (m:Nat→Int) (k:Nat):(wl m k).length=k:=by simp[wl]
theorem wl_get (m:Nat→Int) (k i:Nat) (h:i<k):(wl m k)[i]?=some (.int .u32 (m i)):=by simp[wl,List.getElem?_map,List.getElem?_range h]
structure DRam (w:World) (rb gb kb:Nat) (m:Nat→Int) (wt:Int→Bool):Prop where
 c0:w.cell? ⟨rb,0,none⟩=some (.slice (some ⟨gb,0,none⟩) 4096 4096)
 c1:w.cell? ⟨rb,1,none⟩=some (.slice (some ⟨kb,0,none⟩) 64 64)
 row:w.heap[gb]?=some (.cells (wl m 4096).toArray 22)
 wc:∀ p:Nat,p<64→w.cell? ⟨kb,p,none⟩=some (.bool (wt p))
 nr:rb≠gb
 nk:kb≠gb
 mb:∀ i,0≤m i∧m i<4294967296
theorem DRam.cell {w:World} {rb gb kb:Nat} {m:Nat→Int} {wt:Int→Bool} (D:DRam w rb gb kb m wt) (i:Nat) (h:i<4096):w.cell? ⟨gb,i,none⟩=some (.int .u32 (m i)):=by
 rw[cell_of_row _ _ _ _ _ _ D.row,List.getElem?_toArray];exact wl_get m 4096 i h
theorem DRam.blocks {w w':World} {rb gb kb:Nat} {m:Nat→Int} {wt:Int→Bool} (D:DRam w rb gb kb m wt) (h:∀ k,k=rb∨k=gb∨k=kb→w'.heap[k]?=w.heap[k]?):DRam w' rb gb kb m wt:=by
 have c:∀ (k j:Nat) (v:Value),k=rb∨k=gb∨k=kb→w.cell? ⟨k,j,none⟩=some v→w'.cell? ⟨k,j,none⟩=some v:=fun k j v hk e=>(World.cell?_of_block (a:=⟨k,j,none⟩) (h k hk)).trans e
 exact ⟨c _ _ _ (by simp) D.c0,c _ _ _ (by simp) D.c1,(h gb (by simp)).trans D.row,fun p hp=>c _ _ _ (by simp) (D.wc p hp),D.nr,D.nk,D.mb⟩
theorem DRam.lt {w:World} {rb gb kb:Nat} {m:Nat→Int} {wt:Int→Bool} (D:DRam w rb gb kb m wt) {k:Nat} (h:k=rb∨k=gb∨k=kb):k<w.heap.size:=by
 rcases h with rfl|rfl|rfl
 ·exact World.block_lt_of_cell? _ _ D.c0
 ·exact (Array.getElem?_eq_some_iff.1 D.row).1
 ·exact World.block_lt_of_cell? _ _ (D.wc 0 (by omega))
theorem DRam.stays {w w':World} {rb gb kb:Nat} {m:Nat→Int} {wt:Int→Bool} (D:DRam w rb gb kb m wt) (h:Below w.heap.size w w'):DRam w' rb gb kb m wt:=D.blocks fun k hk=>h.block k (D.lt hk)
theorem pw_bhd (a:Int):pw (24-8*(a%4))=2^(bhd a 1).toNat:=by
 unfold pw;rw[bhd1,Int.emod_eq_of_lt (by omega) (by omega)]
theorem pw8:pw 8=256:=by decide
theorem wl_set (m:Nat→Int) (i:Nat) (x:Int) (m':Nat→Int) (hx:m' i=x) (ho:∀ j,j≠i→m' j=m j):(wl m 4096).toArray.setIfInBounds i (.int .u32 x)=(wl m' 4096).toArray:=by
 apply Array.ext_getElem?
 intro k
 rw[show (wl m' 4096).toArray[k]?=(wl m' 4096)[k]? by simp]
 by_cases hk:k<4096
 ·rw[wl_get m' 4096 k hk]
  by_cases e:i=k
  ·subst e;rw[Array.getElem?_setIfInBounds_self,if_pos (by simp[wl_len];exact hk),hx]
  ·rw[Array.getElem?_setIfInBounds_ne e,List.getElem?_toArray,wl_get m 4096 k hk,ho k (Ne.symm e)]
 ·rw[Array.getElem?_eq_none (by simp[wl_len];omega),List.getElem?_eq_none (by rw[wl_len];omega)]
theorem at_any {w:World} {rb gb kb:Nat} {m:Nat→Int} {wt:Int→Bool} (D:DRam w rb gb kb m wt) (a:Int) (h0:0≤a) (h1:a<16384):Calls Tryz.prog 86 #[.pointer (some ⟨rb,0,none⟩),.int .i64 a] w fun e w'=>e=.returned (.int .u8 (byt m a))∧w'=w:=by
 have c0:=D.c0
 have hcell:=D.cell (a/4).toNat (by omega)
 obtain ⟨m0,m1⟩:=D.mb (a/4).toNat
 have HB:Hid (m (a/4).toNat/pw (24-8*(a%4))%pw 8=byt m a):=by show _=_;unfold byt;rw[pw_bhd,pw8]
 have hb:=byt_bd m a
 have hp:=part_any (m (a/4).toNat) (24-8*(a%4)) 8 m0 m1 (by omega) (by omega) (by omega) (by omega) w
 rw[HB.out]at hp
 clear D HB
 generalize byt m a=bb at *
 go_enter Tryz.func86,Tryz.ntmps86
 go_wp2_with (go_at_call 46;refine hp.mono ?_;rintro e w' ⟨rfl,rfl⟩)
 go_ret
 exact ⟨rfl,rfl⟩
set_option maxHeartbeats 1000000
theorem pw_lo (a b:Int) (h:b*2^(bhd a 1).toNat<4294967296) (h0:0≤b*2^(bhd a 1).toNat):shf 60 b (24-8*(a%4))=b*2^(bhd a 1).toNat:=by
 unfold shf;rw[if_pos rfl,pw_bhd];exact lo_of h0 h
theorem put_any {w:World} {rb gb kb:Nat} {m:Nat→Int} {wt:Int→Bool} (D:DRam w rb gb kb m wt) (a b:Int) (h0:0≤a) (h1:a<16384) (b0:0≤b) (b1:b<256):Calls Tryz.prog 45 #[.pointer (some ⟨rb,0,none⟩),.int .i64 a,.int .u8 b] w fun e w'=>e=.returned (.tuple #[])∧DRam w' rb gb kb (upd m a 1 b) wt∧w.grownBy w' (some gb):=by
 have c0:=D.c0
 have hcell:=D.cell (a/4).toNat (by omega)
 have hfz:w.frozen? ⟨gb,(a/4).toNat,none⟩=false:=by unfold World.frozen?;rw[D.row];simp
 obtain ⟨m0,m1⟩:=D.mb (a/4).toNat
 have hat:=at_any D a h0 h1
 have hbb:=byt_bd m a
 have hpe:=put_eq (m (a/4).toNat) b a m0 m1 b0 b1
 have hy:m (a/4).toNat/2^(bhd a 1).toNat%256=byt m a:=rfl
 rw[hy]at hpe
 obtain ⟨p1,p2,p3,p4,p5,p6,p7⟩:=hpe
 have hs1:=shA 60 (byt m a) (24-8*(a%4)) hbb.1 (by omega) (by omega) w
 rw[pw_lo a (byt m a) p4 p5]at hs1
 have hs2:=shA 60 b (24-8*(a%4)) b0 (by omega) (by omega) w
 rw[pw_lo a b p3 p6]at hs2
 have HU:Hid (upd m a 1 b (a/4).toNat=m (a/4).toNat-byt m a*2^(bhd a 1).toNat+b*2^(bhd a 1).toNat):=by
  show _=_
  rw[upd_at,←p7]
 have DH:Hid (DRam w rb gb kb m wt):=D
 clear D p7 hy
 generalize byt m a*2^(bhd a 1).toNat=x1 at *
 generalize b*2^(bhd a 1).toNat=x2 at *
 have key:∀ (n:Nat),DRam ((w.drewN n).setCell ⟨gb,(a/4).toNat,none⟩ (.int .u32 (m (a/4).toNat-x1+x2))) rb gb kb (upd m a 1 b) wt∧w.grownBy ((w.drewN n).setCell ⟨gb,(a/4).toNat,none⟩ (.int .u32 (m (a/4).toNat-x1+x2))) (some gb):=by
  intro n
  have d:=DH.out
  have oth:∀ (k j:Nat) (v:Value),k≠gb→w.cell? ⟨k,j,none⟩=some v→((w.drewN n).setCell ⟨gb,(a/4).toNat,none⟩ (.int .u32 (m (a/4).toNat-x1+x2))).cell? ⟨k,j,none⟩=some v:=fun k j v hk e=>by
   rw[World.cell?_setCell_other _ _ _ _ (by intro e;injection e with e1 e2;exact hk e1.symm)];exact e
  refine ⟨⟨oth _ _ _ d.nr d.c0,oth _ _ _ d.nr d.c1,?_,fun p hp=>oth _ _ _ d.nk (d.wc p hp),d.nr,d.nk,upd_bd m a 1 b (Or.inl rfl) (by omega) d.mb⟩,⟨rfl,rfl,rfl,by simp,fun k hk hne=>Below.heap_setCell _ _ _ k (by intro e;exact hne (by rw[e]))⟩⟩
  rw[heap_setCell_same (w.drewN n) gb (a/4).toNat (wl m 4096).toArray 22 _ d.row]
  rw[wl_set m (a/4).toNat _ (upd m a 1 b) HU.out (fun j hj=>upd_ne m a 1 b j hj)]
 clear HU DH
 generalize byt m a=bo at *
 go_enter Tryz.func45,Tryz.ntmps45
 go_wp2_with fail
 refine hat.mono ?_
 rintro e w' ⟨rfl,rfl⟩
 clear hat
 go_wp2_with fail
 refine hs1.mono ?_
 rintro e w' ⟨rfl,rfl⟩
 clear hs1
 go_wp2_with fail
 refine hs2.mono ?_
 rintro e w' ⟨rfl,rfl⟩
 clear hs2
 go_upto_region 3 with fail
 have key1:=key 1
 clear key
 go_region
 all_goals
  go_wp2
  first|go_end0|refine bodyPost_ret (results_none rfl _ _ _) rfl ?_
  exact ⟨rfl,key1⟩
set_option maxHeartbeats 1000000
theorem dgrown_trans {w w1 w2:World} {g:Nat} (a:w.grownBy w1 (some g)) (b:w1.grownBy w2 (some g)):w.grownBy w2 (some g) :=
 ⟨b.os.trans a.os,b.tape.trans a.tape,b.output.trans a.output,Nat.le_trans a.size b.size,fun k hk hn=>(b.block k (Nat.lt_of_lt_of_le hk a.size) hn).trans (a.block k hk hn)⟩
theorem dgrown_refl (w:World) (r:Option Nat):w.grownBy w r:=⟨rfl,rfl,rfl,Nat.le_refl _,fun _ _ _=>rfl⟩
theorem rc_ok {a s:Int} (h:chk a s=0):rc a s=0:=by unfold rc;rw[h];rfl
theorem rc_no {a s:Int} (h:chk a s≠0):0<rc a s:=by
 unfold rc chk at *
 split at h
 ·rename_i hs;simp[hs]
 ·rename_i hs
  split at h
  ·rename_i hm;simp[hs,hm]
  ·rename_i hm
   split at h
   ·rename_i hf;simp[hs,hm,hf]
   ·exact absurd rfl h
theorem dload_ok {w:World} {rb gb kb:Nat} {m:Nat→Int} {wt:Int→Bool} (D:DRam w rb gb kb m wt) (a s:Int) (sgn:Bool) (h0:0≤a) (h1:a<4294967296) (hc:chk a s=0):Calls Tryz.prog 99 #[.pointer (some ⟨rb,0,none⟩),.int .u32 a,.int .i64 s,.bool sgn] w fun e w'=>e=.returned (.tuple #[.int .u32 (ld m a s sgn),.int .i64 0])∧w'=w:=by
 obtain ⟨hs,hm,hf⟩:=chk_ok hc
 have hre:=reach_any a s h0 h1 (by omega) (by omega) w
 rw[rc_ok hc]at hre
 have s0:1≤s:=by omega
 have s1:s≤4:=by omega
 have hgo:a+s≤16384:=by rcases hs with rfl|rfl|rfl<;>omega
 have HG:Hid (gets m a s.toNat=m (a/4).toNat/2^(bhd a s).toNat%2^(8*s).toNat):=gets_all m a s h0 hs hm D.mb
 have HS:Hid (s=1∨s=2∨s=4):=hs
 have hgb:=gets_bd m a
 have DH:Hid (DRam w rb gb kb m wt):=D
 clear D hc hm hs
 go_enter Tryz.func99,Tryz.ntmps99
 go_wp2_with fail
 refine hre.mono ?_
 rintro e w' ⟨rfl,rfl⟩
 clear hre
 go_wp2_with fail
 go_loopw [11,12] (fun x i wr=>∃ j:Nat,(j:Int)≤s∧i=.int .i64 j∧x=.int .i64 (gets m a j)∧wr=w') (fun _ i _=>s.toNat-(intOf i).toNat)
 case atStart=>exact ⟨0,by omega,rfl,rfl,rfl⟩
 case round =>
  obtain ⟨j,hj,rfl,rfl,rfl⟩:=hrel
  by_cases hlt:(j:Int)<s
  ·have hat:=at_any DH.out (a+j) (by omega) (by omega)
   have hb:=byt_bd m (a+j)
   have hj4:j=0∨j=1∨j=2∨j=3:=by omega
   have hg:0≤gets m a j∧gets m a j<16777216:=by rcases hj4 with rfl|rfl|rfl|rfl<;>omega
   have HN:Hid (gets m a (j+1)=256*gets m a j+byt m (a+j)):=rfl
   clear hgb hj4
   generalize byt m (a+j)=bo at *
   generalize gets m a j=g at *
   obtain ⟨g0,g1⟩:=hg
   obtain ⟨b0,b1⟩:=hb
   go_wp2_with fail
   refine hat.mono ?_
   rintro e w'' ⟨rfl,rfl⟩
   clear hat
   go_wp2
   go_roundw
   case rel=>exact ⟨j+1,by omega,by go_num,by rw[HN.out],by first|rfl|trivial⟩
   case measure=>simp[intOf];omega
  ·have hjs:(j:Int)=s:=by omega
   have hjn:j=s.toNat:=by omega
   have hg:0≤gets m a j∧gets m a j<4294967296:=by
    have:j=1∨j=2∨j=4:=by have:=HS.out;omega
    rcases this with rfl|rfl|rfl<;>omega
   have HL:Hid (wd (gets m a j) (8*s) sgn=ld m a s sgn):=by
    show _=_
    rw[hjn,HG.out,wd_mod _ _ _ HS.out];rfl
   have hwo:=wideOf_any (gets m a j) (8*s) sgn hg.1 hg.2 wr
   rw[HL.out]at hwo
   clear hgb HL HG hjn hjs
   generalize gets m a j=g at *
   obtain ⟨g0,g1⟩:=hg
   go_wp2_with fail
   refine hwo.mono ?_
   rintro e w'' ⟨rfl,rfl⟩
   clear hwo
   go_wp2
   go_ret2
   exact ⟨rfl,rfl⟩
theorem dload_no (w:World) (p:Value) (a s:Int) (sgn:Bool) (h0:0≤a) (h1:a<4294967296) (s0:-9223372036854775808≤s) (s1:s≤9223372036854775807) (hc:chk a s≠0):Calls Tryz.prog 99 #[p,.int .u32 a,.int .i64 s,.bool sgn] w fun e w'=>e=.returned (.tuple #[.int .u32 0,.int .i64 (rc a s)])∧w'=w:=by
 have hre:=reach_any a s h0 h1 s0 s1 w
 have hp:=rc_no hc
 clear hc
 generalize rc a s=r at *
 go_enter Tryz.func99,Tryz.ntmps99
 go_wp2_with fail
 refine hre.mono ?_
 rintro e w' ⟨rfl,rfl⟩
 clear hre
 go_wp2
 go_ret2
 exact ⟨rfl,rfl⟩
theorem dstore_no (w:World) (p:Value) (a s v:Int) (h0:0≤a) (h1:a<4294967296) (s0:-9223372036854775808≤s) (s1:s≤9223372036854775807) (hc:chk a s≠0):Calls Tryz.prog 12 #[p,.int .u32 a,.int .i64 s,.int .u32 v] w fun e w'=>e=.returned (.int .i64 (rc a s))∧w'=w:=by
 have hre:=reach_any a s h0 h1 s0 s1 w
 have hp:=rc_no hc
 clear hc
 generalize rc a s=r at *
 go_enter Tryz.func12,Tryz.ntmps12
 go_wp2_with fail
 refine hre.mono ?_
 rintro e w' ⟨rfl,rfl⟩
 clear hre
 go_wp2
 go_ret
 exact ⟨rfl,rfl⟩
theorem pw_b (s j:Int) (h0:0≤s-1-j) (h1:s-1-j≤3):pw (8*(s-1-j))=2^(8*(s-1-j)).toNat:=by
 unfold pw;rw[Int.emod_eq_of_lt (by omega) (by omega)]
theorem dstore_ok {w:World} {rb gb kb:Nat} {m:Nat→Int} {wt:Int→Bool} (D:DRam w rb gb kb m wt) (a s v:Int) (h0:0≤a) (h1:a<4294967296) (v0:0≤v) (v1:v<4294967296) (hc:chk a s=0) (hwt:wt (a/256)=false):Calls Tryz.prog 12 #[.pointer (some ⟨rb,0,none⟩),.int .u32 a,.int .i64 s,.int .u32 v] w fun e w'=>e=.returned (.int .i64 0)∧DRam w' rb gb kb (upd m a s v) wt∧w.grownBy w' (some gb):=by
 obtain ⟨hs,hm,hf⟩:=chk_ok hc
 have hre:=reach_any a s h0 h1 (by omega) (by omega) w
 rw[rc_ok hc]at hre
 have s0:1≤s:=by omega
 have s1:s≤4:=by omega
 have hgo:a+s≤16384:=by rcases hs with rfl|rfl|rfl<;>omega
 have HP:Hid (puts m a s v s.toNat=upd m a s v):=puts_all m a s v h0 hs hm v0 v1 D.mb
 have DH:Hid (DRam w rb gb kb m wt):=D
 clear D hc hm hs
 go_enter Tryz.func12,Tryz.ntmps12
 go_wp2_with fail
 refine hre.mono ?_
 rintro e w' ⟨rfl,rfl⟩
 clear hre
 go_wp2_with fail
 go_loopw [10] (fun i wr=>∃ j:Nat,(j:Int)≤s∧i=.int .i64 j∧Hid (DRam wr rb gb kb (puts m a s v j) wt)∧Hid (w'.grownBy wr (some gb))) (fun i _=>s.toNat-(intOf i).toNat)
 case atStart=>exact ⟨0,by omega,rfl,DH.out,dgrown_refl _ _⟩
 case round =>
  obtain ⟨j,hj,rfl,DR,GR⟩:=hrel
  by_cases hlt:(j:Int)<s
  ·have hpa:=part_any v (8*(s-1-j)) 8 v0 v1 (by omega) (by omega) (by omega) (by omega) wr
   rw[pw8,pw_b s j (by omega) (by omega)]at hpa
   have hb:0≤bOf v s j∧bOf v s j<256:=by unfold bOf;omega
   have hpu:=put_any DR.out (a+j) (bOf v s j) (by omega) (by omega) hb.1 hb.2
   have e:v/2^(8*(s-1-(j:Int))).toNat%256=bOf v s j:=rfl
   rw[e]at hpa
   have HN:Hid (puts m a s v (j+1)=upd (puts m a s v j) (a+j) 1 (bOf v s j)):=rfl
   clear e
   generalize bOf v s j=bo at *
   obtain ⟨b0,b1⟩:=hb
   go_wp2_with fail
   refine hpa.mono ?_
   rintro e w'' ⟨rfl,rfl⟩
   clear hpa
   go_wp2_with fail
   refine hpu.mono ?_
   rintro e w2 ⟨rfl,D2,G2⟩
   clear hpu
   go_wp2
   go_roundw
   case rel=>exact ⟨j+1,by omega,by go_num,by show DRam _ _ _ _ _ _;rw[HN.out];exact D2,dgrown_trans GR.out G2⟩
   case measure=>simp[intOf];omega
  ·have hjn:j=s.toNat:=by omega
   have D2:Hid (DRam wr rb gb kb (upd m a s v) wt):=by show DRam _ _ _ _ _ _;rw[←HP.out,←hjn];exact DR.out
   have c1:=D2.out.c1
   have hw:=D2.out.wc (a/256).toNat (by omega)
   rw[show (((a/256).toNat:Nat):Int)=a/256 by omega,hwt]at hw
   clear DR hjn HP
   go_wp2
   go_ret
   exact ⟨rfl,D2.out,GR.out⟩
set_option maxHeartbeats 1000000
def mw (xs:List Int) (i:Nat):Int:=xs.getD i 0
structure WordsIn (w:World) (v:Value) (xs:List Int):Prop where
 sh:∃ ao cap,v=.slice ao xs.length cap∧xs.length≤cap∧(0<xs.length→∃ b off,ao=some ⟨b,off,none⟩∧∀ i,i<xs.length→w.cell? ⟨b,off+i,none⟩=some (.int .u32 (xs.getD i 0)))
 wf:∀ i,0≤mw xs i∧mw xs i<4294967296
structure DMem (w:World) (rb gb kb hb:Nat) (m:Nat→Int) (wt ht:Int→Bool):Prop where
 d:DRam w rb gb kb m wt
 c2:w.cell? ⟨rb,2,none⟩=some (.slice (some ⟨hb,0,none⟩) 64 64)
 hc:∀ p:Nat,p<64→w.cell? ⟨hb,p,none⟩=some (.bool (ht p))
 fk:∀ p:Nat,w.frozen? ⟨kb,p,none⟩=false
 fh:∀ p:Nat,w.frozen? ⟨hb,p,none⟩=false
 ng:hb≠gb
 nr:hb≠rb
 nk:hb≠kb
 kr:kb≠rb
 fr:∀ p:Nat,w.frozen? ⟨rb,p,none⟩=false
theorem infoU:(Tryz.prog.info? 22).map (fun i=>(i.zero,i.size,i.bytes))=some (some (.int .u32 0),1,4):=by kernel_rfl
theorem DRam.congr {w:World} {rb gb kb:Nat} {m m':Nat→Int} {wt:Int→Bool} (D:DRam w rb gb kb m wt) (h:∀ i,i<4096→m i=m' i) (mb:∀ i,0≤m' i∧m' i<4294967296):DRam w rb gb kb m' wt:=by
 have e:wl m 4096=wl m' 4096:=by
  unfold wl
  apply List.map_congr_left
  intro i hi
  rw[h i (List.mem_range.1 hi)]
 exact ⟨D.c0,D.c1,by rw[←e];exact D.row,D.wc,D.nr,D.nk,mb⟩
theorem DMem.congr {w:World} {rb gb kb hb:Nat} {m m':Nat→Int} {wt ht:Int→Bool} (D:DMem w rb gb kb hb m wt ht) (h:∀ i,i<4096→m i=m' i) (mb:∀ i,0≤m' i∧m' i<4294967296):DMem w rb gb kb hb m' wt ht:={ D with d:=D.d.congr h mb }
theorem info4:(Tryz.prog.info? 4).map (fun i=>(i.zero,i.size,i.bytes))=some (some (.bool false),1,1):=by kernel_rfl
def F64:Array Value:=madeCells #[.bool false] 64
theorem F64_get (p:Nat) (h:p<64):F64[p]?=some (.bool false):=by
 simp[F64,madeCells,h,Nat.mod_one]
theorem made_words:madeCells #[.int .u32 0] 4096=(wl (fun _=>0) 4096).toArray:=by
 apply Array.ext_getElem?
 intro k
 rw[show (wl (fun _=>0) 4096).toArray[k]?=(wl (fun _=>0) 4096)[k]? by simp]
 by_cases hk:k<4096
 ·rw[wl_get _ 4096 k hk];simp[madeCells,hk,Nat.mod_one]
 ·rw[Array.getElem?_eq_none (by rw[size_madeCells];omega),List.getElem?_eq_none (by rw[wl_len];omega)]
theorem make64 (W:World):(Instr.makeSlice 72 (.int .i64 64) (.int .i64 64)).run Tryz.prog W=.ok (.slice (some ⟨W.heap.size,0,none⟩) 64 64) (W.alloc (.cells F64 4)):=by
 obtain ⟨i0,hi,hz0,hz1,hz2⟩:=info_parts info4
 have:=run_make (P:=Tryz.prog) W 72 4 i0 (.bool false) Tryz.underlying72 hi hz0 .i64 .i64 64 64 (by omega) (by omega) (by rw[hz2];decide) (by omega)
 rw[hz1]at this
 exact this
theorem make4096 (W:World):(Instr.makeSlice 46 (.int .i64 4096) (.int .i64 4096)).run Tryz.prog W=.ok (.slice (some ⟨W.heap.size,0,none⟩) 4096 4096) (W.alloc (.cells (wl (fun _=>0) 4096).toArray 22)):=by
 obtain ⟨i0,hi,hz0,hz1,hz2⟩:=info_parts infoU
 have:=run_make (P:=Tryz.prog) W 46 22 i0 (.int .u32 0) Tryz.underlying46 hi hz0 .i64 .i64 4096 4096 (by omega) (by omega) (by rw[hz2];decide) (by omega)
 rw[hz1,show (Value.int .u32 0).cells=#[.int .u32 0] from rfl,show (4096:Int).toNat*1=4096 by decide,made_words,show (4096:Int).toNat=4096 by decide]at this
 exact this
def mwN (xs:List Int) (n:Nat) (k:Nat):Int:=if k<n then mw xs k else 0
theorem mwN_zero (xs:List Int):mwN xs 0=fun _=>0:=by funext k;unfold mwN;rw[if_neg (by omega)]
theorem mwN_all (xs:List Int):mwN xs xs.length=mw xs:=by
 funext k;unfold mwN
 split
 ·rfl
 ·unfold mw;rw[List.getD_eq_getElem?_getD,List.getElem?_eq_none (by omega)];rfl
theorem dput_word {w wr:World} {rb gb kb hb j:Nat} {xs:List Int} {x:Int} (D:DMem wr rb gb kb hb (mwN xs j) (fun _=>false) (fun _=>false)) (B:Below w.heap.size w wr) (hg:w.heap.size≤gb) (hx:mw xs j=x) (hj2:j<4096) (wf:∀ i,0≤mw xs i∧mw xs i<4294967296) :
  DMem (wr.setCell ⟨gb,j,none⟩ (.int .u32 x)).drew rb gb kb hb (mwN xs (j+1)) (fun _=>false) (fun _=>false)∧Below w.heap.size w (wr.setCell ⟨gb,j,none⟩ (.int .u32 x)).drew:=by
 have oth:∀ (k i:Nat) (v:Value),k≠gb→wr.cell? ⟨k,i,none⟩=some v→(wr.setCell ⟨gb,j,none⟩ (.int .u32 x)).drew.cell? ⟨k,i,none⟩=some v:=fun k i v hk e=>by
  show (wr.setCell ⟨gb,j,none⟩ (.int .u32 x)).cell? ⟨k,i,none⟩=some v
  rw[World.cell?_setCell_other _ _ _ _ (by intro e;injection e with e1 e2;exact hk e1.symm)];exact e
 have ho:∀ k,k≠j→mwN xs (j+1) k=mwN xs j k:=by
  intro k hk
  unfold mwN
  by_cases h:k<j
  ·rw[if_pos h,if_pos (by omega)]
  ·rw[if_neg h,if_neg (by omega)]
 have hrow:(wr.setCell ⟨gb,j,none⟩ (.int .u32 x)).heap[gb]?=some (.cells (wl (mwN xs (j+1)) 4096).toArray 22):=by
  rw[heap_setCell_same wr gb j (wl (mwN xs j) 4096).toArray 22 _ D.d.row]
  rw[wl_set (mwN xs j) j _ (mwN xs (j+1)) (by unfold mwN;rw[if_pos (by omega)];exact hx) ho]
 have fz:∀ (k p:Nat),k≠gb→wr.frozen? ⟨k,p,none⟩=false→(wr.setCell ⟨gb,j,none⟩ (.int .u32 x)).drew.frozen? ⟨k,p,none⟩=false:=fun k p hk e=>(World.frozen?_of_block (Below.heap_setCell wr ⟨gb,j,none⟩ (.int .u32 x) k hk)).trans e
 refine ⟨⟨⟨oth _ _ _ D.d.nr D.d.c0,oth _ _ _ D.d.nr D.d.c1,hrow,fun p hp=>oth _ _ _ D.d.nk (D.d.wc p hp),D.d.nr,D.d.nk,fun i=>?_⟩,oth _ _ _ D.d.nr D.c2,fun p hp=>oth _ _ _ D.ng (D.hc p hp),fun p=>fz _ _ D.d.nk (D.fk p),fun p=>fz _ _ D.ng (D.fh p),D.ng,D.nr,D.nk,D.kr,fun p=>fz _ _ D.d.nr (D.fr p)⟩,?_⟩
 ·unfold mwN
  split
  ·exact wf i
  ·omega
 ·exact below_drew (B.setCell hg _)
theorem dmade (w:World) (k1 k2:Nat) (hk:(k1=w.heap.size∧k2=w.heap.size+1)∨(k1=w.heap.size+1∧k2=w.heap.size)) :
  DMem (((((w.alloc (.cells F64 4)).alloc (.cells F64 4)).alloc (.cells #[.slice (some ⟨w.heap.size+1+1+1,0,none⟩) 4096 4096,.slice (some ⟨k1,0,none⟩) 64 64,.slice (some ⟨k2,0,none⟩) 64 64] 74)).alloc (.cells (wl (fun _=>0) 4096).toArray 22)).drew) (w.heap.size+1+1) (w.heap.size+1+1+1) k1 k2 (fun _=>0) (fun _=>false) (fun _=>false) ∧
  Below w.heap.size w (((((w.alloc (.cells F64 4)).alloc (.cells F64 4)).alloc (.cells #[.slice (some ⟨w.heap.size+1+1+1,0,none⟩) 4096 4096,.slice (some ⟨k1,0,none⟩) 64 64,.slice (some ⟨k2,0,none⟩) 64 64] 74)).alloc (.cells (wl (fun _=>0) 4096).toArray 22)).drew):=by
 obtain ⟨R0,hR⟩:∃ R0,R0=(wl (fun _=>0) 4096).toArray:=⟨_,rfl⟩
 rw[←hR]
 have z1:(w.alloc (.cells F64 4)).heap.size=w.heap.size+1:=by simp
 have r0:(w.alloc (.cells F64 4)).heap[w.heap.size]?=some (.cells F64 4):=heap_alloc_new w _
 have r1:((w.alloc (.cells F64 4)).alloc (.cells F64 4)).heap[w.heap.size+1]?=some (.cells F64 4):=by have:=heap_alloc_new (w.alloc (.cells F64 4)) (.cells F64 4);rwa [z1]at this
 have r0':((w.alloc (.cells F64 4)).alloc (.cells F64 4)).heap[w.heap.size]?=some (.cells F64 4):=(Below.heap_alloc _ _ _ (by simp)).trans r0
 generalize hW2:(w.alloc (.cells F64 4)).alloc (.cells F64 4)=W2 at *
 have z2:W2.heap.size=w.heap.size+1+1:=by rw[←hW2];simp
 have b2:Below w.heap.size w W2:=by rw[←hW2];exact ((Below.refl _ _).alloc (Nat.le_refl _) _).alloc (by simp) _
 generalize hC:(#[.slice (some ⟨w.heap.size+1+1+1,0,none⟩) 4096 4096,.slice (some ⟨k1,0,none⟩) 64 64,.slice (some ⟨k2,0,none⟩) 64 64]:Array Value)=C
 have r2:(W2.alloc (.cells C 74)).heap[w.heap.size+1+1]?=some (.cells C 74):=by have:=heap_alloc_new W2 (.cells C 74);rwa [z2]at this
 have rk:(W2.alloc (.cells C 74)).heap[k1]?=some (.cells F64 4):=by
  rcases hk with ⟨rfl,_⟩|⟨rfl,_⟩
  ·exact (Below.heap_alloc _ _ _ (by omega)).trans r0'
  ·exact (Below.heap_alloc _ _ _ (by omega)).trans r1
 have rh:(W2.alloc (.cells C 74)).heap[k2]?=some (.cells F64 4):=by
  rcases hk with ⟨_,rfl⟩|⟨_,rfl⟩
  ·exact (Below.heap_alloc _ _ _ (by omega)).trans r1
  ·exact (Below.heap_alloc _ _ _ (by omega)).trans r0'
 have z3:(W2.alloc (.cells C 74)).heap.size=w.heap.size+1+1+1:=by simp[z2]
 have b3:Below w.heap.size w (W2.alloc (.cells C 74)):=b2.alloc (by omega) _
 generalize W2.alloc (.cells C 74)=W3 at *
 have r3:(W3.alloc (.cells R0 22)).drew.heap[w.heap.size+1+1+1]?=some (.cells R0 22):=by have:=heap_alloc_new W3 (.cells R0 22);rwa [z3]at this
 have r2':(W3.alloc (.cells R0 22)).drew.heap[w.heap.size+1+1]?=some (.cells C 74):=(Below.heap_alloc W3 _ _ (by omega)).trans r2
 have rk':(W3.alloc (.cells R0 22)).drew.heap[k1]?=some (.cells F64 4):=(Below.heap_alloc W3 _ _ (by omega)).trans rk
 have rh':(W3.alloc (.cells R0 22)).drew.heap[k2]?=some (.cells F64 4):=(Below.heap_alloc W3 _ _ (by omega)).trans rh
 have c:∀ (j:Nat),(W3.alloc (.cells R0 22)).drew.cell? ⟨w.heap.size+1+1,j,none⟩=C[j]?:=fun j=>cell_of_row _ _ _ _ _ _ r2'
 refine ⟨⟨⟨by rw[c,←hC];rfl,by rw[c,←hC];rfl,by rw[r3,hR],fun p hp=>by rw[cell_of_row _ _ _ _ _ _ rk'];exact F64_get p hp,by omega,by omega,fun i=>by simp⟩,by rw[c,←hC];rfl,fun p hp=>by rw[cell_of_row _ _ _ _ _ _ rh'];exact F64_get p hp,fun p=>by unfold World.frozen?;rw[rk'];simp,fun p=>by unfold World.frozen?;rw[rh'];simp,by omega,by omega,by omega,by omega,fun p=>by unfold World.frozen?;rw[r2'];simp⟩,?_⟩
 exact below_drew (b3.alloc (by omega) _)
theorem dnew_any {w:World} {v:Value} {xs:List Int} (X:WordsIn w v xs) (hx:xs.length≤5000) :
  Calls Tryz.prog 36 #[v] w fun e w'=>∃ rb gb kb hb:Nat,e=.returned (.pointer (some ⟨rb,0,none⟩))∧DMem w' rb gb kb hb (mw xs) (fun _=>false) (fun _=>false)∧Below w.heap.size w w'∧w.heap.size≤rb∧w.heap.size≤gb∧w.heap.size≤kb∧w.heap.size≤hb:=by
 obtain ⟨⟨ao,cap,rfl,hcap,hao⟩,wf⟩:=X
 have h64:=make64
 have h4k:=make4096
 have HA:Hid (0<xs.length→∃ b off:Nat,ao=some ⟨b,off,none⟩∧∀ i,i<xs.length→w.cell? ⟨b,off+i,none⟩=some (.int .u32 (xs.getD i 0))):=hao
 clear hao
 generalize hR:(wl (fun _=>0) 4096).toArray=R0 at h4k
 go_enter Tryz.func36,Tryz.ntmps36
 go_upto_region 1 with fail
 go_region
 ·go_wp2_with fail
  have M:=dmade w w.heap.size (w.heap.size+1) (Or.inl ⟨rfl,rfl⟩)
  obtain ⟨D0,B0⟩:=M
  rw[hR]at D0 B0
  have D0H:=D0
  clear D0 h64 h4k hR
  generalize ((((w.alloc (.cells F64 4)).alloc (.cells F64 4)).alloc (.cells #[.slice (some ⟨w.heap.size+1+1+1,0,none⟩) 4096 4096,.slice (some ⟨w.heap.size,0,none⟩) 64 64,.slice (some ⟨(w.heap.size+1),0,none⟩) 64 64] 74)).alloc (.cells R0 22)).drew=w1 at *
  generalize hrb:w.heap.size+1+1=rb at *
  generalize hgb:rb+1=gb at *
  obtain ⟨kb,hkb⟩:∃ kb,kb=w.heap.size:=⟨_,rfl⟩
  obtain ⟨hb,hhb⟩:∃ hb,hb=w.heap.size+1:=⟨_,rfl⟩
  rw[←hhb,←hkb]at D0H
  have L1:Hid (w.heap.size≤rb∧w.heap.size≤gb∧w.heap.size≤kb∧w.heap.size≤hb):=by show _∧_;omega
  clear hrb hgb hkb hhb
  go_loopw [4] (fun i wr=>∃ j:Nat,j≤xs.length∧j≤4096∧i=.int .i64 j∧Hid (DMem wr rb gb kb hb (mwN xs j) (fun _=>false) (fun _=>false))∧Hid (Below w.heap.size w wr)) (fun i _=>xs.length-(intOf i).toNat)
  case atStart=>exact ⟨0,Nat.zero_le _,Nat.zero_le _,rfl,by show DMem _ _ _ _ _ _ _ _;rw[mwN_zero];exact D0H,B0⟩
  case round =>
   clear D0H B0
   obtain ⟨j,hj,hj4,rfl,DR,BR⟩:=hrel
   have c0:=DR.out.d.c0
   by_cases hfull:j=4096
   ·have hd4:decide ((j:Int)<4096)=false:=by simp;omega
    have hfin:DMem wr rb gb kb hb (mw xs) (fun _=>false) (fun _=>false):=DR.out.congr (fun i hi=>by unfold mwN;rw[if_pos (by omega)]) wf
    by_cases hlt:j<xs.length
    ·have hlt':(j:Int)<xs.length:=by omega
     go_wp2
     go_ret
     first|exact ⟨rb,rfl,gb,kb,hb,hfin,BR.out,L1.out⟩|exact ⟨rb,gb,kb,hb,rfl,hfin,BR.out,L1.out⟩
    ·have hlt':¬ (j:Int)<xs.length:=by omega
     go_wp2
     go_ret
     first|exact ⟨rb,rfl,gb,kb,hb,hfin,BR.out,L1.out⟩|exact ⟨rb,gb,kb,hb,rfl,hfin,BR.out,L1.out⟩
   by_cases hlt:j<xs.length
   ·have hlt':(j:Int)<xs.length:=by omega
    have hlt2:(j:Int)<4096:=by omega
    obtain ⟨b,off,rfl,hc⟩:=HA.out (by omega)
    obtain ⟨x,hx⟩:∃ x,mw xs j=x:=⟨_,rfl⟩
    have hcell:wr.cell? ⟨b,off+j,none⟩=some (.int .u32 x):=by
     have:=hc j hlt
     rw[show xs.getD j 0=x from hx]at this
     rw[BR.out.cell (World.block_lt_of_cell? _ _ this)];exact this
    have hold:=DR.out.d.cell j (by omega)
    have hfz:wr.frozen? ⟨gb,j,none⟩=false:=by unfold World.frozen?;rw[DR.out.d.row];simp
    have key:=dput_word DR.out BR.out L1.out.2.1 hx (by omega) wf
    clear hx
    clear hc
    go_wp2_with fail
    go_region
    all_goals
     go_wp2
     go_roundw
     case rel=>exact ⟨j+1,by omega,by omega,by go_num,key.1,key.2⟩
     case measure=>simp[intOf];omega
   ·have hlt':¬ (j:Int)<xs.length:=by omega
    obtain rfl:j=xs.length:=by omega
    go_wp2
    go_ret
    first|exact ⟨rb,rfl,gb,kb,hb,by rw[←mwN_all];exact DR.out,BR.out,L1.out⟩|exact ⟨rb,gb,kb,hb,rfl,by rw[←mwN_all];exact DR.out,BR.out,L1.out⟩
 ·go_wp2_with fail
  have M:=dmade w (w.heap.size+1) w.heap.size (Or.inr ⟨rfl,rfl⟩)
  obtain ⟨D0,B0⟩:=M
  rw[hR]at D0 B0
  have D0H:=D0
  clear D0 h64 h4k hR
  generalize ((((w.alloc (.cells F64 4)).alloc (.cells F64 4)).alloc (.cells #[.slice (some ⟨w.heap.size+1+1+1,0,none⟩) 4096 4096,.slice (some ⟨(w.heap.size+1),0,none⟩) 64 64,.slice (some ⟨w.heap.size,0,none⟩) 64 64] 74)).alloc (.cells R0 22)).drew=w1 at *
  generalize hrb:w.heap.size+1+1=rb at *
  generalize hgb:rb+1=gb at *
  obtain ⟨kb,hkb⟩:∃ kb,kb=(w.heap.size+1):=⟨_,rfl⟩
  obtain ⟨hb,hhb⟩:∃ hb,hb=w.heap.size:=⟨_,rfl⟩
  rw[←hkb,←hhb]at D0H
  have L1:Hid (w.heap.size≤rb∧w.heap.size≤gb∧w.heap.size≤kb∧w.heap.size≤hb):=by show _∧_;omega
  clear hrb hgb hkb hhb
  go_loopw [4] (fun i wr=>∃ j:Nat,j≤xs.length∧j≤4096∧i=.int .i64 j∧Hid (DMem wr rb gb kb hb (mwN xs j) (fun _=>false) (fun _=>false))∧Hid (Below w.heap.size w wr)) (fun i _=>xs.length-(intOf i).toNat)
  case atStart=>exact ⟨0,Nat.zero_le _,Nat.zero_le _,rfl,by show DMem _ _ _ _ _ _ _ _;rw[mwN_zero];exact D0H,B0⟩
  case round =>
   clear D0H B0
   obtain ⟨j,hj,hj4,rfl,DR,BR⟩:=hrel
   have c0:=DR.out.d.c0
   by_cases hfull:j=4096
   ·have hd4:decide ((j:Int)<4096)=false:=by simp;omega
    have hfin:DMem wr rb gb kb hb (mw xs) (fun _=>false) (fun _=>false):=DR.out.congr (fun i hi=>by unfold mwN;rw[if_pos (by omega)]) wf
    by_cases hlt:j<xs.length
    ·have hlt':(j:Int)<xs.length:=by omega
     go_wp2
     go_ret
     first|exact ⟨rb,rfl,gb,kb,hb,hfin,BR.out,L1.out⟩|exact ⟨rb,gb,kb,hb,rfl,hfin,BR.out,L1.out⟩
    ·have hlt':¬ (j:Int)<xs.length:=by omega
     go_wp2
     go_ret
     first|exact ⟨rb,rfl,gb,kb,hb,hfin,BR.out,L1.out⟩|exact ⟨rb,gb,kb,hb,rfl,hfin,BR.out,L1.out⟩
   by_cases hlt:j<xs.length
   ·have hlt':(j:Int)<xs.length:=by omega
    have hlt2:(j:Int)<4096:=by omega
    obtain ⟨b,off,rfl,hc⟩:=HA.out (by omega)
    obtain ⟨x,hx⟩:∃ x,mw xs j=x:=⟨_,rfl⟩
    have hcell:wr.cell? ⟨b,off+j,none⟩=some (.int .u32 x):=by
     have:=hc j hlt
     rw[show xs.getD j 0=x from hx]at this
     rw[BR.out.cell (World.block_lt_of_cell? _ _ this)];exact this
    have hold:=DR.out.d.cell j (by omega)
    have hfz:wr.frozen? ⟨gb,j,none⟩=false:=by unfold World.frozen?;rw[DR.out.d.row];simp
    have key:=dput_word DR.out BR.out L1.out.2.1 hx (by omega) wf
    clear hx
    clear hc
    go_wp2_with fail
    go_region
    all_goals
     go_wp2
     go_roundw
     case rel=>exact ⟨j+1,by omega,by omega,by go_num,key.1,key.2⟩
     case measure=>simp[intOf];omega
   ·have hlt':¬ (j:Int)<xs.length:=by omega
    obtain rfl:j=xs.length:=by omega
    go_wp2
    go_ret
    first|exact ⟨rb,rfl,gb,kb,hb,by rw[←mwN_all];exact DR.out,BR.out,L1.out⟩|exact ⟨rb,gb,kb,hb,rfl,by rw[←mwN_all];exact DR.out,BR.out,L1.out⟩
theorem below_grown {B:Nat} {w wr w2:World} {r:Nat} (h:Below B w wr) (hg:wr.grownBy w2 (some r)) (hr:B≤r) (hB:B≤w.heap.size):Below B w w2 :=
 ⟨hg.os.trans h.os,hg.tape.trans h.tape,hg.output.trans h.output,Nat.le_trans h.size hg.size,fun k hk=>(hg.block k (by have:=h.size;omega) (by intro e;injection e with e;omega)).trans (h.block k hk)⟩
end Go.Proofs.YtflagpkmebdckaaGreatDoor
