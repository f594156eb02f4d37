
import Derived.Test.YtflagpkmebdckaaGreatDoorKNum
import Derived.Test.YtflagpkmebdckaaGreatDoorKLowPure
namespace Go.Proofs.YtflagpkmebdckaaGreatDoor
open Go.RowKit Go.Maps
open Num
set_option linter.unusedVariables false
set_option maxRecDepth 100000
set_option maxHeartbeats 4000000
section
variable {w : World} {base mb stb sb bp bw bh N : Nat} {X : Nat → Int} {p : List Pq} {vi : Value} {m : Nat → Int} {wt ht : Int → Bool}
theorem gresult_1 (G:GAt w base mb stb sb X p vi) (d a b:Nat) (hd:d<64) (ha:a<64) (hb:b<64) (i t:Int) :
  Calls Tryz.prog 148 #[.pointer (some ⟨mb,0,none⟩),.agg #[.string ⟨#[115,101,116]⟩,.int .i64 d,.int .i64 a,.int .i64 b,.int .u32 i,.int .i64 t]] w fun e w'=>e=.returned (.int .u32 (valV 1 (X a) (X b) (X d) i))∧Below w.heap.size w w':=by
 have O:=OAt.new w ⟨#[115,101,116]⟩ d a b i t
 have G0:=G.opened (.cells #[.string ⟨#[115,101,116]⟩,.int .i64 d,.int .i64 a,.int .i64 b,.int .u32 i,.int .i64 t] 139)
 have hB0:Hid (Below w.heap.size w (w.alloc (.cells #[.string ⟨#[115,101,116]⟩,.int .i64 d,.int .i64 a,.int .i64 b,.int .u32 i,.int .i64 t] 139))):=(Below.refl _ _).alloc (Nat.le_refl _) _
 have hd':(d:Int)<64:=by omega
 have ha':(a:Int)<64:=by omega
 have hb':(b:Int)<64:=by omega
 have hmw:=G.lt
 show Calls _ _ _ _ fun e w'=>e=.returned (.int .u32 i)∧_
 clear G G0
 go_enter Tryz.func148,Tryz.ntmps148
 go_wp2
 go_ret
 exact ⟨rfl,hB0.out⟩
theorem gresult_sum (G:GAt w base mb stb sb X p vi) (s:ByteArray) (h1:(s.toList==[115,101,116])=false) (h2:(s.toList==[99,111,112,121])=false) (h17:(s.toList==[113,117,111])=false) (h18:(s.toList==[114,101,109])=false) (h19:(s.toList==[113,117,111,117])=false) (h20:(s.toList==[114,101,109,117])=false) (d a b:Nat) (hd:d<64) (ha:a<64) (hb:b<64) (i t v:Int)
  (hr:∀ W,Calls Tryz.prog 200 #[.string s,.int .u32 (X a),.int .u32 (X b)] W fun e w'=>e=.returned (.int .u32 v)∧w'=W) :
  Calls Tryz.prog 148 #[.pointer (some ⟨mb,0,none⟩),.agg #[.string s,.int .i64 d,.int .i64 a,.int .i64 b,.int .u32 i,.int .i64 t]] w fun e w'=>e=.returned (.int .u32 v)∧Below w.heap.size w w':=by
 have O:=OAt.new w s d a b i t
 have G0:=G.opened (.cells #[.string s,.int .i64 d,.int .i64 a,.int .i64 b,.int .u32 i,.int .i64 t] 139)
 have hB0:Hid (Below w.heap.size w (w.alloc (.cells #[.string s,.int .i64 d,.int .i64 a,.int .i64 b,.int .u32 i,.int .i64 t] 139))):=(Below.refl _ _).alloc (Nat.le_refl _) _
 have ha':(a:Int)<64:=by omega
 have hb':(b:Int)<64:=by omega
 have hmw:=G.lt
 go_enter Tryz.func148,Tryz.ntmps148
 go_upto_region 11 with fail
 clear G
 generalize w.alloc (.cells #[.string s,.int .i64 d,.int .i64 a,.int .i64 b,.int .u32 i,.int .i64 t] 139)=V at *
 have k0:=O.c0
 have k2:=O.c2
 have k3:=O.c3
 have xa:=G0.x a ha
 have xb:=G0.x b hb
 refine zP 18 [(0,0),(1,1),(2,0),(3,0),(4,1),(5,0),(6,0),(7,0),(8,1),(9,0),(10,0),(11,1),(12,0),(13,0),(14,0),(15,1),(16,2),(17,0)] (fun W=>W.cell? ⟨w.heap.size,0,none⟩=some (.string s)∧W.cell? ⟨w.heap.size,2,none⟩=some (.int .i64 a)∧W.cell? ⟨w.heap.size,3,none⟩=some (.int .i64 b)∧W.cell? ⟨mb,1+a,none⟩=some (.int .u32 (X a))∧W.cell? ⟨mb,1+b,none⟩=some (.int .u32 (X b))) (by kernel_rfl) (by kernel_rfl) (fun _ _ _ d _ h=>by cases d<;>exact h) ⟨k0,k2,k3,xa,xb⟩ ?_
 repeat (first|(refine zF (by rfl) (by rfl) (fun W=>by (go_simp;try with_reducible rfl)) (fun K hK=>?_);go_simp;refine hK _ ?_;clear hK K)|(refine zQ (by rfl) (by rfl) (fun W hW=>by (obtain ⟨z0,z1,z2,z3,z4⟩:=hW;go_simp;try with_reducible rfl)) (fun K hK=>?_);go_simp;refine hK _ ?_;clear hK K))
 refine zSr (by rfl) (by rfl) (fun K hK=>?_)
 go_simp
 refine (hr _).mono ?_
 rintro e w' ⟨rfl,rfl⟩
 refine hK _ _ (fun _=>⟨k0,k2,k3,xa,xb⟩) ?_
 clear hK K
 repeat (first|(refine zF (by rfl) (by rfl) (fun W=>by (go_simp;try with_reducible rfl)) (fun K hK=>?_);go_simp;refine hK _ ?_;clear hK K)|(refine zQ (by rfl) (by rfl) (fun W hW=>by (obtain ⟨z0,z1,z2,z3,z4⟩:=hW;go_simp;try with_reducible rfl)) (fun K hK=>?_);go_simp;refine hK _ ?_;clear hK K))
 refine zN ?_
 go_wp2
 go_ret
 exact ⟨rfl,hB0.out.drew⟩
end
end Go.Proofs.YtflagpkmebdckaaGreatDoor
