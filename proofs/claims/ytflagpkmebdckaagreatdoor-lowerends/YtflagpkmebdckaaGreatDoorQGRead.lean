
import Derived.Laws.ResultCell
import Derived.Test.YtflagpkmebdckaaGreatDoorQGQuo
namespace Go.Proofs.YtflagpkmebdckaaGreatDoor
open Go.RowKit Go.Maps
open Num
set_option linter.unusedVariables false
set_option maxRecDepth 100000
set_option maxHeartbeats 4000000
theorem rcG {fn:Func} {p u:Tmp} {ty:TypeId} {A:Addr} {x:Value} (h:fn.results=#[.cell p ty,.tmp u]) (tmps:Array Value) (P:Program) (w:World) (hp:tmps.getD p undef=.pointer (some A)) (hl:(loadVar ty A).run P w=.ok x w) :
  (results fn tmps).run P w=.ok (.tuple #[x,tmps.getD u undef]) w:=by
 rw[results_cell_tmp h,hp]
 simp[asAddr,Result.andThen,hl]
theorem cell_drewG (W:World) (a:Addr):W.drew.cell? a=W.cell? a:=rfl
section
variable {w : World} {base mb stb sb bp bw bh N : Nat} {X : Nat → Int} {p : List Pq} {vi : Value} {m : Nat → Int} {wt ht : Int → Bool}
theorem read_26 (G:GAt w base mb stb sb X p vi) (a d b i t:Int) :
  Calls Tryz.prog 78 #[.pointer (some ⟨mb,0,none⟩),.agg #[.string ⟨#[111,117,116]⟩,.int .i64 d,.int .i64 a,.int .i64 b,.int .u32 i,.int .i64 t]] w fun e w'=>e=.returned (.tuple #[.agg #[.int .i64 0,.int .u32 0,.int .u32 0,.int .i64 0,.int .u32 0,.bool true,.int .u32 i],.bool true])∧Below w.heap.size w w':=by
 have B1:Below w.heap.size w (w.alloc (.cells #[.string ⟨#[111,117,116]⟩,.int .i64 d,.int .i64 a,.int .i64 b,.int .u32 i,.int .i64 t] 139)):=(Below.refl _ _).alloc (Nat.le_refl _) _
 have B2:Below (w.alloc (.cells #[.string ⟨#[111,117,116]⟩,.int .i64 d,.int .i64 a,.int .i64 b,.int .u32 i,.int .i64 t] 139)).heap.size (w.alloc (.cells #[.string ⟨#[111,117,116]⟩,.int .i64 d,.int .i64 a,.int .i64 b,.int .u32 i,.int .i64 t] 139)) ((w.alloc (.cells #[.string ⟨#[111,117,116]⟩,.int .i64 d,.int .i64 a,.int .i64 b,.int .u32 i,.int .i64 t] 139)).alloc (.cells #[.int .i64 0,.int .u32 0,.int .u32 0,.int .i64 0,.int .u32 0,.bool false,.int .u32 0] 160)):=(Below.refl _ _).alloc (Nat.le_refl _) _
 have O:=(OAt.new w ⟨#[111,117,116]⟩ d a b i t).stays B2
 have G0:=(G.stays B1).stays B2
 have XB:=XBox.new (w.alloc (.cells #[.string ⟨#[111,117,116]⟩,.int .i64 d,.int .i64 a,.int .i64 b,.int .u32 i,.int .i64 t] 139))
 rw[World.size_alloc]at XB
 have hB0:Hid (Below w.heap.size w ((w.alloc (.cells #[.string ⟨#[111,117,116]⟩,.int .i64 d,.int .i64 a,.int .i64 b,.int .u32 i,.int .i64 t] 139)).alloc (.cells #[.int .i64 0,.int .u32 0,.int .u32 0,.int .i64 0,.int .u32 0,.bool false,.int .u32 0] 160))):=B1.trans (B2.mono B1.size)
 have hmw:=G.lt
 clear B1 B2
 go_enter Tryz.func78,Tryz.ntmps78
 go_upto_region 17 with fail
 clear G
 generalize ((w.alloc (.cells #[.string ⟨#[111,117,116]⟩,.int .i64 d,.int .i64 a,.int .i64 b,.int .u32 i,.int .i64 t] 139)).alloc (.cells #[.int .i64 0,.int .u32 0,.int .u32 0,.int .i64 0,.int .u32 0,.bool false,.int .u32 0] 160))=V at *
 obtain ⟨k0,k1,k2,k3,k4,k5⟩:=id O
 have hnV:=XB.lt
 obtain ⟨u0,y0⟩:=XB.c 0 (by omega)
 obtain ⟨u1,y1⟩:=XB.c 1 (by omega)
 obtain ⟨u2,y2⟩:=XB.c 2 (by omega)
 obtain ⟨u3,y3⟩:=XB.c 3 (by omega)
 obtain ⟨u4,y4⟩:=XB.c 4 (by omega)
 obtain ⟨u5,y5⟩:=XB.c 5 (by omega)
 obtain ⟨u6,y6⟩:=XB.c 6 (by omega)
 have fz:=XB.f
 go_wp2
 refine bodyPost_ret (rcG (A:=⟨w.heap.size+1,0,none⟩) rfl _ _ _ rfl (ef_put XB _ _ _ _ _ _ _)) rfl ?_
 exact ⟨rfl,ef_below hB0.out (by omega) _ _ _ _ _ _ _⟩
theorem read_sum (G:GAt w base mb stb sb X p vi) (s:ByteArray) (h21:(s.toList==[111,118,101,114,43])=false) (h22:(s.toList==[111,118,101,114,45])=false) (h23:(s.toList==[108,111,97,100])=false) (h24:(s.toList==[115,116,111,114,101])=false) (h25:(s.toList==[105,102])=false) (h26:(s.toList==[111,117,116])=false) (h27:(s.toList==[111,117,116,114])=false) (d a b i t v:Int) (hr:∀ W,GAt W base mb stb sb X p vi→Calls Tryz.prog 148 #[.pointer (some ⟨mb,0,none⟩),.agg #[.string s,.int .i64 d,.int .i64 a,.int .i64 b,.int .u32 i,.int .i64 t]] W fun e w'=>e=.returned (.int .u32 v)∧Below W.heap.size W w') :
  Calls Tryz.prog 78 #[.pointer (some ⟨mb,0,none⟩),.agg #[.string s,.int .i64 d,.int .i64 a,.int .i64 b,.int .u32 i,.int .i64 t]] w fun e w'=>e=.returned (.tuple #[.agg #[.int .i64 d,.int .u32 v,.int .u32 0,.int .i64 0,.int .u32 0,.bool false,.int .u32 0],.bool true])∧Below w.heap.size w w':=by
 have B1:Below w.heap.size w (w.alloc (.cells #[.string s,.int .i64 d,.int .i64 a,.int .i64 b,.int .u32 i,.int .i64 t] 139)):=(Below.refl _ _).alloc (Nat.le_refl _) _
 have B2:Below (w.alloc (.cells #[.string s,.int .i64 d,.int .i64 a,.int .i64 b,.int .u32 i,.int .i64 t] 139)).heap.size (w.alloc (.cells #[.string s,.int .i64 d,.int .i64 a,.int .i64 b,.int .u32 i,.int .i64 t] 139)) ((w.alloc (.cells #[.string s,.int .i64 d,.int .i64 a,.int .i64 b,.int .u32 i,.int .i64 t] 139)).alloc (.cells #[.int .i64 0,.int .u32 0,.int .u32 0,.int .i64 0,.int .u32 0,.bool false,.int .u32 0] 160)):=(Below.refl _ _).alloc (Nat.le_refl _) _
 have O:=(OAt.new w s d a b i t).stays B2
 have G0:=(G.stays B1).stays B2
 have XB:=XBox.new (w.alloc (.cells #[.string s,.int .i64 d,.int .i64 a,.int .i64 b,.int .u32 i,.int .i64 t] 139))
 rw[World.size_alloc]at XB
 have hB0:Hid (Below w.heap.size w ((w.alloc (.cells #[.string s,.int .i64 d,.int .i64 a,.int .i64 b,.int .u32 i,.int .i64 t] 139)).alloc (.cells #[.int .i64 0,.int .u32 0,.int .u32 0,.int .i64 0,.int .u32 0,.bool false,.int .u32 0] 160))):=B1.trans (B2.mono B1.size)
 have hmw:=G.lt
 clear B1 B2
 go_enter Tryz.func78,Tryz.ntmps78
 go_upto_region 20 with fail
 clear G
 generalize ((w.alloc (.cells #[.string s,.int .i64 d,.int .i64 a,.int .i64 b,.int .u32 i,.int .i64 t] 139)).alloc (.cells #[.int .i64 0,.int .u32 0,.int .u32 0,.int .i64 0,.int .u32 0,.bool false,.int .u32 0] 160))=V at *
 obtain ⟨k0,k1,k2,k3,k4,k5⟩:=id O
 have hnV:=XB.lt
 refine zP 6 [(0,0),(1,1),(2,0),(3,1),(4,2),(5,0),(6,2),(7,0)] (fun W=>OAt W w.heap.size s d a b i t) (by kernel_rfl) (by kernel_rfl) (fun _ _ _ d _ h=>by cases d<;>exact h) O.drew ?_
 refine zF (by rfl) (by rfl) (fun W=>by (go_simp;try with_reducible rfl)) (fun K hK=>?_);go_simp;refine hK _ ?_;clear hK K
 refine zQ (by rfl) (by rfl) (fun W hW=>by (obtain ⟨z0,z1,z2,z3,z4,z5⟩:=hW;go_simp;try with_reducible rfl)) (fun K hK=>?_);go_simp;refine hK _ ?_;clear hK K
 refine zF (by rfl) (by rfl) (fun W=>by (go_simp;try with_reducible rfl)) (fun K hK=>?_);go_simp;refine hK _ ?_;clear hK K
 refine zQ (by rfl) (by rfl) (fun W hW=>by (obtain ⟨z0,z1,z2,z3,z4,z5⟩:=hW;go_simp;try with_reducible rfl)) (fun K hK=>?_);go_simp;refine hK _ ?_;clear hK K
 refine zSr (by rfl) (by rfl) (fun K hK=>?_)
 go_simp
 refine (hr _ G0.drew).mono ?_
 rintro e w2 ⟨rfl,hb2⟩
 have hB2:Hid (Below w.heap.size w w2):=hB0.out.drew.trans (hb2.mono hB0.out.size)
 have O2:=O.drew.stays hb2
 have XB2:=XB.drew.stays hb2
 refine hK _ _ (fun _=>O2) ?_
 clear hK K k0 k1 k2 k3 k4 k5 hnV XB O G0 hb2 hr
 have XB:=XB2
 have hnV:=XB.lt
 obtain ⟨u0,y0⟩:=XB.c 0 (by omega)
 obtain ⟨u1,y1⟩:=XB.c 1 (by omega)
 obtain ⟨u2,y2⟩:=XB.c 2 (by omega)
 obtain ⟨u3,y3⟩:=XB.c 3 (by omega)
 obtain ⟨u4,y4⟩:=XB.c 4 (by omega)
 obtain ⟨u5,y5⟩:=XB.c 5 (by omega)
 obtain ⟨u6,y6⟩:=XB.c 6 (by omega)
 have fz:=XB.f
 refine zF (by rfl) (by rfl) (fun W=>by (go_simp;try with_reducible rfl)) (fun K hK=>?_);go_simp;refine hK _ ?_;clear hK K
 refine zSr (by rfl) (by rfl) (fun K hK=>?_)
 go_simp
 refine hK _ _ (fun h=>absurd h (by decide)) ?_
 clear hK K
 refine zF (by rfl) (by rfl) (fun W=>by (go_simp;try with_reducible rfl)) (fun K hK=>?_);go_simp;refine hK _ ?_;clear hK K
 refine zN ?_
 go_wp2
 refine bodyPost_ret (rcG (A:=⟨w.heap.size+1,0,none⟩) rfl _ _ _ rfl (ef_put XB _ _ _ _ _ _ _)) rfl ?_
 exact ⟨rfl,ef_below hB2.out (by omega) _ _ _ _ _ _ _⟩
end
end Go.Proofs.YtflagpkmebdckaaGreatDoor
