
import Derived.Test.YtflagpkmebdckaaGreatDoorKApp
import Derived.Test.YtflagpkmebdckaaGreatDoorQIrChk3
import Derived.Test.YtflagpkmebdckaaGreatDoorKRes1
import Derived.Test.YtflagpkmebdckaaGreatDoorKPlPure
import Derived.Test.YtflagpkmebdckaaGreatDoorKPl1
namespace Go.Proofs.YtflagpkmebdckaaGreatDoor
open Go.RowKit Go.Maps
open Num
set_option linter.unusedVariables false
theorem Few.take {rs:List (List Opx)} (F:Few rs) (j:Nat):∀ r∈rs.take j,r.length≤1000:=fun r hr=>F.2 r (List.mem_of_mem_take hr)
section
variable {W W' : World} {base : Nat} {vr : Value} {us : List Value} {rs : List (List Opx)}
theorem RowsI.nil {v:Value} {n:Nat} {ao:Option Addr} {cap:Nat} (hv:v=.slice ao 0 cap):RowsI W v []:=⟨ao,cap,hv,Nat.zero_le _,fun h=>by simp at h⟩
end
set_option maxRecDepth 100000
set_option maxHeartbeats 4000000
def doX (e:Ef) (X:Nat→Int):Nat→Int:=if e.r=0 then X else setX X e.r e.v
def doP (e:Ef) (l:List Pend):List Pend:=if e.s=0 then l else l++[⟨e.a,e.s,e.sv⟩]
section
variable {w : World} {base mb stb sb bp bw bh N : Nat} {X : Nat → Int} {p : List Pq} {vi : Value} {m : Nat → Int} {wt ht : Int → Bool}
theorem do_any (G:GAt w base mb stb sb X p vi) (hp:p.length≤1000) (E:Ef) (r0:0≤E.r) (r1:E.r<64) (hv:u32 E.v) (h:E.s=0∨E.r=0∧Pend.ok ⟨E.a,E.s,E.sv⟩) :
  Calls Tryz.prog 79 #[.pointer (some ⟨mb,0,none⟩),.agg (efA E)] w fun e w'=>e=.returned (.tuple #[.int .u32 E.to,.bool E.lv])∧∃ p' vi',pqs p'=doP E (pqs p)∧p'.length≤p.length+1∧GAt w' base mb stb sb (doX E X) p' vi'∧Moved w vi vi'∧Kx w w' mb vi:=by
 obtain ⟨r,v,a,s,sv,lv,to⟩:=E
 simp only at *
 unfold efA doX doP
 simp only
 have GH:Hid (GAt (w.alloc (.cells #[.int .i64 r,.int .u32 v,.int .u32 a,.int .i64 s,.int .u32 sv,.bool lv,.int .u32 to] 160)) base mb stb sb X p vi):=G.opened _
 have hB0:Hid (Kx w (w.alloc (.cells #[.int .i64 r,.int .u32 v,.int .u32 a,.int .i64 s,.int .u32 sv,.bool lv,.int .u32 to] 160)) mb vi):=Kx.alloc _ _ _ _
 have c0:(w.alloc (.cells #[.int .i64 r,.int .u32 v,.int .u32 a,.int .i64 s,.int .u32 sv,.bool lv,.int .u32 to] 160)).cell? ⟨w.heap.size,0,none⟩=some (.int .i64 r):=by simp
 have c1:(w.alloc (.cells #[.int .i64 r,.int .u32 v,.int .u32 a,.int .i64 s,.int .u32 sv,.bool lv,.int .u32 to] 160)).cell? ⟨w.heap.size,1,none⟩=some (.int .u32 v):=by simp
 have c2:(w.alloc (.cells #[.int .i64 r,.int .u32 v,.int .u32 a,.int .i64 s,.int .u32 sv,.bool lv,.int .u32 to] 160)).cell? ⟨w.heap.size,2,none⟩=some (.int .u32 a):=by simp
 have c3:(w.alloc (.cells #[.int .i64 r,.int .u32 v,.int .u32 a,.int .i64 s,.int .u32 sv,.bool lv,.int .u32 to] 160)).cell? ⟨w.heap.size,3,none⟩=some (.int .i64 s):=by simp
 have c4:(w.alloc (.cells #[.int .i64 r,.int .u32 v,.int .u32 a,.int .i64 s,.int .u32 sv,.bool lv,.int .u32 to] 160)).cell? ⟨w.heap.size,4,none⟩=some (.int .u32 sv):=by simp
 have c5:(w.alloc (.cells #[.int .i64 r,.int .u32 v,.int .u32 a,.int .i64 s,.int .u32 sv,.bool lv,.int .u32 to] 160)).cell? ⟨w.heap.size,5,none⟩=some (.bool lv):=by simp
 have c6:(w.alloc (.cells #[.int .i64 r,.int .u32 v,.int .u32 a,.int .i64 s,.int .u32 sv,.bool lv,.int .u32 to] 160)).cell? ⟨w.heap.size,6,none⟩=some (.int .u32 to):=by simp
 have hmw:=G.lt
 have hvb:∀ k,vi.ownBlock=some k→k<w.heap.size:=fun k hk=>(G.blk k hk).1
 by_cases hr:r=0
 ·subst hr
  rw[if_pos rfl]
  by_cases hs:s=0
  ·subst hs
   rw[if_pos rfl]
   clear G h
   go_enter Tryz.func79,Tryz.ntmps79
   go_upto_region 5 with fail
   generalize w.alloc (.cells #[.int .i64 0,.int .u32 v,.int .u32 a,.int .i64 0,.int .u32 sv,.bool lv,.int .u32 to] 160)=V at *
   refine zP 6 [(0,0),(1,1),(2,0),(3,1),(4,0),(5,0)] (fun W=>W.cell? ⟨w.heap.size,6,none⟩=some (.int .u32 to)∧W.cell? ⟨w.heap.size,5,none⟩=some (.bool lv)) (by kernel_rfl) (by kernel_rfl) (fun _ _ _ d _ h=>by cases d<;>exact h) ⟨c6,c5⟩ ?_
   repeat (first|(refine zF (by rfl) (by rfl) (fun W=>by (go_simp;try with_reducible rfl)) (fun K hK=>?_);go_simp;refine hK _ ?_;clear hK K)|(refine zQ (by rfl) (by rfl) (fun W hW=>by (obtain ⟨z0,z1⟩:=hW;go_simp;try with_reducible rfl)) (fun K hK=>?_);go_simp;refine hK _ ?_;clear hK K))
   refine zN ?_
   go_wp2
   go_ret2
   exact ⟨rfl,p,vi,rfl,by omega,GH.out.drew,Moved.refl _ _,hB0.out.drew⟩
  ·rw[if_neg hs]
   have hq:Pend.ok ⟨a,s,sv⟩:=(h.resolve_left hs).2
   have hsb:(s != 0)=true:=by simp[hs]
   clear G h
   go_enter Tryz.func79,Tryz.ntmps79
   go_upto_region 4 with fail
   generalize w.alloc (.cells #[.int .i64 0,.int .u32 v,.int .u32 a,.int .i64 s,.int .u32 sv,.bool lv,.int .u32 to] 160)=V at *
   refine zP 6 [(0,0),(1,0),(2,0),(3,0),(4,1),(5,2)] (fun W=>W.cell? ⟨w.heap.size,2,none⟩=some (.int .u32 a)∧W.cell? ⟨w.heap.size,3,none⟩=some (.int .i64 s)∧W.cell? ⟨w.heap.size,4,none⟩=some (.int .u32 sv)) (by kernel_rfl) (by kernel_rfl) (fun _ _ _ d _ h=>by cases d<;>exact h) ⟨c2,c3,c4⟩ ?_
   repeat (first|(refine zF (by rfl) (by rfl) (fun W=>by (go_simp;try with_reducible rfl)) (fun K hK=>?_);go_simp;refine hK _ ?_;clear hK K)|(refine zQ (by rfl) (by rfl) (fun W hW=>by (obtain ⟨z0,z1,z2⟩:=hW;go_simp;try with_reducible rfl)) (fun K hK=>?_);go_simp;refine hK _ ?_;clear hK K))
   refine zSr (by rfl) (by rfl) (fun K hK=>?_)
   go_simp
   refine (hold_any GH.out.drew hp ⟨⟨a,s,sv⟩,hq⟩).mono ?_
   rintro e w2 ⟨rfl,vi',G2,hm,hk⟩
   have hV:w.heap.size<V.drew.heap.size:=World.block_lt_of_cell? V _ c0
   have cc:∀ (j:Nat) (u:Value),V.cell? ⟨w.heap.size,j,none⟩=some u→w2.cell? ⟨w.heap.size,j,none⟩=some u:=fun j u hu=>(World.cell?_of_block (a:=⟨w.heap.size,j,none⟩) (hk.block w.heap.size hV (by omega) (fun e=>by have:=hvb _ e;omega))).trans hu
   have d2:=cc 2 _ c2
   have d3:=cc 3 _ c3
   have d4:=cc 4 _ c4
   have d5:=cc 5 _ c5
   have d6:=cc 6 _ c6
   refine hK _ _ (fun _=>⟨d2,d3,d4⟩) ?_
   have hV2:w.heap.size≤V.heap.size:=Nat.le_of_lt hV
   clear hK K cc c0 c1 c2 c3 c4 c5 c6
   have c5:=d5
   have c6:=d6
   have hzz:=World.block_lt_of_cell? _ _ d5
   clear d2 d3 d4 d5 d6
   have HG:Hid (GAt w2 base mb stb sb X (p++[⟨⟨a,s,sv⟩,hq⟩]) vi'):=G2
   have HM:Hid (Moved w vi vi'):=fun k hk=>by
    rcases hm k hk with e|e
    ·exact .inl e
    ·exact .inr (by show w.heap.size≤k;have:V.drew.heap.size≤k:=e;omega)
   have HK:Hid (Kx w w2 mb vi):=hB0.out.drew.trans hk
   clear G2 hm hk hB0 GH
   refine zN ?_
   go_upto_region 5 with fail
   refine zP 6 [(0,0),(1,1),(2,0),(3,1),(4,0),(5,0)] (fun W=>W.cell? ⟨w.heap.size,6,none⟩=some (.int .u32 to)∧W.cell? ⟨w.heap.size,5,none⟩=some (.bool lv)) (by kernel_rfl) (by kernel_rfl) (fun _ _ _ d _ h=>by cases d<;>exact h) ⟨c6,c5⟩ ?_
   repeat (first|(refine zF (by rfl) (by rfl) (fun W=>by (go_simp;try with_reducible rfl)) (fun K hK=>?_);go_simp;refine hK _ ?_;clear hK K)|(refine zQ (by rfl) (by rfl) (fun W hW=>by (obtain ⟨z0,z1⟩:=hW;go_simp;try with_reducible rfl)) (fun K hK=>?_);go_simp;refine hK _ ?_;clear hK K))
   refine zN ?_
   go_wp2
   go_ret2
   have hpq:pqs (p++[⟨⟨a,s,sv⟩,hq⟩])=pqs p++[⟨a,s,sv⟩]:=by unfold pqs;simp
   first|exact ⟨rfl,p++[⟨⟨a,s,sv⟩,hq⟩],vi',hpq,by simp,HG.out.drew,HM.out,HK.out.drew⟩|exact ⟨rfl,p++[⟨⟨a,s,sv⟩,hq⟩],hpq,by simp,vi',HG.out.drew,HM.out,HK.out.drew⟩
 ·rw[if_neg hr]
  have hs:s=0:=by rcases h with h|h;exact h;exact absurd h.1 hr
  subst hs
  rw[if_pos rfl]
  have hrb:(r != 0)=true:=by simp[hr]
  obtain ⟨d,rfl⟩:∃ n:Nat,r=n:=⟨r.toNat,by omega⟩
  have hd:d<64:=by omega
  have hd':(d:Int)<64:=by omega
  have hne:w.heap.size≠mb:=by omega
  clear G h
  go_enter Tryz.func79,Tryz.ntmps79
  go_upto_region 2 with fail
  generalize w.alloc (.cells #[.int .i64 d,.int .u32 v,.int .u32 a,.int .i64 0,.int .u32 sv,.bool lv,.int .u32 to] 160)=V at *
  have xd:=GH.out.x d hd
  have fd:=GH.out.fz (1+d)
  refine zP 8 [(0,0),(1,0),(2,1),(3,0),(4,1),(5,0),(6,0),(7,0),(8,2)] (fun W=>W.cell? ⟨w.heap.size,0,none⟩=some (.int .i64 d)∧W.cell? ⟨w.heap.size,1,none⟩=some (.int .u32 v)) (by kernel_rfl) (by kernel_rfl) (fun _ _ _ d _ h=>by cases d<;>exact h) ⟨c0,c1⟩ ?_
  repeat (first|(refine zF (by rfl) (by rfl) (fun W=>by (go_simp;try with_reducible rfl)) (fun K hK=>?_);go_simp;refine hK _ ?_;clear hK K)|(refine zQ (by rfl) (by rfl) (fun W hW=>by (obtain ⟨z0,z1⟩:=hW;go_simp;try with_reducible rfl)) (fun K hK=>?_);go_simp;refine hK _ ?_;clear hK K))
  refine zSr (by rfl) (by rfl) (fun K hK=>?_)
  go_simp
  refine hK _ _ (fun h=>absurd h (by decide)) ?_
  clear hK K
  refine zN ?_
  have cc:∀ (j:Nat) (u:Value),V.cell? ⟨w.heap.size,j,none⟩=some u→(V.setCell ⟨mb,1+d,none⟩ (.int .u32 v)).drew.cell? ⟨w.heap.size,j,none⟩=some u:=fun j u hu=>(cell_drewG _ _).trans ((World.cell?_of_block (a:=⟨w.heap.size,j,none⟩) (Below.heap_setCell V ⟨mb,1+d,none⟩ _ w.heap.size hne)).trans hu)
  have d3:=cc 3 _ c3
  have d5:=cc 5 _ c5
  have d6:=cc 6 _ c6
  have HG:Hid (GAt (V.setCell ⟨mb,1+d,none⟩ (.int .u32 v)).drew base mb stb sb (setX X d v) p vi):=(GH.out.put d hd v hv).drew
  have HK:Hid (Kx w (V.setCell ⟨mb,1+d,none⟩ (.int .u32 v)).drew mb vi):=(hB0.out.setCell (1+d) _).drew
  generalize (V.setCell ⟨mb,1+d,none⟩ (.int .u32 v)).drew=U at *
  clear cc c0 c1 c2 c3 c4 c5 c6 xd fd GH hB0
  have c3:=d3
  have c5:=d5
  have c6:=d6
  have hzz:=World.block_lt_of_cell? _ _ d5
  clear d3 d5 d6
  go_upto_region 5 with fail
  refine zP 6 [(0,0),(1,1),(2,0),(3,1),(4,0),(5,0)] (fun W=>W.cell? ⟨w.heap.size,6,none⟩=some (.int .u32 to)∧W.cell? ⟨w.heap.size,5,none⟩=some (.bool lv)) (by kernel_rfl) (by kernel_rfl) (fun _ _ _ d _ h=>by cases d<;>exact h) ⟨c6,c5⟩ ?_
  repeat (first|(refine zF (by rfl) (by rfl) (fun W=>by (go_simp;try with_reducible rfl)) (fun K hK=>?_);go_simp;refine hK _ ?_;clear hK K)|(refine zQ (by rfl) (by rfl) (fun W hW=>by (obtain ⟨z0,z1⟩:=hW;go_simp;try with_reducible rfl)) (fun K hK=>?_);go_simp;refine hK _ ?_;clear hK K))
  refine zN ?_
  go_wp2
  go_ret2
  first|exact ⟨rfl,p,vi,rfl,by omega,HG.out.drew,Moved.refl _ _,HK.out.drew⟩|exact ⟨rfl,p,rfl,by omega,vi,HG.out.drew,Moved.refl _ _,HK.out.drew⟩
end
end Go.Proofs.YtflagpkmebdckaaGreatDoor
