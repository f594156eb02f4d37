
import Derived.Great.Walk
import Derived.Deep.Cut
import Derived.Test.YtflagpkmebdckaaGreatDoorKOptFns
import Derived.Test.YtflagpkmebdckaaGreatDoorKKTxt
import Derived.Test.YtflagpkmebdckaaGreatDoorKMk4
import Derived.Test.YtflagpkmebdckaaGreatDoorKDKt
namespace Go.Proofs.YtflagpkmebdckaaGreatDoor.K
open Go.RowKit
open Num Tab Fm Go.Great
set_option linter.unusedVariables false
set_option maxRecDepth 100000
set_option maxHeartbeats 4000000
def str (l:List UInt8):Value:=.string ⟨l.toArray⟩
def kindR (k:Nat):List UInt8:=if k=0 then [] else kind k
def rowC (k:Nat):List Value:=[str (nme k),.int .i64 (mj k),.int .i64 (mn k),str (flds k),str (ordr k),str (kindR k)]
def rowCells:Array Value:=((List.range 54).flatMap rowC).toArray
theorem rows_any (w:World):Calls Tryz.prog 174 #[] w fun e w'=>e=.returned (.slice (some ⟨w.heap.size,0,none⟩) 54 54)∧w'=w.alloc (.cells rowCells 198):=by
 go_enter Tryz.func174,Tryz.ntmps174
 go_upto_region 1 with fail
 apply wp_region_lit
 refine wpList_buildTo rfl 198 _ rfl (some 1) rfl (rowC 0).toArray (by as_aux_lemma=>kernel_rfl) ?_
 refine wpList_buildTo rfl 198 _ rfl (some 2) rfl (rowC 1).toArray (by as_aux_lemma=>kernel_rfl) ?_
 refine wpList_buildTo rfl 198 _ rfl (some 3) rfl (rowC 2).toArray (by as_aux_lemma=>kernel_rfl) ?_
 refine wpList_buildTo rfl 198 _ rfl (some 4) rfl (rowC 3).toArray (by as_aux_lemma=>kernel_rfl) ?_
 refine wpList_buildTo rfl 198 _ rfl (some 5) rfl (rowC 4).toArray (by as_aux_lemma=>kernel_rfl) ?_
 refine wpList_buildTo rfl 198 _ rfl (some 6) rfl (rowC 5).toArray (by as_aux_lemma=>kernel_rfl) ?_
 refine wpList_buildTo rfl 198 _ rfl (some 7) rfl (rowC 6).toArray (by as_aux_lemma=>kernel_rfl) ?_
 refine wpList_buildTo rfl 198 _ rfl (some 8) rfl (rowC 7).toArray (by as_aux_lemma=>kernel_rfl) ?_
 refine wpList_buildTo rfl 198 _ rfl (some 9) rfl (rowC 8).toArray (by as_aux_lemma=>kernel_rfl) ?_
 refine wpList_buildTo rfl 198 _ rfl (some 10) rfl (rowC 9).toArray (by as_aux_lemma=>kernel_rfl) ?_
 refine wpList_buildTo rfl 198 _ rfl (some 11) rfl (rowC 10).toArray (by as_aux_lemma=>kernel_rfl) ?_
 refine wpList_buildTo rfl 198 _ rfl (some 12) rfl (rowC 11).toArray (by as_aux_lemma=>kernel_rfl) ?_
 refine wpList_buildTo rfl 198 _ rfl (some 13) rfl (rowC 12).toArray (by as_aux_lemma=>kernel_rfl) ?_
 refine wpList_buildTo rfl 198 _ rfl (some 14) rfl (rowC 13).toArray (by as_aux_lemma=>kernel_rfl) ?_
 refine wpList_buildTo rfl 198 _ rfl (some 15) rfl (rowC 14).toArray (by as_aux_lemma=>kernel_rfl) ?_
 refine wpList_buildTo rfl 198 _ rfl (some 16) rfl (rowC 15).toArray (by as_aux_lemma=>kernel_rfl) ?_
 refine wpList_buildTo rfl 198 _ rfl (some 17) rfl (rowC 16).toArray (by as_aux_lemma=>kernel_rfl) ?_
 refine wpList_buildTo rfl 198 _ rfl (some 18) rfl (rowC 17).toArray (by as_aux_lemma=>kernel_rfl) ?_
 refine wpList_buildTo rfl 198 _ rfl (some 19) rfl (rowC 18).toArray (by as_aux_lemma=>kernel_rfl) ?_
 refine wpList_buildTo rfl 198 _ rfl (some 20) rfl (rowC 19).toArray (by as_aux_lemma=>kernel_rfl) ?_
 refine wpList_buildTo rfl 198 _ rfl (some 21) rfl (rowC 20).toArray (by as_aux_lemma=>kernel_rfl) ?_
 refine wpList_buildTo rfl 198 _ rfl (some 22) rfl (rowC 21).toArray (by as_aux_lemma=>kernel_rfl) ?_
 refine wpList_buildTo rfl 198 _ rfl (some 23) rfl (rowC 22).toArray (by as_aux_lemma=>kernel_rfl) ?_
 refine wpList_buildTo rfl 198 _ rfl (some 24) rfl (rowC 23).toArray (by as_aux_lemma=>kernel_rfl) ?_
 refine wpList_buildTo rfl 198 _ rfl (some 25) rfl (rowC 24).toArray (by as_aux_lemma=>kernel_rfl) ?_
 refine wpList_buildTo rfl 198 _ rfl (some 26) rfl (rowC 25).toArray (by as_aux_lemma=>kernel_rfl) ?_
 refine wpList_buildTo rfl 198 _ rfl (some 27) rfl (rowC 26).toArray (by as_aux_lemma=>kernel_rfl) ?_
 refine wpList_buildTo rfl 198 _ rfl (some 28) rfl (rowC 27).toArray (by as_aux_lemma=>kernel_rfl) ?_
 refine wpList_buildTo rfl 198 _ rfl (some 29) rfl (rowC 28).toArray (by as_aux_lemma=>kernel_rfl) ?_
 refine wpList_buildTo rfl 198 _ rfl (some 30) rfl (rowC 29).toArray (by as_aux_lemma=>kernel_rfl) ?_
 refine wpList_buildTo rfl 198 _ rfl (some 31) rfl (rowC 30).toArray (by as_aux_lemma=>kernel_rfl) ?_
 refine wpList_buildTo rfl 198 _ rfl (some 32) rfl (rowC 31).toArray (by as_aux_lemma=>kernel_rfl) ?_
 refine wpList_buildTo rfl 198 _ rfl (some 33) rfl (rowC 32).toArray (by as_aux_lemma=>kernel_rfl) ?_
 refine wpList_buildTo rfl 198 _ rfl (some 34) rfl (rowC 33).toArray (by as_aux_lemma=>kernel_rfl) ?_
 refine wpList_buildTo rfl 198 _ rfl (some 35) rfl (rowC 34).toArray (by as_aux_lemma=>kernel_rfl) ?_
 refine wpList_buildTo rfl 198 _ rfl (some 36) rfl (rowC 35).toArray (by as_aux_lemma=>kernel_rfl) ?_
 refine wpList_buildTo rfl 198 _ rfl (some 37) rfl (rowC 36).toArray (by as_aux_lemma=>kernel_rfl) ?_
 refine wpList_buildTo rfl 198 _ rfl (some 38) rfl (rowC 37).toArray (by as_aux_lemma=>kernel_rfl) ?_
 refine wpList_buildTo rfl 198 _ rfl (some 39) rfl (rowC 38).toArray (by as_aux_lemma=>kernel_rfl) ?_
 refine wpList_buildTo rfl 198 _ rfl (some 40) rfl (rowC 39).toArray (by as_aux_lemma=>kernel_rfl) ?_
 refine wpList_buildTo rfl 198 _ rfl (some 41) rfl (rowC 40).toArray (by as_aux_lemma=>kernel_rfl) ?_
 refine wpList_buildTo rfl 198 _ rfl (some 42) rfl (rowC 41).toArray (by as_aux_lemma=>kernel_rfl) ?_
 refine wpList_buildTo rfl 198 _ rfl (some 43) rfl (rowC 42).toArray (by as_aux_lemma=>kernel_rfl) ?_
 refine wpList_buildTo rfl 198 _ rfl (some 44) rfl (rowC 43).toArray (by as_aux_lemma=>kernel_rfl) ?_
 refine wpList_buildTo rfl 198 _ rfl (some 45) rfl (rowC 44).toArray (by as_aux_lemma=>kernel_rfl) ?_
 refine wpList_buildTo rfl 198 _ rfl (some 46) rfl (rowC 45).toArray (by as_aux_lemma=>kernel_rfl) ?_
 refine wpList_buildTo rfl 198 _ rfl (some 47) rfl (rowC 46).toArray (by as_aux_lemma=>kernel_rfl) ?_
 refine wpList_buildTo rfl 198 _ rfl (some 48) rfl (rowC 47).toArray (by as_aux_lemma=>kernel_rfl) ?_
 refine wpList_buildTo rfl 198 _ rfl (some 49) rfl (rowC 48).toArray (by as_aux_lemma=>kernel_rfl) ?_
 refine wpList_buildTo rfl 198 _ rfl (some 50) rfl (rowC 49).toArray (by as_aux_lemma=>kernel_rfl) ?_
 refine wpList_buildTo rfl 198 _ rfl (some 51) rfl (rowC 50).toArray (by as_aux_lemma=>kernel_rfl) ?_
 refine wpList_buildTo rfl 198 _ rfl (some 52) rfl (rowC 51).toArray (by as_aux_lemma=>kernel_rfl) ?_
 refine wpList_buildTo rfl 198 _ rfl (some 53) rfl (rowC 52).toArray (by as_aux_lemma=>kernel_rfl) ?_
 refine wpList_buildTo rfl 198 _ rfl (some 54) rfl (rowC 53).toArray (by as_aux_lemma=>kernel_rfl) ?_
 refine wpList_buildSliceTo rfl 259 198 54 _ rfl w.heap.size rfl (some 55) rfl (by as_aux_lemma=>kernel_rfl) rowCells (by as_aux_lemma=>kernel_rfl) ?_
 refine wpList_frame (a':=⟨#[.slice none 0 0,.agg (rowC 0).toArray,.agg (rowC 1).toArray,.agg (rowC 2).toArray,.agg (rowC 3).toArray,.agg (rowC 4).toArray,.agg (rowC 5).toArray,.agg (rowC 6).toArray,.agg (rowC 7).toArray,.agg (rowC 8).toArray,.agg (rowC 9).toArray,.agg (rowC 10).toArray,.agg (rowC 11).toArray,.agg (rowC 12).toArray,.agg (rowC 13).toArray,.agg (rowC 14).toArray,.agg (rowC 15).toArray,.agg (rowC 16).toArray,.agg (rowC 17).toArray,.agg (rowC 18).toArray,.agg (rowC 19).toArray,.agg (rowC 20).toArray,.agg (rowC 21).toArray,.agg (rowC 22).toArray,.agg (rowC 23).toArray,.agg (rowC 24).toArray,.agg (rowC 25).toArray,.agg (rowC 26).toArray,.agg (rowC 27).toArray,.agg (rowC 28).toArray,.agg (rowC 29).toArray,.agg (rowC 30).toArray,.agg (rowC 31).toArray,.agg (rowC 32).toArray,.agg (rowC 33).toArray,.agg (rowC 34).toArray,.agg (rowC 35).toArray,.agg (rowC 36).toArray,.agg (rowC 37).toArray,.agg (rowC 38).toArray,.agg (rowC 39).toArray,.agg (rowC 40).toArray,.agg (rowC 41).toArray,.agg (rowC 42).toArray,.agg (rowC 43).toArray,.agg (rowC 44).toArray,.agg (rowC 45).toArray,.agg (rowC 46).toArray,.agg (rowC 47).toArray,.agg (rowC 48).toArray,.agg (rowC 49).toArray,.agg (rowC 50).toArray,.agg (rowC 51).toArray,.agg (rowC 52).toArray,.agg (rowC 53).toArray,.slice (some ⟨w.heap.size,0,none⟩) 54 54],[]⟩) (by as_aux_lemma=>kernel_rfl) ?_
 go_wp2
 go_ret
 exact ⟨rfl,rfl⟩
theorem flat6 {α:Type} (f:Nat→List α) (h:∀ k,(f k).length=6):∀ (n s k j:Nat),k<n→j<6→((List.range' s n).flatMap f)[6*k+j]?=(f (s+k))[j]?
 | 0,s,k,j,hk,hj=>absurd hk (by omega)
 | n+1,s,k,j,hk,hj=>by
  rw[List.range'_succ,List.flatMap_cons]
  cases k with
  | zero=>rw[List.getElem?_append_left (by rw[h];omega)];simp
  | succ k =>
   rw[List.getElem?_append_right (by rw[h];omega),h,show 6*(k+1)+j-6=6*k+j by omega,flat6 f h n (s+1) k j (by omega) hj,show s+1+k=s+(k+1) by omega]
theorem rowCells_at (k:Nat) (hk:k<54) (j:Nat) (hj:j<6):rowCells[6*k+j]?=(rowC k)[j]?:=by
 have:=flat6 rowC (fun _=>rfl) 54 0 k j hk hj
 rw[Nat.zero_add]at this
 rw[←this,←List.range_eq_range']
 unfold rowCells
 simp
end Go.Proofs.YtflagpkmebdckaaGreatDoor.K
namespace Go.Proofs.YtflagpkmebdckaaGreatDoor
open Go.RowKit Go.Maps
open Num
set_option linter.unusedVariables false
section
variable {w : World} {pb sb bb : Nat} {S : St} {k s t d : Nat} {m : Int}
end
section
variable {w : World} {pb sb bb : Nat} {S : St} {k s t d : Nat} {m : Int} {base rb bp bw bh N : Nat} {b : Bs} {vo vt : Value}
theorem St.ok_bd {S:St} (o:S.ok) {y:Int} (hy:u32 y):St.ok { S with bd:=y }:=⟨o.r,o.hi,o.lo,o.pc,o.nx,o.st,o.ca,o.ep,hy,o.cm,o.c0,o.c1⟩
theorem valI_bd {b:Bs} (mb:∀ i,0≤b.m i∧b.m i<4294967296) (lb:u32 b.lamp) (a s:Int) (sg:Bool) (c:Int):u32 (b.val a s sg c):=by
 unfold Bs.val
 split
 ·unfold devV
  split
  ·exact ⟨by omega,by omega⟩
  split
  ·exact lb
  ·exact ⟨by omega,by omega⟩
 split
 ·unfold ld
  have:=mb (a/4).toNat
  have h:=ediv_bd (d:=2^(bhd a s).toNat) this.1 (Int.pow_pos (by omega))
  exact wd_bd h.1 (by omega) _
 ·exact ⟨by omega,by omega⟩
end
end Go.Proofs.YtflagpkmebdckaaGreatDoor
namespace Go.Proofs.YtflagpkmebdckaaGreatDoor.Low
open Go.RowKit Go.Maps
open Num
set_option linter.unusedVariables false
set_option maxRecDepth 100000
set_option maxHeartbeats 8000000
section
variable {w0 w : World} {lb : Nat} {pc many at_ : Int} {l : List Opx} {v : Value}
theorem result_any (F:LAt w0 w lb pc many at_ l v) (hn:l.length≤900) (k:Nat) (s t d m:Int) (m0:0≤m) (m1:m<4294967296) :
  Calls Tryz.prog 179 #[.pointer (some ⟨lb,0,none⟩),.agg #[.int .i64 k,.int .i64 s,.int .i64 t,.int .i64 d,.int .u32 m]] w (LP w0 w lb pc many at_ (l++resL ⟨k,s,t,d,m⟩ at_) v):=by
 have B:Hid _:=LB.start F k s t d m
 clear F
 have hop:=fun W=>operandsL_any (w:=W) k s t d m
 have hov:=fun W=>overOf_any (w:=W) k
 have hki:=fun W=>kindOfL_any (w:=W) k
 have him:=fun W=>immC_any (w:=W) k s t d m m0 m1
 have hR:resL ⟨k,s,t,d,m⟩ at_=if oD k ⟨k,s,t,d,m⟩=0∧ovK k=0 then [] else
  (if oB k ⟨k,s,t,d,m⟩=34 then [opx 1 34 0 0 (immI k m) at_] else [])++(if ovK k=0 then [] else [opx (ovK k) 0 (oA k ⟨k,s,t,d,m⟩) (oB k ⟨k,s,t,d,m⟩) 0 at_])++wrO (opx (rsK k) (oD k ⟨k,s,t,d,m⟩) (oA k ⟨k,s,t,d,m⟩) (oB k ⟨k,s,t,d,m⟩) 0 at_):=rfl
 rw[hR]
 clear hR
 have hvc:ovK k=0∨ovK k=21∨ovK k=22:=by
  unfold ovK
  repeat (first|(split;· omega)|omega)
 have hvs:(kindS (ovK k)).data.toList=kinds.getD (ovK k) []:=by unfold kindS;rfl
 unfold opx
 generalize oD k ⟨k,s,t,d,m⟩=D at *
 generalize oA k ⟨k,s,t,d,m⟩=A at *
 generalize oB k ⟨k,s,t,d,m⟩=G at *
 generalize immI k m=im at *
 generalize kindS (rsK k)=rs at *
 generalize kindS (ovK k)=os at *
 generalize ovK k=vk at *
 by_cases hv:vk=0
 ·rw[hv]at hvs ⊢
  have hos:os=⟨#[]⟩:=by obtain ⟨⟨x⟩⟩:=os;simp[kinds]at hvs;simp[hvs]
  subst hos
  clear hvs hvc hv
  simp only[if_true,and_true,List.append_nil]
  by_cases hD:D=0
  ·subst hD
   simp only[if_true,List.append_nil]
   go_enter Tryz.func179,Tryz.ntmps179
   go_upto_region 1 with fail
   generalize hW:w.alloc (.cells #[.int .i64 k,.int .i64 s,.int .i64 t,.int .i64 d,.int .u32 m] 113)=W at B ⊢
   generalize hib:w.heap.size=ib at B ⊢
   clear hW hib
   have c0:=B.out.c0;have c1:=B.out.c1;have c2:=B.out.c2;have c3:=B.out.c3;have c4:=B.out.c4
   go_wp2_with fail
   refine (hop _).mono ?_
   rintro e W1 ⟨rfl,hb⟩
   have B1:Hid _:=B.out.pure hb
   clear c0 c1 c2 c3 c4 hb B
   have B:Hid _:=B1.out
   clear B1
   have c0:=B.out.c0;have c1:=B.out.c1;have c2:=B.out.c2;have c3:=B.out.c3;have c4:=B.out.c4
   go_wp2_with fail
   refine (hov _).mono ?_
   rintro e W2 ⟨rfl,hb⟩
   rw[hb];clear hb
   clear c0 c1 c2 c3 c4
   go_wp2
   go_end0
   exact B.out.done
  ·have hD':(D==0)=false:=by simpa using hD
   rw[if_neg hD]
   by_cases hG:G=34
   ·subst hG
    rw[if_pos rfl]
    go_enter Tryz.func179,Tryz.ntmps179
    go_upto_region 1 with fail
    generalize hW:w.alloc (.cells #[.int .i64 k,.int .i64 s,.int .i64 t,.int .i64 d,.int .u32 m] 113)=W at B ⊢
    generalize hib:w.heap.size=ib at B ⊢
    clear hW hib
    have c0:=B.out.c0;have c1:=B.out.c1;have c2:=B.out.c2;have c3:=B.out.c3;have c4:=B.out.c4
    go_wp2_with fail
    refine (hop _).mono ?_
    rintro e W1 ⟨rfl,hb⟩
    have B1:Hid _:=B.out.pure hb
    clear c0 c1 c2 c3 c4 hb B
    have B:Hid _:=B1.out
    clear B1
    have c0:=B.out.c0;have c1:=B.out.c1;have c2:=B.out.c2;have c3:=B.out.c3;have c4:=B.out.c4
    go_wp2_with fail
    refine (hov _).mono ?_
    rintro e W2 ⟨rfl,hb⟩
    rw[hb];clear hb
    go_wp2_with fail
    refine (him _).mono ?_
    rintro e W3 ⟨rfl,hb⟩
    have B3:Hid _:=B.out.pure hb
    clear c0 c1 c2 c3 c4 hb B
    have B:Hid _:=B3.out
    clear B3
    have c0:=B.out.c0;have c1:=B.out.c1;have c2:=B.out.c2;have c3:=B.out.c3;have c4:=B.out.c4
    go_wp2_with fail
    refine (wrA B.out.f (by omega) ⟨#[115,101,116]⟩ 34 0 0 im 0).mono ?_
    rintro e W4 ⟨rfl,v4,F4,L4⟩
    have B4:Hid _:=B.out.add F4 L4
    clear c0 c1 c2 c3 c4 B F4 L4
    have B:Hid _:=B4.out
    clear B4
    have c0:=B.out.c0;have c1:=B.out.c1;have c2:=B.out.c2;have c3:=B.out.c3;have c4:=B.out.c4
    go_wp2_with fail
    refine (hki _).mono ?_
    rintro e W5 ⟨rfl,hb⟩
    rw[hb];clear hb
    go_wp2_with fail
    refine (wrA B.out.f (by simp[wrO];omega) rs D A 34 0 0).mono ?_
    rintro e W6 ⟨rfl,v6,F6,L6⟩
    have B6:Hid _:=B.out.add F6 L6
    clear c0 c1 c2 c3 c4 B F6 L6
    have B:Hid _:=B6.out
    clear B6
    have c0:=B.out.c0;have c1:=B.out.c1;have c2:=B.out.c2;have c3:=B.out.c3;have c4:=B.out.c4
    clear c0 c1 c2 c3 c4
    go_wp2
    go_end0
    have:=B.out.done
    rw[List.append_assoc]at this;exact this
   ·have hG':(G==34)=false:=by simpa using hG
    rw[if_neg hG,List.nil_append]
    go_enter Tryz.func179,Tryz.ntmps179
    go_upto_region 1 with fail
    generalize hW:w.alloc (.cells #[.int .i64 k,.int .i64 s,.int .i64 t,.int .i64 d,.int .u32 m] 113)=W at B ⊢
    generalize hib:w.heap.size=ib at B ⊢
    clear hW hib
    have c0:=B.out.c0;have c1:=B.out.c1;have c2:=B.out.c2;have c3:=B.out.c3;have c4:=B.out.c4
    go_wp2_with fail
    refine (hop _).mono ?_
    rintro e W1 ⟨rfl,hb⟩
    have B1:Hid _:=B.out.pure hb
    clear c0 c1 c2 c3 c4 hb B
    have B:Hid _:=B1.out
    clear B1
    have c0:=B.out.c0;have c1:=B.out.c1;have c2:=B.out.c2;have c3:=B.out.c3;have c4:=B.out.c4
    go_wp2_with fail
    refine (hov _).mono ?_
    rintro e W2 ⟨rfl,hb⟩
    rw[hb];clear hb
    go_wp2_with fail
    refine (hki _).mono ?_
    rintro e W5 ⟨rfl,hb⟩
    rw[hb];clear hb
    go_wp2_with fail
    refine (wrA B.out.f (by omega) rs D A G 0 0).mono ?_
    rintro e W6 ⟨rfl,v6,F6,L6⟩
    have B6:Hid _:=B.out.add F6 L6
    clear c0 c1 c2 c3 c4 B F6 L6
    have B:Hid _:=B6.out
    clear B6
    have c0:=B.out.c0;have c1:=B.out.c1;have c2:=B.out.c2;have c3:=B.out.c3;have c4:=B.out.c4
    clear c0 c1 c2 c3 c4
    go_wp2
    go_end0
    exact B.out.done
 ·rw[if_neg (by omega)]
  simp only[if_neg hv]
  have hos:os.toList.isEmpty=false∧(os.toList==[])=false:=by
   have h2:∀ x:ByteArray,x.data.toList=kinds.getD 21 []∨x.data.toList=kinds.getD 22 []→x.toList.isEmpty=false∧(x.toList==[])=false:=by
    rintro ⟨⟨x⟩⟩ h
    simp only at h
    rw[ByteArray.toList_eq]
    rcases h with h|h<;>(subst h;decide)
   refine h2 os ?_
   rcases hvc with h|h|h
   ·exact absurd h hv
   ·rw[hvs,h];exact .inl rfl
   ·rw[hvs,h];exact .inr rfl
  obtain ⟨hos1,hos2⟩:=hos
  have hdx:(D==0)=true∨(D==0)=false:=by cases (D==0)<;>simp
  clear hvs hvc
  by_cases hG:G=34
  ·subst hG
   rw[if_pos rfl]
   rcases hdx with hD|hD
   ·go_enter Tryz.func179,Tryz.ntmps179
    go_upto_region 1 with fail
    generalize hW:w.alloc (.cells #[.int .i64 k,.int .i64 s,.int .i64 t,.int .i64 d,.int .u32 m] 113)=W at B ⊢
    generalize hib:w.heap.size=ib at B ⊢
    clear hW hib
    have c0:=B.out.c0;have c1:=B.out.c1;have c2:=B.out.c2;have c3:=B.out.c3;have c4:=B.out.c4
    go_wp2_with fail
    refine (hop _).mono ?_
    rintro e W1 ⟨rfl,hb⟩
    have B1:Hid _:=B.out.pure hb
    clear c0 c1 c2 c3 c4 hb B
    have B:Hid _:=B1.out
    clear B1
    have c0:=B.out.c0;have c1:=B.out.c1;have c2:=B.out.c2;have c3:=B.out.c3;have c4:=B.out.c4
    go_wp2_with fail
    refine (hov _).mono ?_
    rintro e W2 ⟨rfl,hb⟩
    rw[hb];clear hb
    go_wp2_with fail
    refine (him _).mono ?_
    rintro e W3 ⟨rfl,hb⟩
    have B3:Hid _:=B.out.pure hb
    clear c0 c1 c2 c3 c4 hb B
    have B:Hid _:=B3.out
    clear B3
    have c0:=B.out.c0;have c1:=B.out.c1;have c2:=B.out.c2;have c3:=B.out.c3;have c4:=B.out.c4
    go_wp2_with fail
    refine (wrA B.out.f (by omega) ⟨#[115,101,116]⟩ 34 0 0 im 0).mono ?_
    rintro e W4 ⟨rfl,v4,F4,L4⟩
    have B4:Hid _:=B.out.add F4 L4
    clear c0 c1 c2 c3 c4 B F4 L4
    have B:Hid _:=B4.out
    clear B4
    have c0:=B.out.c0;have c1:=B.out.c1;have c2:=B.out.c2;have c3:=B.out.c3;have c4:=B.out.c4
    go_wp2_with fail
    refine (add_any B.out.f (by simp[wrO];omega) os 0 A 34 0 0).mono ?_
    rintro e W5 ⟨rfl,v5,F5,L5⟩
    have B5:Hid _:=B.out.add F5 L5
    clear c0 c1 c2 c3 c4 B F5 L5
    have B:Hid _:=B5.out
    clear B5
    have c0:=B.out.c0;have c1:=B.out.c1;have c2:=B.out.c2;have c3:=B.out.c3;have c4:=B.out.c4
    go_wp2_with fail
    refine (hki _).mono ?_
    rintro e W6 ⟨rfl,hb⟩
    rw[hb];clear hb
    go_wp2_with fail
    refine (wrA B.out.f (by simp[wrO];omega) rs D A 34 0 0).mono ?_
    rintro e W7 ⟨rfl,v7,F7,L7⟩
    have B7:Hid _:=B.out.add F7 L7
    clear c0 c1 c2 c3 c4 B F7 L7
    have B:Hid _:=B7.out
    clear B7
    have c0:=B.out.c0;have c1:=B.out.c1;have c2:=B.out.c2;have c3:=B.out.c3;have c4:=B.out.c4
    clear c0 c1 c2 c3 c4
    go_wp2
    go_end0
    have:=B.out.done
    simp only[List.append_assoc]at this ⊢;exact this
   ·go_enter Tryz.func179,Tryz.ntmps179
    go_upto_region 1 with fail
    generalize hW:w.alloc (.cells #[.int .i64 k,.int .i64 s,.int .i64 t,.int .i64 d,.int .u32 m] 113)=W at B ⊢
    generalize hib:w.heap.size=ib at B ⊢
    clear hW hib
    have c0:=B.out.c0;have c1:=B.out.c1;have c2:=B.out.c2;have c3:=B.out.c3;have c4:=B.out.c4
    go_wp2_with fail
    refine (hop _).mono ?_
    rintro e W1 ⟨rfl,hb⟩
    have B1:Hid _:=B.out.pure hb
    clear c0 c1 c2 c3 c4 hb B
    have B:Hid _:=B1.out
    clear B1
    have c0:=B.out.c0;have c1:=B.out.c1;have c2:=B.out.c2;have c3:=B.out.c3;have c4:=B.out.c4
    go_wp2_with fail
    refine (hov _).mono ?_
    rintro e W2 ⟨rfl,hb⟩
    rw[hb];clear hb
    go_wp2_with fail
    refine (him _).mono ?_
    rintro e W3 ⟨rfl,hb⟩
    have B3:Hid _:=B.out.pure hb
    clear c0 c1 c2 c3 c4 hb B
    have B:Hid _:=B3.out
    clear B3
    have c0:=B.out.c0;have c1:=B.out.c1;have c2:=B.out.c2;have c3:=B.out.c3;have c4:=B.out.c4
    go_wp2_with fail
    refine (wrA B.out.f (by omega) ⟨#[115,101,116]⟩ 34 0 0 im 0).mono ?_
    rintro e W4 ⟨rfl,v4,F4,L4⟩
    have B4:Hid _:=B.out.add F4 L4
    clear c0 c1 c2 c3 c4 B F4 L4
    have B:Hid _:=B4.out
    clear B4
    have c0:=B.out.c0;have c1:=B.out.c1;have c2:=B.out.c2;have c3:=B.out.c3;have c4:=B.out.c4
    go_wp2_with fail
    refine (add_any B.out.f (by simp[wrO];omega) os 0 A 34 0 0).mono ?_
    rintro e W5 ⟨rfl,v5,F5,L5⟩
    have B5:Hid _:=B.out.add F5 L5
    clear c0 c1 c2 c3 c4 B F5 L5
    have B:Hid _:=B5.out
    clear B5
    have c0:=B.out.c0;have c1:=B.out.c1;have c2:=B.out.c2;have c3:=B.out.c3;have c4:=B.out.c4
    go_wp2_with fail
    refine (hki _).mono ?_
    rintro e W6 ⟨rfl,hb⟩
    rw[hb];clear hb
    go_wp2_with fail
    refine (wrA B.out.f (by simp[wrO];omega) rs D A 34 0 0).mono ?_
    rintro e W7 ⟨rfl,v7,F7,L7⟩
    have B7:Hid _:=B.out.add F7 L7
    clear c0 c1 c2 c3 c4 B F7 L7
    have B:Hid _:=B7.out
    clear B7
    have c0:=B.out.c0;have c1:=B.out.c1;have c2:=B.out.c2;have c3:=B.out.c3;have c4:=B.out.c4
    clear c0 c1 c2 c3 c4
    go_wp2
    go_end0
    have:=B.out.done
    simp only[List.append_assoc]at this ⊢;exact this
  ·have hG':(G==34)=false:=by simpa using hG
   rw[if_neg hG,List.nil_append]
   rcases hdx with hD|hD
   ·go_enter Tryz.func179,Tryz.ntmps179
    go_upto_region 1 with fail
    generalize hW:w.alloc (.cells #[.int .i64 k,.int .i64 s,.int .i64 t,.int .i64 d,.int .u32 m] 113)=W at B ⊢
    generalize hib:w.heap.size=ib at B ⊢
    clear hW hib
    have c0:=B.out.c0;have c1:=B.out.c1;have c2:=B.out.c2;have c3:=B.out.c3;have c4:=B.out.c4
    go_wp2_with fail
    refine (hop _).mono ?_
    rintro e W1 ⟨rfl,hb⟩
    have B1:Hid _:=B.out.pure hb
    clear c0 c1 c2 c3 c4 hb B
    have B:Hid _:=B1.out
    clear B1
    have c0:=B.out.c0;have c1:=B.out.c1;have c2:=B.out.c2;have c3:=B.out.c3;have c4:=B.out.c4
    go_wp2_with fail
    refine (hov _).mono ?_
    rintro e W2 ⟨rfl,hb⟩
    rw[hb];clear hb
    go_wp2_with fail
    refine (add_any B.out.f (by omega) os 0 A G 0 0).mono ?_
    rintro e W5 ⟨rfl,v5,F5,L5⟩
    have B5:Hid _:=B.out.add F5 L5
    clear c0 c1 c2 c3 c4 B F5 L5
    have B:Hid _:=B5.out
    clear B5
    have c0:=B.out.c0;have c1:=B.out.c1;have c2:=B.out.c2;have c3:=B.out.c3;have c4:=B.out.c4
    go_wp2_with fail
    refine (hki _).mono ?_
    rintro e W6 ⟨rfl,hb⟩
    rw[hb];clear hb
    go_wp2_with fail
    refine (wrA B.out.f (by simp;omega) rs D A G 0 0).mono ?_
    rintro e W7 ⟨rfl,v7,F7,L7⟩
    have B7:Hid _:=B.out.add F7 L7
    clear c0 c1 c2 c3 c4 B F7 L7
    have B:Hid _:=B7.out
    clear B7
    have c0:=B.out.c0;have c1:=B.out.c1;have c2:=B.out.c2;have c3:=B.out.c3;have c4:=B.out.c4
    clear c0 c1 c2 c3 c4
    go_wp2
    go_end0
    have:=B.out.done
    simp only[List.append_assoc]at this ⊢;exact this
   ·go_enter Tryz.func179,Tryz.ntmps179
    go_upto_region 1 with fail
    generalize hW:w.alloc (.cells #[.int .i64 k,.int .i64 s,.int .i64 t,.int .i64 d,.int .u32 m] 113)=W at B ⊢
    generalize hib:w.heap.size=ib at B ⊢
    clear hW hib
    have c0:=B.out.c0;have c1:=B.out.c1;have c2:=B.out.c2;have c3:=B.out.c3;have c4:=B.out.c4
    go_wp2_with fail
    refine (hop _).mono ?_
    rintro e W1 ⟨rfl,hb⟩
    have B1:Hid _:=B.out.pure hb
    clear c0 c1 c2 c3 c4 hb B
    have B:Hid _:=B1.out
    clear B1
    have c0:=B.out.c0;have c1:=B.out.c1;have c2:=B.out.c2;have c3:=B.out.c3;have c4:=B.out.c4
    go_wp2_with fail
    refine (hov _).mono ?_
    rintro e W2 ⟨rfl,hb⟩
    rw[hb];clear hb
    go_wp2_with fail
    refine (add_any B.out.f (by omega) os 0 A G 0 0).mono ?_
    rintro e W5 ⟨rfl,v5,F5,L5⟩
    have B5:Hid _:=B.out.add F5 L5
    clear c0 c1 c2 c3 c4 B F5 L5
    have B:Hid _:=B5.out
    clear B5
    have c0:=B.out.c0;have c1:=B.out.c1;have c2:=B.out.c2;have c3:=B.out.c3;have c4:=B.out.c4
    go_wp2_with fail
    refine (hki _).mono ?_
    rintro e W6 ⟨rfl,hb⟩
    rw[hb];clear hb
    go_wp2_with fail
    refine (wrA B.out.f (by simp;omega) rs D A G 0 0).mono ?_
    rintro e W7 ⟨rfl,v7,F7,L7⟩
    have B7:Hid _:=B.out.add F7 L7
    clear c0 c1 c2 c3 c4 B F7 L7
    have B:Hid _:=B7.out
    clear B7
    have c0:=B.out.c0;have c1:=B.out.c1;have c2:=B.out.c2;have c3:=B.out.c3;have c4:=B.out.c4
    clear c0 c1 c2 c3 c4
    go_wp2
    go_end0
    have:=B.out.done
    simp only[List.append_assoc]at this ⊢;exact this
end
end Go.Proofs.YtflagpkmebdckaaGreatDoor.Low
