/-
  The call LowerEnds(pc, l, p) returns true, for every uint32 pc, every slice l of instructions and every place p: instructions that are no region's are refused with the document's error and an empty code; a region's are lowered to a code that the document's own check finds no fault in, and which ends as the instructions' own steps do: it traps where they do, and leaves the state as it was; else state and memory behind are alike; the arguments read behind the call as before. Condition: the ten errors of package api, errors.errorType, and the table of first words of package code, hold what the program's own text lays there (the card ties them to it).
-/
import Derived.Test.YtflagpkmebdckaaGreatDoorTie
import Derived.Test.YtflagpkmebdckaaGreatDoorCards
import Derived.SevenTiedAt
import Derived.Test.YtflagpkmebdckaaGreatDoorKLw8
import Derived.Test.YtflagpkmebdckaaGreatDoorKInsOf
import Derived.Test.YtflagpkmebdckaaGreatDoorKPlaceOfZ
import Derived.Test.YtflagpkmebdckaaGreatDoorKLeS
namespace Go.Proofs.YtflagpkmebdckaaGreatDoor
open Go.ChangeShapes Go.WideShapes Go.ChangeAt Go.RowKit
set_option linter.unusedVariables false
theorem card_met (os:Os) (args:Array Value):laidMetH Tryz.prog Rows.lowerEndsRow.laid ((World.doorLaid Tryz.prog 211 os).forCall (fun _ _=>0) ⟨#[],args,[]⟩).memory :=
 laidMetH_of_parts3 (fuel:=8) (laidMet_of_run' 8 (by kernel_rfl) (by kernel_rfl)) (by kernel_rfl) (by kernel_rfl)
set_option maxRecDepth 100000 in
theorem card_lifted (os:Os) (started:os.Started) (H:Type) (enc:TypeId × Value→H) :
  ReturnsInHanded {} Tryz.checked os 5 .any (fun w args=>(Rows.lowerEndsSpec.pre enc Tryz.prog Tryz.f5 [] false w args∧laidMetH Tryz.prog Rows.lowerEndsRow.laid w)∧sizedMet enc Tryz.prog Tryz.f5 (OpenSpec.ofChange Rows.lowerEndsSpec) false w args)
   (Rows.lowerEndsSpec.post enc Tryz.prog Tryz.f5 false true false false):=by
 refine returnsInHanded_of_change_and (C:=Tryz.checked) (X:=fun w _=>laidMetH Tryz.prog Rows.lowerEndsRow.laid w) (fun _ _ _ hh h=>h.of_heap hh) Tryz.own started (by kernel_rfl) Tryz.func5
  (ChangeSpec.witness_shaped (enc:=enc) (C:=Tryz.checked) (os:=os) (X:=fun w _=>laidMetH Tryz.prog Rows.lowerEndsRow.laid w) false (World.doorLaid Tryz.prog 211 os) #[.int .u32 0,.slice none 0 0,.agg #[.int .u32 0,.int .u32 0,.int .u32 0,.int .u32 0,.int .u32 0,.int .u32 0,.int .u32 0,.int .u32 0,.int .u32 0,.int .u32 0,.int .u32 0,.int .u32 0,.int .u32 0,.int .u32 0,.int .u32 0,.int .u32 0,.int .u32 0,.int .u32 0,.int .u32 0,.int .u32 0,.int .u32 0,.int .u32 0,.int .u32 0,.int .u32 0,.int .u32 0,.int .u32 0,.int .u32 0,.int .u32 0,.int .u32 0,.int .u32 0,.int .u32 0,.int .u32 0,.int .u32 0,.int .u32 0,.int .u32 0,.int .u32 0,.bool false,.int .u32 0,.int .u32 0,.int .u32 0,.int .u32 0,.int .u32 0,.int .i64 0,.slice none 0 0,.int .i64 0]] 8 rfl (World.shaped_of_RefB (by kernel_rfl) (by kernel_rfl)) (by kernel_rfl) (by kernel_rfl) (by kernel_rfl) (card_met os _)) ?_
 intro W base args ds gs before hval0 hW _ _ hL _
 have hval:∀ (j:Nat) t v,Tryz.f5.params[j]?=some t→args[j]?=some v→Value.okWide Tryz.prog W .any base t v:=hval0
 have hW':=hW
 obtain ⟨p,q,hA0,hV,rfl,hfz,hnd⟩:=hW
 have hA:DataW.TrodAll enc Tryz.prog W 0 (fun _=>true) true Tryz.f5.params.toList args.toList ds p:=hA0
 rw[Tryz.params5]at hA hval
 obtain ⟨v0,vs0,d0,ds0,p0,q0,hargs,rfl,rfl,h0,r0⟩:=trodAll_cons hA
 obtain ⟨v1,vs1,d1,ds1,p1,q1,rfl,rfl,rfl,h1,r1⟩:=trodAll_cons r0
 obtain ⟨v2,vs2,d2,ds2,p2,q2,rfl,rfl,rfl,h2,r2⟩:=trodAll_cons r1
 obtain ⟨rfl,rfl,rfl⟩:=trodAll_nil r2
 obtain rfl:args=#[v0,v1,v2]:=by cases args;simp_all
 obtain ⟨rfl,rfl⟩:=trodVars_none hV
 obtain ⟨a0,rfl,rfl,rfl,w0⟩:=open_int Tryz.underlying22 (hval 0 22 v0 rfl rfl) h0
 obtain ⟨l,A,hli⟩:=inss_of (hval 1 48 v1 rfl rfl) h1
 obtain ⟨T,vx,xs,wc,rfl,hok,X⟩:=open_place (hval 2 50 v2 rfl rfl) h2
 clear hA0 hval0
 obtain ⟨c0,e0⟩:=bd_u32 w0
 obtain ⟨S,EE,LV⟩:=lay_of (W:=W) hL
 simp only[List.append_nil,List.nil_append]at hW'
 have hlt1:∀ x∈p1,x.block<W.heap.size:=fun x hx=>by simpa using hW'.lt x (by simp[hx])
 have hlt2:∀ x∈p2,x.block<W.heap.size:=fun x hx=>by simpa using hW'.lt x (by simp[hx])
 have esp:Rows.lowerEndsSpec.fn H ([.lit (.int .u32 a0),d1,d2]++[])={ results:=[.lit (.bool true)],args:=[.lit (.int .u32 a0),d1,d2] }:=by simp[Rows.lowerEndsSpec]
 refine (lowerEnds_any S EE LV T hok A X wc a0 c0 e0).mono fun e W' ⟨he,hb⟩=>?_
 subst he
 refine ⟨_,rfl,_,_,_,[],p1++p2,[],hW',?_,?_,?_,hb.frame _,fun h=>by cases h⟩
 ·rw[esp];exact trodAll_mk1 (shut_bool Tryz.underlying4 true)
 ·have t:=(trodAll_cons_mk (shut_int Tryz.underlying22 w0) (trodAll_cons_mk (Below.trod Tryz.laidOut (by kernel_rfl) (of_decide_eq_true (by kernel_rfl)) h1 hb (fun x hx=>hlt1 x hx)) (trodAll_cons_mk (Below.trod Tryz.laidOut (by kernel_rfl) (of_decide_eq_true (by kernel_rfl)) h2 hb (fun x hx=>hlt2 x hx)) trodAll_mk0)))
  simp only[List.append_nil,List.nil_append]at t
  rw[esp];exact t
 ·rw[esp];rfl
theorem card_holds:Rows.LowerEndsSaid :=
 OpenClaim.holds_of_wide 5 Tryz.f5 rfl rfl rfl rfl rfl rfl rfl ⟨rfl,rfl,rfl,rfl,rfl⟩ rfl rfl rfl rfl rfl (by kernel_rfl) Tryz.func5 (by kernel_rfl)
  (of_decide_eq_true (by kernel_rfl)) (by unfold Func.isWrapper;first|(rw[if_pos (by decide +kernel)];kernel_rfl)|(rw[if_neg (by decide +kernel)];exact ⟨rfl,rfl⟩))
  (fun os started H enc _=>card_lifted os started H enc)
theorem the_card:Rows.LowerEndsCardSaid :=
 Claim7.holds_tied_plain_at .later [] [.handle,.sentinel,.sentinel,.sentinel,.sentinel,.sentinel,.sentinel,.sentinel,.sentinel,.sentinel,.sentinel,.data] true (true,"d65510801049d711055014dd130ccc2735460048ec8a05756bd6b16f7f6ab95e") true
  card_holds (fun _ h=>by cases h) (by kernel_rfl) (fun _ h=>by cases h) lowerEnds_row_tie rfl ⟨rfl,rfl⟩ (by kernel_rfl) rfl
  (fun f fn hf hfn=>by
   obtain rfl:f=5:=Option.some.inj ((show Tryz.prog.funcNamed "changeling/changelinglaw3.LowerEnds"=some 5 by kernel_rfl).symm.trans hf) |>.symm
   obtain rfl:fn=Tryz.f5:=(Option.some.inj (Tryz.func5.symm.trans hfn)).symm
   exact ⟨by kernel_rfl,fun j t ht=>by
    rw[Tryz.params5]at ht
    have hm:t∈[22,48,50]:=by simpa using Array.mem_of_getElem? ht
    have hall:([22,48,50].all fun u=>!Tryz.prog.wantsStandIn u)=true:=by kernel_rfl
    exact (show Tryz.prog.wantsStandIn t=false by simpa using List.all_eq_true.1 hall t hm)⟩)
  (by kernel_rfl)
#print axioms the_card
end Go.Proofs.YtflagpkmebdckaaGreatDoor
