
import Derived.Stop.LaidErr
import Derived.LaidHandle
namespace Go.Proofs.YtflagpkmebdckaaGreatDoor
open Go
abbrev sentinel (nm:String) (text:List UInt8):DataW Unit:=.iface nm (.ptr (.agg [.lit (.string text)]))
theorem laid_all {P:Program} {nm:String} {W:World} {ti tp te ts:TypeId} {ms:Array (String × TypeId)} {f:Field}
  (hi:P.underlying ti=some (.interface ms)) (hrow:∀ u,P.typeName? 3 u=some nm→u=tp)
  (hp:P.underlying tp=some (.pointer te)) (he:P.underlying te=some (.struct #[f])) (hft:f.type=ts) (hfo:f.offset=0) (hs:P.underlying ts=some .string) (hc:P.cellsOf te=1) (hcs:P.cellsOf ts=1)
  (l:List (String × List UInt8)) (hl:∀ x∈l,∃ g,P.globalNamed x.1=some g∧(P.globals[g]?).map (·.type)=some ti) (ps:List MemPlace)
  (h:DataW.LaidVars P W (l.map fun x=>(x.1,sentinel nm x.2)) ps)
  (hrows:∀ b off,MemPlace.cell b off∈ps→(∃ c t,W.heap[b]?=some (.cells c t (0,0)))∧∀ u v,W.cell? ⟨b,off,none⟩=some (.iface u v)→Value.okWide P W .any 0 u v) :
  ∃ as:List Addr,as.length=l.length∧(∀ i (h1:i<l.length) (h2:i<as.length),W.var? P l[i].1=some #[.iface tp (.pointer (some as[i]))])∧(∀ a∈as,MemPlace.cell a.block a.off∈ps)∧(ps.Nodup→as.Nodup):=by
 induction l generalizing ps with
 | nil=>exact ⟨[],rfl,fun i h1=>absurd h1 (Nat.not_lt_zero _),(fun a ha=>by cases ha),fun _=>List.nodup_nil⟩
 | cons x r ih =>
  obtain ⟨g0,t0,cs0,f0,p0,q0,hg0,ht0,hv0,hd0,hq,e0⟩:=h
  obtain ⟨g,hg,ht⟩:=hl x (List.mem_cons_self ..)
  obtain rfl:=Option.some.inj (hg.symm.trans hg0)
  obtain rfl:=Option.some.inj (ht.symm.trans ht0)
  subst e0
  obtain ⟨l0⟩:=cs0
  have ok0:∀ u v,l0=[.iface u v]→Value.okWide P W .any 0 u v:=fun u v e=>by
   subst e
   exact (hrows g 0 (by simp[MemPlace.row])).2 u v (by simpa using World.var?_cell hg0 hv0 0)
  obtain ⟨a0,s0,rfl,hc0,hs0,hz0,rfl⟩:=errorString_of_trod hi hrow hp he hft hfo hs hc hcs hd0 ok0
  obtain ⟨as,hlen,hvar,hmem,hnd⟩:=ih (fun y hy=>hl y (List.mem_cons_of_mem _ hy)) q0 hq (fun b off hm=>hrows b off (List.mem_append_right _ hm))
  have hm0:MemPlace.cell a0.block a0.off∈MemPlace.row a0 1:=by simp[MemPlace.row]
  refine ⟨a0 :: as,by simp[hlen],?_,?_,?_⟩
  ·intro i h1 h2
   cases i with
   | zero=>exact hv0
   | succ i=>exact hvar i (by simpa using h1) (by simpa using h2)
  ·intro a ha
   rcases List.mem_cons.1 ha with rfl|ha
   ·exact List.mem_append_left _ (List.mem_append_right _ hm0)
   ·exact List.mem_append_right _ (hmem a ha)
  ·intro hn
   obtain ⟨hn1,hn2,hn3⟩:=List.nodup_append.1 hn
   refine List.nodup_cons.2 ⟨fun ha=>?_,hnd hn2⟩
   exact hn3 _ (List.mem_append_right _ hm0) _ (hmem a0 ha) rfl
end Go.Proofs.YtflagpkmebdckaaGreatDoor
