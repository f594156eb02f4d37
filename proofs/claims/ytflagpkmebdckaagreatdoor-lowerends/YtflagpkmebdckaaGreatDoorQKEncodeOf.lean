
import Derived.Test.YtflagpkmebdckaaGreatDoorKKMatches
namespace Go.Proofs.YtflagpkmebdckaaGreatDoor.K
open Go.RowKit Go.Extern.Stop Go.Stop Go.Extern
open Num Tab Fm
set_option linter.unusedVariables false
set_option maxRecDepth 100000
set_option maxHeartbeats 16000000
theorem flags:∀ n,n<12→(hasB (lt n) 83=hasS n∧hasB (lt n) 84=hasT n∧hasB (lt n) 68=hasD n)∧((hasB (lt n) 97=false∧hasB (lt n) 105=false∧hasB (lt n) 106=false∧top n=0∧by_ n=1)∨(hasB (lt n) 97=true∧hasB (lt n) 105=false∧hasB (lt n) 106=false∧top n=31∧by_ n=64)∨(hasB (lt n) 97=false∧hasB (lt n) 105=true∧hasB (lt n) 106=false∧top n=65535∧by_ n=1)∨(hasB (lt n) 97=false∧hasB (lt n) 105=false∧hasB (lt n) 106=true∧top n=67108863∧by_ n=1)):=by decide
theorem mm_b:∀ k,k<54→0≤mj k∧mj k<64∧0≤mn k∧mn k<64:=by decide
theorem mm_all:∀ k,k<54→1≤k→((mj k==0)=true∧(mj k==16)=false∧fst k=mn k∧mj k=0)∨((mj k==0)=false∧(mj k==16)=false∧fst k=mj k*67108864)∨((mj k==0)=false∧(mj k==16)=true∧(mn k==16)=false∧fst k=mj k*67108864+mn k*2097152)∨((mj k==0)=false∧(mj k==16)=true∧(mn k==16)=true∧fst k=mj k*67108864+mn k*2097152+24):=by decide
theorem well_b {n:Int} {b:Bool} (h:well n b=true):0≤n∧n<32:=by rcases well_of h with h|h<;>omega
theorem encodeOf_in (k:Nat) (h1:1≤k) (hk:k<54) (s t d m:Int) (m0:0≤m) (m1:m<4294967296) (w:World) :
  Calls Tryz.prog 60 #[ins k s t d m] w fun e w'=>e=.returned (encO k s t d m)∧Below w.heap.size w w':=by
 have k0:(1:Int)≤k:=by omega
 have k1:(k:Int)<54:=by omega
 obtain ⟨j0,j1,r0,r1⟩:=mm_b k hk
 have hM:=mm_all k hk h1
 have HB:Hid (okB (sh k) s t d m=true→0≤enc k s t d m∧enc k s t d m<4294967296):=fun h=>⟨(enc_of k hk h1 s t d m m0 h).1,(enc_of k hk h1 s t d m m0 h).2.1⟩
 obtain ⟨n,hsh⟩:∃ n,sh k=n:=⟨_,rfl⟩
 have hn:n<12:=hsh▸sh_all k hk
 have hfl:flds k=lt n:=by show lt (sh k)=_;rw[hsh]
 obtain ⟨⟨f83,f84,f68⟩,hA⟩:=flags n hn
 have hok:okB (sh k) s t d m=(well s (hasS n)&&well t (hasT n)&&well d (hasD n)&&decide (m≤top n)):=by rw[hsh];rfl
 have HE:Hid (enc k s t d m=fst k+s*2097152+t*65536+d*2048+m*by_ n):=by show _=_;unfold enc;rw[hsh]
 clear hsh
 generalize hasS n=bS at *
 generalize hasT n=bT at *
 generalize hasD n=bD at *
 have hc:(well s bS=true∧well t bT=true∧well d bD=true∧m≤top n∧okB (sh k) s t d m=true)∨(well s bS=true∧well t bT=true∧well d bD=true∧top n<m∧okB (sh k) s t d m=false)∨(well s bS=true∧well t bT=true∧well d bD=false∧okB (sh k) s t d m=false)∨(well s bS=true∧well t bT=false∧okB (sh k) s t d m=false)∨(well s bS=false∧okB (sh k) s t d m=false):=by
  rw[hok]
  cases well s bS<;>cases well t bT<;>cases well d bD<;>simp
  omega
 clear hok
 rcases hA with ⟨f97,f105,f106,htop,hby⟩|⟨f97,f105,f106,htop,hby⟩|⟨f97,f105,f106,htop,hby⟩|⟨f97,f105,f106,htop,hby⟩
 all_goals
  rw[htop]at hc
  rw[hby]at HE
  clear htop hby
  have hz:=hc.imp (fun h=>And.intro h hM) id
  clear hc hM
  rcases hz with ⟨⟨ws,wt,wd,hm,HO⟩,⟨z0,z1,HF⟩|⟨z0,z1,HF⟩|⟨z0,z1,z2,HF⟩|⟨z0,z1,z2,HF⟩⟩|⟨ws,wt,wd,hm,HO⟩|⟨ws,wt,wd,HO⟩|⟨ws,wt,HO⟩|⟨ws,HO⟩
 all_goals
  replace HO:Hid _:=HO
  try replace HF:Hid _:=HF
  try (have bs:=well_b ws;have bt:=well_b wt;have bd:=well_b wd)
  go_enter Tryz.func60,Tryz.ntmps60
  go_wp2_with (go_at_call 117;refine (rowOf_in k k0 k1 _).mono ?_;rintro e w1 ⟨rfl,hb1⟩)
  have bA:Below w.heap.size w w1:=((Below.refl _ _).alloc (Nat.le_refl _) _).trans (hb1.mono (by simp))
  have bF:∀ o,Below w.heap.size w (w1.alloc o):=fun o=>bA.alloc bA.size _
  have c:∀ q,w1.cell? ⟨w.heap.size,q,none⟩=_:=fun q=>hb1.cell (p:=⟨w.heap.size,q,none⟩) (by simp)
  have c0:=c 0
  have c1:=c 1
  have c2:=c 2
  have c3:=c 3
  have c4:=c 4
  clear c
  simp at c0 c1 c2 c3 c4
  have hz1:w.heap.size<w1.heap.size:=by have:=hb1.size;simp at this;omega
  clear hb1
  have q0:QF w.heap.size w1.heap.size w (w1.alloc (.cells #[.string ⟨(nme k).toArray⟩,.int .i64 (mj k),.int .i64 (mn k),.string ⟨(lt n).toArray⟩,.string ⟨(ordr k).toArray⟩,.string ⟨(kindR k).toArray⟩] 198)) k s t d m ⟨(nme k).toArray⟩ (mj k) (mn k) ⟨(lt n).toArray⟩ ⟨(ordr k).toArray⟩ ⟨(kindR k).toArray⟩ :=
   ⟨by rw[World.cell?_alloc_lt _ _ _ hz1];exact c0,by rw[World.cell?_alloc_lt _ _ _ hz1];exact c1,by rw[World.cell?_alloc_lt _ _ _ hz1];exact c2,by rw[World.cell?_alloc_lt _ _ _ hz1];exact c3,by rw[World.cell?_alloc_lt _ _ _ hz1];exact c4,by simp,by simp,by simp,by simp,by simp,by simp,bF _⟩
  go_wp2_with fail
  generalize w1.alloc (.cells #[.string ⟨(nme k).toArray⟩,.int .i64 (mj k),.int .i64 (mn k),.string ⟨(lt n).toArray⟩,.string ⟨(ordr k).toArray⟩,.string ⟨(kindR k).toArray⟩] 198)=W0 at q0 ⊢
  clear c0 c1 c2 c3 c4
  obtain ⟨c0,c1,c2,c3,c4,e0,e1,e2,e3,e4,e5,bW⟩:=q0
  go_quiet ((first|(go_at_call 119;exact Calls.quiet_of_same (isOf_lt n hn _ _))|(go_at_call 118;exact Calls.quiet_of_same (well_any _ _ _))))
  have q1:=(QF.mk c0 c1 c2 c3 c4 e0 e1 e2 e3 e4 e5 bW).drewN nq
  generalize W0.drewN nq=W1 at q1 ⊢
  clear c0 c1 c2 c3 c4 e0 e1 e2 e3 e4 e5 bW
  obtain ⟨c0,c1,c2,c3,c4,e0,e1,e2,e3,e4,e5,bW⟩:=q1
  go_wp2_with fail
  go_quiet ((first|(go_at_call 119;exact Calls.quiet_of_same (isOf_lt n hn _ _))|(go_at_call 118;exact Calls.quiet_of_same (well_any _ _ _))))
  have q2:=(QF.mk c0 c1 c2 c3 c4 e0 e1 e2 e3 e4 e5 bW).drewN nq
  generalize W1.drewN nq=W2 at q2 ⊢
  clear c0 c1 c2 c3 c4 e0 e1 e2 e3 e4 e5 bW
  obtain ⟨c0,c1,c2,c3,c4,e0,e1,e2,e3,e4,e5,bW⟩:=q2
  go_wp2_with fail
  go_quiet ((first|(go_at_call 119;exact Calls.quiet_of_same (isOf_lt n hn _ _))|(go_at_call 118;exact Calls.quiet_of_same (well_any _ _ _))))
  have q3:=(QF.mk c0 c1 c2 c3 c4 e0 e1 e2 e3 e4 e5 bW).drewN nq
  generalize W2.drewN nq=W3 at q3 ⊢
  clear c0 c1 c2 c3 c4 e0 e1 e2 e3 e4 e5 bW
  obtain ⟨c0,c1,c2,c3,c4,e0,e1,e2,e3,e4,e5,bW⟩:=q3
  go_wp2_with (go_at_call 119;refine (isOf_lt n hn _ _).mono ?_;rintro e w' ⟨rfl,rfl⟩)
  go_ret2
  first|exact ⟨by rw[encO_bad HO.out];rfl,bW⟩|exact ⟨by have h1:=HB.out HO.out;have h2:=HF.out;rw[encO_ok HO.out];rw[HE.out]at h1 ⊢;exact ret_oo (by omega) rfl,bW⟩
end Go.Proofs.YtflagpkmebdckaaGreatDoor.K
