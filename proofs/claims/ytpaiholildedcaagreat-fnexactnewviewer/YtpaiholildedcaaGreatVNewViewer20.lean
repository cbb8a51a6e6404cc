/- Texts. -/
import Derived.Test.YtpaiholildedcaaGreatVNewViewer19
set_option linter.unusedSimpArgs false
set_option linter.unusedVariables false
set_option maxRecDepth 100000
set_option maxHeartbeats 32000000
namespace Go.Proofs.YtpaiholildedcaaGreat
open Go.RowKit
def zL0 (W:World)(p q:Nat)(s t:Int)(mb:Nat)(z x y:Int):Prop:=(W.cell? ⟨p,0,none⟩=some (.int .i64 s)∧W.cell? ⟨p,1,none⟩=some (.int .i64 t)∧W.cell? ⟨p,2,none⟩=some (.map (some mb)))∧W.cell? ⟨q,0,none⟩=some (.int .i64 z)∧W.cell? ⟨q,1,none⟩=some (.int .i64 x)∧W.cell? ⟨q,2,none⟩=some (.int .i64 y)
theorem zEk (p mb n:Nat)(s t:Int)(D:DataW Value)(z x y:Int)(w:World)(hp:ShA w p s t mb)(hT:zC w p 3)(hm:w.ownsMap Tryz.prog 111 RV mb n D)(hz:I64 z)(hx:I64 x)(hy:I64 y) :
  Calls Tryz.prog 170 #[.pointer (some ⟨p,0,none⟩),xK z x y] w fun e w'=>e=.returned (.tuple #[])∧ShA w' p s t mb∧zC w' p 3∧w'.ownsMap Tryz.prog 111 RV mb n (D.del (uS z x y))∧(∀ B,B≤p→B≤mb→Below B w w')∧∀ q,q<w.heap.size→q≠mb→w'.heap[q]?=w.heap[q]?:=by
 have hpl:p<w.heap.size:=World.block_lt_of_cell? _ _ hp.1
 have hml:mb<w.heap.size:=hm.lt
 have hpm:p≠mb:=zAg hm hp.1
 have HM:Hid (w.ownsMap Tryz.prog 111 RV mb n D):=hm
 have HT:Hid (zC w p 3):=hT
 have HP:Hid (ShA w p s t mb):=hp
 have HK:Hid (keyOf Tryz.prog 111 (xK z x y)=some (uS z x y)):=uY hz hx hy
 clear hm hT hp hz hx hy
 go_enter Tryz.func170,Tryz.ntmps170
 go_wp2_with fail
 generalize hW:(w.alloc _:World)=W
 have HB0:Hid (Bw w W):=by show Below _ _ _;subst hW;exact Qb
 have HS:Hid (zL0 W p w.heap.size s t mb z x y):=by
  have h1:=HP.out.below HB0.out
  refine ⟨h1,?_,?_,?_⟩ <;> (subst hW;simp [go_sem])
 clear hW
 have hqm:w.heap.size≠mb:=by omega
 obtain ⟨w1,hrun,hm1,hg0⟩:=(zW HM.out HB0.out).drew.drop xH Tryz.underlying171 HK.out 0
 have hg1:=hg0.grown
 have HM1:Hid (w1.ownsMap Tryz.prog 111 RV mb n (D.del (uS z x y))):=hm1
 have HG1:Hid (W.grownBy w1 (some mb)):=⟨hg1.os,hg1.tape,hg1.output,hg1.size,hg1.block⟩
 clear hm1 hg1 hg0
 refine wp_region_noPanic ?_
 refine wp_region_held_drew (S:=fun W'=>zL0 W' p w.heap.size s t mb z x y) (by kernel_rfl) HS.out (fun hHeld=>?_)
 have hSd:zL0 W.drew p w.heap.size s t mb z x y:=HS.out
 refine zL (i:=0) (d:=some 4) (v:=?vr0) rfl rfl (Or.inl ⟨by rfl,?hyr0⟩) hSd ?_
 case hyr0=>(intro w hSw;obtain ⟨⟨s0,s1,s2⟩,k0,k1,k2⟩:=(show zL0 w p _ s t mb z x y from hSw);go_simp <;> with_reducible rfl)
 try simp only [Act.put,Qx,Qy,Qz]
 refine zL (i:=1) (d:=some 5) (v:=?vr1) rfl rfl (Or.inl ⟨by rfl,?hyr1⟩) hSd ?_
 case hyr1=>(intro w hSw;obtain ⟨⟨s0,s1,s2⟩,k0,k1,k2⟩:=(show zL0 w p _ s t mb z x y from hSw);go_simp <;> with_reducible rfl)
 try simp only [Act.put,Qx,Qy,Qz]
 refine zL (i:=2) (d:=some 6) (v:=?vr2) rfl rfl (Or.inl ⟨by rfl,?hyr2⟩) hSd ?_
 case hyr2=>(intro w hSw;obtain ⟨⟨s0,s1,s2⟩,k0,k1,k2⟩:=(show zL0 w p _ s t mb z x y from hSw);go_simp <;> with_reducible rfl)
 try simp only [Act.put,Qx,Qy,Qz]
 refine zL (i:=3) (d:=some 7) (v:=?vr3) rfl rfl (Or.inl ⟨by rfl,?hyr3⟩) hSd ?_
 case hyr3=>(intro w hSw;obtain ⟨⟨s0,s1,s2⟩,k0,k1,k2⟩:=(show zL0 w p _ s t mb z x y from hSw);go_simp <;> with_reducible rfl)
 try simp only [Act.put,Qx,Qy,Qz]
 refine zL (i:=4) (d:=some 8) (v:=?vr4) rfl rfl (Or.inl ⟨by rfl,?hyr4⟩) hSd ?_
 case hyr4=>(intro w hSw;obtain ⟨⟨s0,s1,s2⟩,k0,k1,k2⟩:=(show zL0 w p _ s t mb z x y from hSw);go_simp <;> with_reducible rfl)
 try simp only [Act.put,Qx,Qy,Qz]
 refine zN 5 fun K hK=>?_
 rw [if_pos (by rfl)]
 go_simp
 have HS1:zL0 w1 p w.heap.size s t mb z x y:=by
  obtain ⟨⟨a1,a2,a3⟩,b1,b2,b3⟩:=HS.out
  exact ⟨⟨yF HG1.out a1 hpm,yF HG1.out a2 hpm,yF HG1.out a3 hpm⟩,yF HG1.out b1 hqm,yF HG1.out b2 hqm,yF HG1.out b3 hqm⟩
 refine hK.out _ _ HS1 (fun hHeld=>?_)
 clear hK K hrun hSd
 try simp only [Act.put,Qx,Qy,Qz]
 refine wpAnyH_done (by kernel_rfl) ?_ _
 refine NoPanic.normal ?_
 have HT1:Hid (zC w1 p 3):=(HT.out.below HB0.out).grown HG1.out hpm
 have HB1:Hid (∀ B,B≤p→B≤mb→Below B w w1):=fun B h1 h2=>(HB0.out.mono (by omega)).trans (xE HG1.out h2 (by have:=HB0.out.size;omega))
 have HA1:Hid (ShA w1 p s t mb):=HS1.1
 have HQ1:Hid (∀ q,q<w.heap.size→q≠mb→w1.heap[q]?=w.heap[q]?):=fun q h1 h3=>(HG1.out.block q (Nat.lt_of_lt_of_le h1 HB0.out.size) (by simp;exact h3)).trans (HB0.out.block q h1)
 clear HS1
 go_wp2_with fail
 refine bodyPost_end (v:=.tuple #[]) (by simp [results,Tryz.results170,go_sem]) rfl ?_
 exact ⟨rfl,HA1.out,HT1.out,HM1.out,HB1.out,HQ1.out⟩
theorem zEm (p mb n:Nat)(s t:Int)(D:DataW Value)(L:List Ag)(k:Kp)(w:World)(hp:ShA w p s t mb)(hT:zC w p 3)(hm:w.ownsMap Tryz.prog 111 RV mb n D)(hRep:Rep (zGo D k (t+1)) L)(hz:I64 k.z)(hx:I64 k.x)(hy:I64 k.y)(hn:n<990)(ht0:-10≤t)(ht:t<1000)(hs0:0≤s)(hLl:L.length≤1000)(hD:s<(Maps.size (zGo D k (t+1)):Int)) :
  Calls Tryz.prog 124 #[.pointer (some ⟨p,0,none⟩),kpV k] w fun e w'=>e=.returned (.tuple #[])∧ShA w' p s (t+1) mb∧zC w' p 3∧(∃ a M,L=a :: M∧w'.ownsMap Tryz.prog 111 RV mb (n+1) ((zGo D k (t+1)).del (zBu a)))∧(∀ B,B≤p→B≤mb→Below B w w')∧∀ q,q<w.heap.size→q≠p→q≠mb→w'.heap[q]?=w.heap[q]?:=by
 have hpl:p<w.heap.size:=World.block_lt_of_cell? _ _ hp.1
 have hml:mb<w.heap.size:=hm.lt
 have hpm:p≠mb:=zAg hm hp.1
 have HM:Hid (w.ownsMap Tryz.prog 111 RV mb n D):=hm
 have HT:Hid (zC w p 3):=hT
 have HP:Hid (ShA w p s t mb):=hp
 have HD:Hid (s<(Maps.size (zGo D k (t+1)):Int)):=hD
 have HRep:Hid (Rep (zGo D k (t+1)) L):=hRep
 have HK:Hid (keyOf Tryz.prog 111 (xK k.z k.x k.y)=some (uS k.z k.x k.y)):=uY hz hx hy
 have c1:∀ o,(w.alloc o).cell? ⟨p,1,none⟩=some (.int .i64 t):=fun o=>by rw [World.cell?_alloc_old _ _ _ (Nat.ne_of_lt hpl)];exact hp.2.1
 have f1:∀ o,(w.alloc o).frozen? ⟨p,1,none⟩=false:=fun o=>by rw [World.frozen?_alloc_old _ _ _ (Nat.ne_of_lt hpl)];exact (hT 1 (by omega)).2
 have hw1:IntKind.i64.wrap (t+1)=t+1:=IntWalk.i64_in _ (by omega)
 clear hm hT hp hD hRep hz hx hy
 go_enter Tryz.func124,Tryz.ntmps124
 go_wp2_with fail
 generalize hW:(World.alloc _ _:World)=W
 have HG:Hid (w.grownBy W (some p)):=by show World.grownBy _ _ _;subst hW;exact zAe (uJ (uO w (some p)) 1 _) (World.grownBy_alloc _ _ (some p))
 have HS:Hid (vY W p w.heap.size s (t+1) mb k):=by
  show vY _ _ _ _ _ _ _
  subst hW
  have nep:∀ o,o≠1→(⟨p,1,none⟩:Addr)≠⟨p,o,none⟩:=fun o h e=>by injection e with _ e;exact h e.symm
  have hlt:∀ v,p<(w.setCell ⟨p,1,none⟩ v).heap.size:=fun v=>by simp;exact hpl
  refine ⟨⟨?_,?_,?_⟩,?_,?_,?_,?_,?_⟩
  ·rw [World.cell?_alloc_old _ _ _ (Nat.ne_of_lt (hlt _)),zA (nep 0 (by omega))];exact HP.out.1
  ·rw [World.cell?_alloc_old _ _ _ (Nat.ne_of_lt (hlt _))];exact zD HP.out.2.1
  ·rw [World.cell?_alloc_old _ _ _ (Nat.ne_of_lt (hlt _)),zA (nep 2 (by omega))];exact HP.out.2.2
  ·simp [go_sem]
  ·simp [go_sem]
  ·simp [go_sem]
  ·simp [go_sem]
  ·simp [go_sem]
 have HTW:Hid (zC W p 3):=by show zC _ _ _;subst hW;exact zCd (HT.out.set _ _) (by simp;exact hpl)
 have hql:w.heap.size<W.heap.size:=by subst hW;simp [go_sem]
 have hqm:w.heap.size≠mb:=by omega
 clear hW c1 f1 hw1
 have HMW:Hid (W.ownsMap Tryz.prog 111 RV mb n D):=HM.out.kept HG.out (by simp;omega)
 obtain ⟨w1,hrun,hm1,hg1⟩:=HMW.out.drew.update xH Tryz.underlying171 (show n<maxLen by simp only [maxLen];omega) HK.out (zL1 k.z k.x k.y k.fa k.fn k.fc k.ia k.m k.ic (t+1))
 have HM1:Hid (w1.ownsMap Tryz.prog 111 RV mb (n+1) (zGo D k (t+1))):=hm1
 have HG1:Hid (W.grownBy w1 (some mb)):=⟨hg1.os,hg1.tape,hg1.output,hg1.size,hg1.block⟩
 clear hm1 hg1
 refine wp_region_noPanic ?_
 refine wp_region_held_drew (S:=fun W'=>vY W' p w.heap.size s (t+1) mb k) (by kernel_rfl) HS.out (fun hHeld=>?_)
 have hSd:vY W.drew p w.heap.size s (t+1) mb k:=HS.out
 refine zL (i:=0) (d:=some 11) (v:=?vr0) rfl rfl (Or.inl ⟨by rfl,?hyr0⟩) hSd ?_
 case hyr0=>(intro w hSw;obtain ⟨⟨s0,s1,s2⟩,k0,k1,k2,k3,k4⟩:=(show vY w p _ s (t+1) mb k from hSw);go_simp <;> with_reducible rfl)
 try simp only [Act.put,Qx,Qy,Qz]
 refine zL (i:=1) (d:=some 12) (v:=?vr1) rfl rfl (Or.inl ⟨by rfl,?hyr1⟩) hSd ?_
 case hyr1=>(intro w hSw;obtain ⟨⟨s0,s1,s2⟩,k0,k1,k2,k3,k4⟩:=(show vY w p _ s (t+1) mb k from hSw);go_simp <;> with_reducible rfl)
 try simp only [Act.put,Qx,Qy,Qz]
 refine zL (i:=2) (d:=some 13) (v:=?vr2) rfl rfl (Or.inl ⟨by rfl,?hyr2⟩) hSd ?_
 case hyr2=>(intro w hSw;obtain ⟨⟨s0,s1,s2⟩,k0,k1,k2,k3,k4⟩:=(show vY w p _ s (t+1) mb k from hSw);go_simp <;> with_reducible rfl)
 try simp only [Act.put,Qx,Qy,Qz]
 refine zL (i:=3) (d:=some 14) (v:=?vr3) rfl rfl (Or.inl ⟨by rfl,?hyr3⟩) hSd ?_
 case hyr3=>(intro w hSw;obtain ⟨⟨s0,s1,s2⟩,k0,k1,k2,k3,k4⟩:=(show vY w p _ s (t+1) mb k from hSw);go_simp <;> with_reducible rfl)
 try simp only [Act.put,Qx,Qy,Qz]
 refine zL (i:=4) (d:=some 15) (v:=?vr4) rfl rfl (Or.inl ⟨by rfl,?hyr4⟩) hSd ?_
 case hyr4=>(intro w hSw;obtain ⟨⟨s0,s1,s2⟩,k0,k1,k2,k3,k4⟩:=(show vY w p _ s (t+1) mb k from hSw);go_simp <;> with_reducible rfl)
 try simp only [Act.put,Qx,Qy,Qz]
 refine zL (i:=5) (d:=some 16) (v:=?vr5) rfl rfl (Or.inl ⟨by rfl,?hyr5⟩) hSd ?_
 case hyr5=>(intro w hSw;obtain ⟨⟨s0,s1,s2⟩,k0,k1,k2,k3,k4⟩:=(show vY w p _ s (t+1) mb k from hSw);go_simp <;> with_reducible rfl)
 try simp only [Act.put,Qx,Qy,Qz]
 refine zL (i:=6) (d:=some 17) (v:=?vr6) rfl rfl (Or.inl ⟨by rfl,?hyr6⟩) hSd ?_
 case hyr6=>(intro w hSw;obtain ⟨⟨s0,s1,s2⟩,k0,k1,k2,k3,k4⟩:=(show vY w p _ s (t+1) mb k from hSw);go_simp <;> with_reducible rfl)
 try simp only [Act.put,Qx,Qy,Qz]
 refine zL (i:=7) (d:=some 18) (v:=?vr7) rfl rfl (Or.inl ⟨by rfl,?hyr7⟩) hSd ?_
 case hyr7=>(intro w hSw;obtain ⟨⟨s0,s1,s2⟩,k0,k1,k2,k3,k4⟩:=(show vY w p _ s (t+1) mb k from hSw);go_simp <;> with_reducible rfl)
 try simp only [Act.put,Qx,Qy,Qz]
 refine zL (i:=8) (d:=some 19) (v:=?vr8) rfl rfl (Or.inl ⟨by rfl,?hyr8⟩) hSd ?_
 case hyr8=>(intro w hSw;obtain ⟨⟨s0,s1,s2⟩,k0,k1,k2,k3,k4⟩:=(show vY w p _ s (t+1) mb k from hSw);go_simp <;> with_reducible rfl)
 try simp only [Act.put,Qx,Qy,Qz]
 refine zL (i:=9) (d:=some 20) (v:=?vr9) rfl rfl (Or.inl ⟨by rfl,?hyr9⟩) hSd ?_
 case hyr9=>(intro w hSw;obtain ⟨⟨s0,s1,s2⟩,k0,k1,k2,k3,k4⟩:=(show vY w p _ s (t+1) mb k from hSw);go_simp <;> with_reducible rfl)
 try simp only [Act.put,Qx,Qy,Qz]
 refine zL (i:=10) (d:=some 21) (v:=?vr10) rfl rfl (Or.inl ⟨by rfl,?hyr10⟩) hSd ?_
 case hyr10=>(intro w hSw;obtain ⟨⟨s0,s1,s2⟩,k0,k1,k2,k3,k4⟩:=(show vY w p _ s (t+1) mb k from hSw);go_simp <;> with_reducible rfl)
 try simp only [Act.put,Qx,Qy,Qz]
 refine zL (i:=11) (d:=some 22) (v:=?vr11) rfl rfl (Or.inl ⟨by rfl,?hyr11⟩) hSd ?_
 case hyr11=>(intro w hSw;obtain ⟨⟨s0,s1,s2⟩,k0,k1,k2,k3,k4⟩:=(show vY w p _ s (t+1) mb k from hSw);go_simp <;> with_reducible rfl)
 try simp only [Act.put,Qx,Qy,Qz]
 refine zL (i:=12) (d:=some 23) (v:=?vr12) rfl rfl (Or.inl ⟨by rfl,?hyr12⟩) hSd ?_
 case hyr12=>(intro w hSw;obtain ⟨⟨s0,s1,s2⟩,k0,k1,k2,k3,k4⟩:=(show vY w p _ s (t+1) mb k from hSw);go_simp <;> with_reducible rfl)
 try simp only [Act.put,Qx,Qy,Qz]
 refine zN 13 fun K hK=>?_
 rw [if_pos (by rfl)]
 go_simp
 have HS1:vY w1 p w.heap.size s (t+1) mb k:=HS.out.grown HG1.out hpm hqm
 refine hK.out _ _ HS1 (fun hHeld=>?_)
 clear hK K hrun hSd
 try simp only [Act.put,Qx,Qy,Qz]
 refine wpAnyH_done (by kernel_rfl) ?_ _
 refine NoPanic.normal ?_
 have HT1:Hid (zC w1 p 3):=HTW.out.grown HG1.out hpm
 have HB1:Hid (∀ B,B≤p→B≤mb→Below B w w1):=fun B h1 h2=>(xE HG.out h1 (by omega)).trans (xE HG1.out h2 (by omega))
 have HQ1:Hid (∀ q,q<w.heap.size→q≠p→q≠mb→w1.heap[q]?=w.heap[q]?):=fun q h1 h2 h3=>(HG1.out.block q (Nat.lt_of_lt_of_le h1 HG.out.size) (by simp;exact h3)).trans (HG.out.block q h1 (by simp;exact h2))
 have HSz:Hid (w.heap.size≤w1.heap.size):=Nat.le_trans HG.out.size HG1.out.size
 have HA1:Hid (ShA w1 p s (t+1) mb):=HS1.1
 clear HS1 HS HTW HMW HG HG1 HP HT HM HK
 generalize hD1:zGo D k (t+1)=D1 at *
 have hle:s<(Maps.size D1:Int):=HD.out
 have HM2:Hid (w1.ownsMap Tryz.prog 111 RV mb (n+1) D1):=HM1.out
 go_wp2_with fail
 refine wp_region_noPanic ?_
 refine wp_region_held_drew (S:=fun W'=>ShA W' p s (t+1) mb∧W'.ownsMap Tryz.prog 111 RV mb (n+1) D1) (by kernel_rfl) ⟨HA1.out,HM1.out⟩ (fun hHeld=>?_)
 have hSd:ShA w1.drew p s (t+1) mb∧w1.drew.ownsMap Tryz.prog 111 RV mb (n+1) D1:=⟨HA1.out,HM1.out⟩
 refine zL (i:=0) (d:=some 24) (v:=?vq0) rfl rfl (Or.inl ⟨by rfl,?hyq0⟩) hSd ?_
 case hyq0=>(intro w hSw;obtain ⟨⟨s0,s1,s2⟩,hmm⟩:=(show ShA w p s (t+1) mb∧w.ownsMap Tryz.prog 111 RV mb (n+1) D1 from hSw);have hln:=fun ty=>hmm.len Tryz.underlying171 ty;go_simp <;> with_reducible rfl)
 try simp only [Act.put,Qx,Qy,Qz]
 refine zL (i:=1) (d:=some 25) (v:=?vq1) rfl rfl (Or.inl ⟨by rfl,?hyq1⟩) hSd ?_
 case hyq1=>(intro w hSw;obtain ⟨⟨s0,s1,s2⟩,hmm⟩:=(show ShA w p s (t+1) mb∧w.ownsMap Tryz.prog 111 RV mb (n+1) D1 from hSw);have hln:=fun ty=>hmm.len Tryz.underlying171 ty;go_simp <;> with_reducible rfl)
 try simp only [Act.put,Qx,Qy,Qz]
 refine zL (i:=2) (d:=some 26) (v:=?vq2) rfl rfl (Or.inl ⟨by rfl,?hyq2⟩) hSd ?_
 case hyq2=>(intro w hSw;obtain ⟨⟨s0,s1,s2⟩,hmm⟩:=(show ShA w p s (t+1) mb∧w.ownsMap Tryz.prog 111 RV mb (n+1) D1 from hSw);have hln:=fun ty=>hmm.len Tryz.underlying171 ty;go_simp <;> with_reducible rfl)
 try simp only [Act.put,Qx,Qy,Qz]
 refine zL (i:=3) (d:=some 27) (v:=?vq3) rfl rfl (Or.inl ⟨by rfl,?hyq3⟩) hSd ?_
 case hyq3=>(intro w hSw;obtain ⟨⟨s0,s1,s2⟩,hmm⟩:=(show ShA w p s (t+1) mb∧w.ownsMap Tryz.prog 111 RV mb (n+1) D1 from hSw);have hln:=fun ty=>hmm.len Tryz.underlying171 ty;go_simp <;> with_reducible rfl)
 try simp only [Act.put,Qx,Qy,Qz]
 refine zL (i:=4) (d:=some 28) (v:=?vq4) rfl rfl (Or.inl ⟨by rfl,?hyq4⟩) hSd ?_
 case hyq4=>(intro w hSw;obtain ⟨⟨s0,s1,s2⟩,hmm⟩:=(show ShA w p s (t+1) mb∧w.ownsMap Tryz.prog 111 RV mb (n+1) D1 from hSw);have hln:=fun ty=>hmm.len Tryz.underlying171 ty;go_simp <;> with_reducible rfl)
 try simp only [Act.put,Qx,Qy,Qz]
 refine zL (i:=5) (d:=some 29) (v:=?vq5) rfl rfl (Or.inl ⟨by rfl,?hyq5⟩) hSd ?_
 case hyq5=>(intro w hSw;obtain ⟨⟨s0,s1,s2⟩,hmm⟩:=(show ShA w p s (t+1) mb∧w.ownsMap Tryz.prog 111 RV mb (n+1) D1 from hSw);have hln:=fun ty=>hmm.len Tryz.underlying171 ty;go_simp <;> with_reducible rfl)
 try simp only [Act.put,Qx,Qy,Qz]
 refine zL (i:=6) (d:=some 30) (v:=?vq6) rfl rfl (Or.inl ⟨by rfl,?hyq6⟩) hSd ?_
 case hyq6=>(intro w hSw;obtain ⟨⟨s0,s1,s2⟩,hmm⟩:=(show ShA w p s (t+1) mb∧w.ownsMap Tryz.prog 111 RV mb (n+1) D1 from hSw);have hln:=fun ty=>hmm.len Tryz.underlying171 ty;go_simp <;> with_reducible rfl)
 try simp only [Act.put,Qx,Qy,Qz]
 refine zL (i:=7) (d:=some 31) (v:=?vq7) rfl rfl (Or.inl ⟨by rfl,?hyq7⟩) hSd ?_
 case hyq7=>(intro w hSw;obtain ⟨⟨s0,s1,s2⟩,hmm⟩:=(show ShA w p s (t+1) mb∧w.ownsMap Tryz.prog 111 RV mb (n+1) D1 from hSw);have hln:=fun ty=>hmm.len Tryz.underlying171 ty;go_simp <;> with_reducible rfl)
 try simp only [Act.put,Qx,Qy,Qz]
 refine zL (i:=8) (d:=some 32) (v:=?vq8) rfl rfl (Or.inl ⟨by rfl,?hyq8⟩) hSd ?_
 case hyq8=>(intro w hSw;obtain ⟨⟨s0,s1,s2⟩,hmm⟩:=(show ShA w p s (t+1) mb∧w.ownsMap Tryz.prog 111 RV mb (n+1) D1 from hSw);have hln:=fun ty=>hmm.len Tryz.underlying171 ty;go_simp <;> with_reducible rfl)
 try simp only [Act.put,Qx,Qy,Qz]
 refine zL (i:=9) (d:=some 33) (v:=?vq9) rfl rfl (Or.inl ⟨by rfl,?hyq9⟩) hSd ?_
 case hyq9=>(intro w hSw;obtain ⟨⟨s0,s1,s2⟩,hmm⟩:=(show ShA w p s (t+1) mb∧w.ownsMap Tryz.prog 111 RV mb (n+1) D1 from hSw);have hln:=fun ty=>hmm.len Tryz.underlying171 ty;go_simp <;> with_reducible rfl)
 try simp only [Act.put,Qx,Qy,Qz]
 refine wpAnyH_done (by kernel_rfl) ?_ _
 refine NoPanic.normal ?_
 clear hSd
 have HW:Hid (∀ B,B≤p→B≤mb→Below B w w1.drew):=fun B h1 h2=>⟨(HB1.out B h1 h2).os,(HB1.out B h1 h2).tape,(HB1.out B h1 h2).output,(HB1.out B h1 h2).size,(HB1.out B h1 h2).block⟩
 have HQ2:Hid (∀ q,q<w.heap.size→q≠p→q≠mb→w1.drew.heap[q]?=w.heap[q]?):=HQ1.out
 have HSz2:Hid (w.heap.size≤w1.drew.heap.size):=HSz.out
 have HA2:Hid (ShA w1.drew p s (t+1) mb):=HA1.out
 have HT2:Hid (zC w1.drew p 3):=HT1.out
 have HM3:Hid (w1.drew.ownsMap Tryz.prog 111 RV mb (n+1) D1):=HM2.out.drew
 clear HB1 HA1 HT1 HM1 HM2 HQ1 HSz
 generalize w1.drew=w2 at *
 have hpl2:p<w2.heap.size:=World.block_lt_of_cell? _ _ HA2.out.1
 have hml2:mb<w2.heap.size:=HM3.out.lt
 have HIn:=(show Hid _ from zCs p mb (n+1) s (t+1) D1 L w2 HA2.out HM3.out HRep.out hLl (by rw [HRep.out.size];exact hLl))
 go_wp2_with fail
 refine Calls.mono HIn.out ?_
 rintro e w3 ⟨v,rfl,hK3,hb3⟩
 have hLz:0<L.length:=by have:=HRep.out.size;omega
 obtain ⟨a,M,hL⟩:∃ a M,L=a :: M:=by
  cases L with
  | nil=>simp at hLz
  | cons a M=>exact ⟨a,M,rfl⟩
 have HI:Hid (I64 a.z∧I64 a.x∧I64 a.y):=HRep.out.ints a (by rw [hL];simp)
 have HC:Hid (∃ g c,v=.slice (some ⟨g,0,none⟩) L.length c∧w3.cell? ⟨g,0,none⟩=some (.int .i64 a.z)∧w3.cell? ⟨g,1,none⟩=some (.int .i64 a.x)∧w3.cell? ⟨g,2,none⟩=some (.int .i64 a.y)):=by
  show ∃ g c,_
  have hK3':w3.ownsRow w2.heap.size 141 5 v L.length (yU L):=hK3
  obtain ⟨_,⟨_,h0⟩ | ⟨g,c,cur,hv,_⟩⟩:=id hK3'
  ·omega
  ·rw [hv] at hK3'
   have hl:(yU L).length=L.length * 5:=hK3'.1
   refine ⟨g,c,hv,?_,?_,?_⟩
   ·rw [hK3'.cellAt 0 (by omega),hL];rfl
   ·rw [hK3'.cellAt 1 (by omega),hL];rfl
   ·rw [hK3'.cellAt 2 (by omega),hL];rfl
 have HT3:=(show Hid _ from zEk p mb (n+1) s (t+1) D1 a.z a.x a.y w3 (HA2.out.below hb3) (HT2.out.below hb3) (zW HM3.out hb3) HI.out.1 HI.out.2.1 HI.out.2.2)
 have HQ3:Hid (∀ q,q<w.heap.size→q≠p→q≠mb→w3.heap[q]?=w.heap[q]?):=fun q h1 h2 h3=>(hb3.block q (Nat.lt_of_lt_of_le h1 HSz2.out)).trans (HQ2.out q h1 h2 h3)
 have HSz3:Hid (w.heap.size≤w3.heap.size):=Nat.le_trans HSz2.out hb3.size
 have HB3:Hid (∀ B,B≤p→B≤mb→Below B w w3):=fun B h1 h2=>(HW.out B h1 h2).trans (hb3.mono (by omega))
 obtain ⟨g,c,rfl,g0,g1,g2⟩:=HC.out
 have hi1:(0:Int)<(L.length:Int):=by omega
 clear hK3 HIn hb3 HA2 HT2 HM3 HW
 go_wp2_with fail
 refine Calls.mono HT3.out ?_
 rintro e w4 ⟨rfl,h1,h2,h3,h4,h5⟩
 have HF:Hid (ShA w4 p s (t+1) mb∧zC w4 p 3∧w4.ownsMap Tryz.prog 111 RV mb (n+1) (D1.del (uS a.z a.x a.y))∧(∀ B,B≤p→B≤mb→Below B w w4)∧∀ q,q<w.heap.size→q≠p→q≠mb→w4.heap[q]?=w.heap[q]?):=⟨h1,h2,h3,fun B b1 b2=>(HB3.out B b1 b2).trans (h4 B b1 b2),fun q q1 q2 q3=>(h5 q (Nat.lt_of_lt_of_le q1 HSz3.out) q3).trans (HQ3.out q q1 q2 q3)⟩
 clear h1 h2 h3 h4 h5 HB3 HT3 HQ3
 go_wp2_with fail
 refine bodyPost_end (v:=.tuple #[]) (by simp [results,Tryz.results124,go_sem]) rfl ?_
 exact ⟨rfl,HF.out.1,HF.out.2.1,⟨a,M,hL,by rw [hD1];exact HF.out.2.2.1⟩,HF.out.2.2.2⟩
end Go.Proofs.YtpaiholildedcaaGreat
