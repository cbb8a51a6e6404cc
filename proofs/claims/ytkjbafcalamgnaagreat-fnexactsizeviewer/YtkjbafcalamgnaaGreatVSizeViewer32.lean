/- Texts. -/
import Derived.Test.YtkjbafcalamgnaaGreatVSizeViewer28
set_option linter.unusedSimpArgs false
set_option linter.unusedVariables false
set_option maxRecDepth 100000
set_option maxHeartbeats 32000000
namespace Go.Proofs.YtkjbafcalamgnaaGreat
open Go.RowKit
theorem zDt {w:World}{P:Program}{k:TypeId}{mb n o p:Nat}{D:DataW Value}{v:Value}(hm:w.ownsMap P k RV mb n D)(hp:w.cell? ⟨p,o,none⟩=some v):p≠mb:=by
 intro e
 subst e
 obtain ⟨es,c,hb,_⟩:=hm
 simp [World.cell?,hb] at hp
def zBt (W:World)(p q:Nat)(s t:Int)(mb:Nat)(k:Kp):Prop :=
 (W.cell? ⟨p,0,none⟩=some (.int .i64 s)∧W.cell? ⟨p,1,none⟩=some (.int .i64 t)∧W.cell? ⟨p,2,none⟩=some (.map (some mb))) ∧
 W.cell? ⟨q,0,none⟩=some (.int .i64 k.z)∧W.cell? ⟨q,1,none⟩=some (.int .i64 k.x)∧W.cell? ⟨q,2,none⟩=some (.int .i64 k.y)∧W.cell? ⟨q,3,none⟩=some (.slice k.fa k.fn k.fc)∧W.cell? ⟨q,4,none⟩=some (.slice k.ia k.m k.ic)
theorem zBt.grown {w w':World}{p q mb:Nat}{s t:Int}{k:Kp}(h:zBt w p q s t mb k)(hg:w.grownBy w' (some mb))(hp:p≠mb)(hq:q≠mb):zBt w' p q s t mb k:=by
 obtain ⟨⟨a,b,c⟩,d,e,f,g,i⟩:=h
 exact ⟨⟨yX hg a hp,yX hg b hp,yX hg c hp⟩,yX hg d hq,yX hg e hq,yX hg f hq,yX hg g hq,yX hg i hq⟩
abbrev zJc (D:DataW Value)(k:Kp)(t:Int):DataW Value:=D.put (zBv k.z k.x k.y) (.held (agV k.z k.x k.y k.fa k.fn k.fc k.ia k.m k.ic t))
theorem zGr {w:World}{p n:Nat}{o:Obj}(h:zC w p n)(hp:p<w.heap.size):zC (w.alloc o) p n:=fun i hi=>by
 obtain ⟨⟨v,h1⟩,h2⟩:=h i hi
 refine ⟨⟨v,?_⟩,?_⟩
 ·rw [World.cell?_alloc_old _ _ _ (Nat.ne_of_lt hp)];exact h1
 ·rw [World.frozen?_alloc_old _ _ _ (Nat.ne_of_lt hp)];exact h2
theorem zD0 (p mb n:Nat)(s t:Int)(D:DataW Value)(k:Kp)(w:World)(hp:ShA w p s t mb)(hT:zC w p 3)(hm:w.ownsMap Tryz.prog 104 RV mb n D)(hz:I64 k.z)(hx:I64 k.x)(hy:I64 k.y)(hn:n<1000)(ht0:-10≤t)(ht:t<1000)(hD:(Maps.size (zJc D k (t+1)):Int)≤s) :
  Calls Tryz.prog 124 #[.pointer (some ⟨p,0,none⟩),kpV k] w fun e w'=>e=.returned (.tuple #[])∧ShA w' p s (t+1) mb∧zC w' p 3∧w'.ownsMap Tryz.prog 104 RV mb (n+1) (zJc D k (t+1))∧(∀ B,B≤p→B≤mb→Below B w w')∧∀ q,q<w.heap.size→q≠p→q≠mb→w'.heap[q]?=w.heap[q]?:=by
 have hpl:p<w.heap.size:=World.block_lt_of_cell? _ _ hp.1
 have hml:mb<w.heap.size:=hm.lt
 have hpm:p≠mb:=zDt hm hp.1
 have HM:Hid (w.ownsMap Tryz.prog 104 RV mb n D):=hm
 have HT:Hid (zC w p 3):=hT
 have HP:Hid (ShA w p s t mb):=hp
 have HD:Hid ((Maps.size (zJc D k (t+1)):Int)≤s):=hD
 have HK:Hid (keyOf Tryz.prog 104 (vT k.z k.x k.y)=some (zBv k.z k.x k.y)):=zDg hz hx hy
 have c1:∀ o,(w.alloc o).cell? ⟨p,1,none⟩=some (.int .i64 t):=fun o=>by rw [World.cell?_alloc_old _ _ _ (Nat.ne_of_lt hpl)];exact hp.2.1
 have f1:∀ o,(w.alloc o).frozen? ⟨p,1,none⟩=false:=fun o=>by rw [World.frozen?_alloc_old _ _ _ (Nat.ne_of_lt hpl)];exact (hT 1 (by omega)).2
 have hw1:IntKind.i64.wrap (t+1)=t+1:=IntWalk.i64_in _ (by omega)
 clear hm hT hp hD hz hx hy
 go_enter Tryz.func124,Tryz.ntmps124
 go_wp2_with fail
 generalize hW:(World.alloc _ _:World)=W
 have HG:Hid (w.grownBy W (some p)):=by show World.grownBy _ _ _;subst hW;exact zDp (zCb (zCk w (some p)) 1 _) (World.grownBy_alloc _ _ (some p))
 have HS:Hid (zBt W p w.heap.size s (t+1) mb k):=by
  show zBt _ _ _ _ _ _ _
  subst hW
  have nep:∀ o,o≠1→(⟨p,1,none⟩:Addr)≠⟨p,o,none⟩:=fun o h e=>by injection e with _ e;exact h e.symm
  have hlt:∀ v,p<(w.setCell ⟨p,1,none⟩ v).heap.size:=fun v=>by simp;exact hpl
  refine ⟨⟨?_,?_,?_⟩,?_,?_,?_,?_,?_⟩
  ·rw [World.cell?_alloc_old _ _ _ (Nat.ne_of_lt (hlt _)),zB (nep 0 (by omega))];exact HP.out.1
  ·rw [World.cell?_alloc_old _ _ _ (Nat.ne_of_lt (hlt _))];exact zE HP.out.2.1
  ·rw [World.cell?_alloc_old _ _ _ (Nat.ne_of_lt (hlt _)),zB (nep 2 (by omega))];exact HP.out.2.2
  ·simp [go_sem]
  ·simp [go_sem]
  ·simp [go_sem]
  ·simp [go_sem]
  ·simp [go_sem]
 have HTW:Hid (zC W p 3):=by show zC _ _ _;subst hW;exact zGr (HT.out.set _ _) (by simp;exact hpl)
 have hql:w.heap.size<W.heap.size:=by subst hW;simp [go_sem]
 have hqm:w.heap.size≠mb:=by omega
 clear hW c1 f1 hw1
 have HMW:Hid (W.ownsMap Tryz.prog 104 RV mb n D):=HM.out.kept HG.out (by simp;omega)
 obtain ⟨w1,hrun,hm1,hg1⟩:=HMW.out.drew.update uI Tryz.underlying170 (show n<maxLen by simp only [maxLen];omega) HK.out (zXq k.z k.x k.y k.fa k.fn k.fc k.ia k.m k.ic (t+1))
 have HM1:Hid (w1.ownsMap Tryz.prog 104 RV mb (n+1) (zJc D k (t+1))):=hm1
 have HG1:Hid (W.grownBy w1 (some mb)):=⟨hg1.os,hg1.tape,hg1.output,hg1.size,hg1.block⟩
 clear hm1 hg1
 refine wp_region_noPanic ?_
 refine wp_region_held_drew (S:=fun W'=>zBt W' p w.heap.size s (t+1) mb k) (by kernel_rfl) HS.out (fun hHeld=>?_)
 have hSd:zBt W.drew p w.heap.size s (t+1) mb k:=HS.out
 refine zU (i:=0) (d:=some 11) (v:=?vr0) rfl rfl (Or.inl ⟨by rfl,?hyr0⟩) hSd ?_
 case hyr0=>(intro w hSw;obtain ⟨⟨s0,s1,s2⟩,k0,k1,k2,k3,k4⟩:=(show zBt w p _ s (t+1) mb k from hSw);go_simp <;> with_reducible rfl)
 try simp only [Act.put,Qx,Qy,Qz]
 refine zU (i:=1) (d:=some 12) (v:=?vr1) rfl rfl (Or.inl ⟨by rfl,?hyr1⟩) hSd ?_
 case hyr1=>(intro w hSw;obtain ⟨⟨s0,s1,s2⟩,k0,k1,k2,k3,k4⟩:=(show zBt w p _ s (t+1) mb k from hSw);go_simp <;> with_reducible rfl)
 try simp only [Act.put,Qx,Qy,Qz]
 refine zU (i:=2) (d:=some 13) (v:=?vr2) rfl rfl (Or.inl ⟨by rfl,?hyr2⟩) hSd ?_
 case hyr2=>(intro w hSw;obtain ⟨⟨s0,s1,s2⟩,k0,k1,k2,k3,k4⟩:=(show zBt w p _ s (t+1) mb k from hSw);go_simp <;> with_reducible rfl)
 try simp only [Act.put,Qx,Qy,Qz]
 refine zU (i:=3) (d:=some 14) (v:=?vr3) rfl rfl (Or.inl ⟨by rfl,?hyr3⟩) hSd ?_
 case hyr3=>(intro w hSw;obtain ⟨⟨s0,s1,s2⟩,k0,k1,k2,k3,k4⟩:=(show zBt w p _ s (t+1) mb k from hSw);go_simp <;> with_reducible rfl)
 try simp only [Act.put,Qx,Qy,Qz]
 refine zU (i:=4) (d:=some 15) (v:=?vr4) rfl rfl (Or.inl ⟨by rfl,?hyr4⟩) hSd ?_
 case hyr4=>(intro w hSw;obtain ⟨⟨s0,s1,s2⟩,k0,k1,k2,k3,k4⟩:=(show zBt w p _ s (t+1) mb k from hSw);go_simp <;> with_reducible rfl)
 try simp only [Act.put,Qx,Qy,Qz]
 refine zU (i:=5) (d:=some 16) (v:=?vr5) rfl rfl (Or.inl ⟨by rfl,?hyr5⟩) hSd ?_
 case hyr5=>(intro w hSw;obtain ⟨⟨s0,s1,s2⟩,k0,k1,k2,k3,k4⟩:=(show zBt w p _ s (t+1) mb k from hSw);go_simp <;> with_reducible rfl)
 try simp only [Act.put,Qx,Qy,Qz]
 refine zU (i:=6) (d:=some 17) (v:=?vr6) rfl rfl (Or.inl ⟨by rfl,?hyr6⟩) hSd ?_
 case hyr6=>(intro w hSw;obtain ⟨⟨s0,s1,s2⟩,k0,k1,k2,k3,k4⟩:=(show zBt w p _ s (t+1) mb k from hSw);go_simp <;> with_reducible rfl)
 try simp only [Act.put,Qx,Qy,Qz]
 refine zU (i:=7) (d:=some 18) (v:=?vr7) rfl rfl (Or.inl ⟨by rfl,?hyr7⟩) hSd ?_
 case hyr7=>(intro w hSw;obtain ⟨⟨s0,s1,s2⟩,k0,k1,k2,k3,k4⟩:=(show zBt w p _ s (t+1) mb k from hSw);go_simp <;> with_reducible rfl)
 try simp only [Act.put,Qx,Qy,Qz]
 refine zU (i:=8) (d:=some 19) (v:=?vr8) rfl rfl (Or.inl ⟨by rfl,?hyr8⟩) hSd ?_
 case hyr8=>(intro w hSw;obtain ⟨⟨s0,s1,s2⟩,k0,k1,k2,k3,k4⟩:=(show zBt w p _ s (t+1) mb k from hSw);go_simp <;> with_reducible rfl)
 try simp only [Act.put,Qx,Qy,Qz]
 refine zU (i:=9) (d:=some 20) (v:=?vr9) rfl rfl (Or.inl ⟨by rfl,?hyr9⟩) hSd ?_
 case hyr9=>(intro w hSw;obtain ⟨⟨s0,s1,s2⟩,k0,k1,k2,k3,k4⟩:=(show zBt w p _ s (t+1) mb k from hSw);go_simp <;> with_reducible rfl)
 try simp only [Act.put,Qx,Qy,Qz]
 refine zU (i:=10) (d:=some 21) (v:=?vr10) rfl rfl (Or.inl ⟨by rfl,?hyr10⟩) hSd ?_
 case hyr10=>(intro w hSw;obtain ⟨⟨s0,s1,s2⟩,k0,k1,k2,k3,k4⟩:=(show zBt w p _ s (t+1) mb k from hSw);go_simp <;> with_reducible rfl)
 try simp only [Act.put,Qx,Qy,Qz]
 refine zU (i:=11) (d:=some 22) (v:=?vr11) rfl rfl (Or.inl ⟨by rfl,?hyr11⟩) hSd ?_
 case hyr11=>(intro w hSw;obtain ⟨⟨s0,s1,s2⟩,k0,k1,k2,k3,k4⟩:=(show zBt w p _ s (t+1) mb k from hSw);go_simp <;> with_reducible rfl)
 try simp only [Act.put,Qx,Qy,Qz]
 refine zU (i:=12) (d:=some 23) (v:=?vr12) rfl rfl (Or.inl ⟨by rfl,?hyr12⟩) hSd ?_
 case hyr12=>(intro w hSw;obtain ⟨⟨s0,s1,s2⟩,k0,k1,k2,k3,k4⟩:=(show zBt w p _ s (t+1) mb k from hSw);go_simp <;> with_reducible rfl)
 try simp only [Act.put,Qx,Qy,Qz]
 refine zN 13 fun K hK=>?_
 rw [if_pos (by rfl)]
 go_simp
 have HS1:zBt w1 p w.heap.size s (t+1) mb k:=HS.out.grown HG1.out hpm hqm
 refine hK.out _ _ HS1 (fun hHeld=>?_)
 clear hK K hrun hSd
 try simp only [Act.put,Qx,Qy,Qz]
 refine wpAnyH_done (by kernel_rfl) ?_ _
 refine NoPanic.normal ?_
 have HT1:Hid (zC w1 p 3):=HTW.out.grown HG1.out hpm
 have HB1:Hid (∀ B,B≤p→B≤mb→Below B w w1):=fun B h1 h2=>(uD HG.out h1 (by omega)).trans (uD HG1.out h2 (by omega))
 have HQ1:Hid (∀ q,q<w.heap.size→q≠p→q≠mb→w1.heap[q]?=w.heap[q]?):=fun q h1 h2 h3=>(HG1.out.block q (Nat.lt_of_lt_of_le h1 HG.out.size) (by simp;exact h3)).trans (HG.out.block q h1 (by simp;exact h2))
 have HA1:Hid (ShA w1 p s (t+1) mb):=HS1.1
 clear HS1 HS HTW HMW HG HG1 HP HT HM HK
 generalize hD1:zJc D k (t+1)=D1 at *
 have hle:¬ (s<(Maps.size D1:Int)):=by have:=HD.out;omega
 have HM2:Hid (w1.ownsMap Tryz.prog 104 RV mb (n+1) D1):=HM1.out
 go_wp2_with fail
 refine wp_region_noPanic ?_
 refine wp_region_held_drew (S:=fun W'=>ShA W' p s (t+1) mb∧W'.ownsMap Tryz.prog 104 RV mb (n+1) D1) (by kernel_rfl) ⟨HA1.out,HM1.out⟩ (fun hHeld=>?_)
 have hSd:ShA w1.drew p s (t+1) mb∧w1.drew.ownsMap Tryz.prog 104 RV mb (n+1) D1:=⟨HA1.out,HM1.out⟩
 refine zU (i:=0) (d:=some 24) (v:=?vq0) rfl rfl (Or.inl ⟨by rfl,?hyq0⟩) hSd ?_
 case hyq0=>(intro w hSw;obtain ⟨⟨s0,s1,s2⟩,hmm⟩:=(show ShA w p s (t+1) mb∧w.ownsMap Tryz.prog 104 RV mb (n+1) D1 from hSw);have hln:=fun ty=>hmm.len Tryz.underlying170 ty;go_simp <;> with_reducible rfl)
 try simp only [Act.put,Qx,Qy,Qz]
 refine zU (i:=1) (d:=some 25) (v:=?vq1) rfl rfl (Or.inl ⟨by rfl,?hyq1⟩) hSd ?_
 case hyq1=>(intro w hSw;obtain ⟨⟨s0,s1,s2⟩,hmm⟩:=(show ShA w p s (t+1) mb∧w.ownsMap Tryz.prog 104 RV mb (n+1) D1 from hSw);have hln:=fun ty=>hmm.len Tryz.underlying170 ty;go_simp <;> with_reducible rfl)
 try simp only [Act.put,Qx,Qy,Qz]
 refine zU (i:=2) (d:=some 26) (v:=?vq2) rfl rfl (Or.inl ⟨by rfl,?hyq2⟩) hSd ?_
 case hyq2=>(intro w hSw;obtain ⟨⟨s0,s1,s2⟩,hmm⟩:=(show ShA w p s (t+1) mb∧w.ownsMap Tryz.prog 104 RV mb (n+1) D1 from hSw);have hln:=fun ty=>hmm.len Tryz.underlying170 ty;go_simp <;> with_reducible rfl)
 try simp only [Act.put,Qx,Qy,Qz]
 refine zU (i:=3) (d:=some 27) (v:=?vq3) rfl rfl (Or.inl ⟨by rfl,?hyq3⟩) hSd ?_
 case hyq3=>(intro w hSw;obtain ⟨⟨s0,s1,s2⟩,hmm⟩:=(show ShA w p s (t+1) mb∧w.ownsMap Tryz.prog 104 RV mb (n+1) D1 from hSw);have hln:=fun ty=>hmm.len Tryz.underlying170 ty;go_simp <;> with_reducible rfl)
 try simp only [Act.put,Qx,Qy,Qz]
 refine zU (i:=4) (d:=some 28) (v:=?vq4) rfl rfl (Or.inl ⟨by rfl,?hyq4⟩) hSd ?_
 case hyq4=>(intro w hSw;obtain ⟨⟨s0,s1,s2⟩,hmm⟩:=(show ShA w p s (t+1) mb∧w.ownsMap Tryz.prog 104 RV mb (n+1) D1 from hSw);have hln:=fun ty=>hmm.len Tryz.underlying170 ty;go_simp <;> with_reducible rfl)
 try simp only [Act.put,Qx,Qy,Qz]
 refine zU (i:=5) (d:=some 29) (v:=?vq5) rfl rfl (Or.inl ⟨by rfl,?hyq5⟩) hSd ?_
 case hyq5=>(intro w hSw;obtain ⟨⟨s0,s1,s2⟩,hmm⟩:=(show ShA w p s (t+1) mb∧w.ownsMap Tryz.prog 104 RV mb (n+1) D1 from hSw);have hln:=fun ty=>hmm.len Tryz.underlying170 ty;go_simp <;> with_reducible rfl)
 try simp only [Act.put,Qx,Qy,Qz]
 refine zU (i:=6) (d:=some 30) (v:=?vq6) rfl rfl (Or.inl ⟨by rfl,?hyq6⟩) hSd ?_
 case hyq6=>(intro w hSw;obtain ⟨⟨s0,s1,s2⟩,hmm⟩:=(show ShA w p s (t+1) mb∧w.ownsMap Tryz.prog 104 RV mb (n+1) D1 from hSw);have hln:=fun ty=>hmm.len Tryz.underlying170 ty;go_simp <;> with_reducible rfl)
 try simp only [Act.put,Qx,Qy,Qz]
 refine zU (i:=7) (d:=some 31) (v:=?vq7) rfl rfl (Or.inl ⟨by rfl,?hyq7⟩) hSd ?_
 case hyq7=>(intro w hSw;obtain ⟨⟨s0,s1,s2⟩,hmm⟩:=(show ShA w p s (t+1) mb∧w.ownsMap Tryz.prog 104 RV mb (n+1) D1 from hSw);have hln:=fun ty=>hmm.len Tryz.underlying170 ty;go_simp <;> with_reducible rfl)
 try simp only [Act.put,Qx,Qy,Qz]
 refine zU (i:=8) (d:=some 32) (v:=?vq8) rfl rfl (Or.inl ⟨by rfl,?hyq8⟩) hSd ?_
 case hyq8=>(intro w hSw;obtain ⟨⟨s0,s1,s2⟩,hmm⟩:=(show ShA w p s (t+1) mb∧w.ownsMap Tryz.prog 104 RV mb (n+1) D1 from hSw);have hln:=fun ty=>hmm.len Tryz.underlying170 ty;go_simp <;> with_reducible rfl)
 try simp only [Act.put,Qx,Qy,Qz]
 refine zU (i:=9) (d:=some 33) (v:=?vq9) rfl rfl (Or.inl ⟨by rfl,?hyq9⟩) hSd ?_
 case hyq9=>(intro w hSw;obtain ⟨⟨s0,s1,s2⟩,hmm⟩:=(show ShA w p s (t+1) mb∧w.ownsMap Tryz.prog 104 RV mb (n+1) D1 from hSw);have hln:=fun ty=>hmm.len Tryz.underlying170 ty;go_simp <;> with_reducible rfl)
 try simp only [Act.put,Qx,Qy,Qz]
 refine wpAnyH_done (by kernel_rfl) ?_ _
 refine NoPanic.normal ?_
 clear hSd
 go_wp2
 refine bodyPost_end (v:=.tuple #[]) (by simp [results,Tryz.results124,go_sem]) rfl ?_
 exact ⟨rfl,HA1.out,HT1.out,by rw [hD1];exact HM2.out.drew,fun B h1 h2=>⟨(HB1.out B h1 h2).os,(HB1.out B h1 h2).tape,(HB1.out B h1 h2).output,(HB1.out B h1 h2).size,(HB1.out B h1 h2).block⟩,fun q h1 h2 h3=>HQ1.out q h1 h2 h3⟩
theorem zOs (p mb n:Nat)(s t:Int)(D:DataW Value)(k:Kp)(w:World)(hp:ShA w p s t mb)(hT:zC w p 3)(hm:w.ownsMap Tryz.prog 104 RV mb n D)(hz:I64 k.z)(hx:I64 k.x)(hy:I64 k.y)(hn:n<1000)(ht0:-10≤t)(ht:t<1000)(hD:(Maps.size (zJc D k (t+1)):Int)≤s) :
  Calls Tryz.prog 124 #[.pointer (some ⟨p,0,none⟩),kpV k] w fun e w'=>e=.returned (.tuple #[])∧ShA w' p s (t+1) mb∧zC w' p 3∧w'.ownsMap Tryz.prog 104 RV mb (n+1) (zJc D k (t+1))∧∀ B,B≤p→B≤mb→Below B w w' :=
 (zD0 p mb n s t D k w hp hT hm hz hx hy hn ht0 ht hD).mono fun e w' ⟨h1,h2,h3,h4,h5,_⟩=>⟨h1,h2,h3,h4,h5⟩
end Go.Proofs.YtkjbafcalamgnaaGreat
