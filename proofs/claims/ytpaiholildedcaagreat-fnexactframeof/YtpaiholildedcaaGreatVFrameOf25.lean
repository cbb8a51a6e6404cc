/- Texts. -/
import Derived.Test.YtpaiholildedcaaGreatVFrameOf23
set_option linter.unusedSimpArgs false
set_option linter.unusedVariables false
set_option maxRecDepth 100000
set_option maxHeartbeats 32000000
namespace Go.Proofs.YtpaiholildedcaaGreat
open Go.RowKit
abbrev agV (z x y:Int)(fa:Option Addr)(fn fc:Nat)(ia:Option Addr)(m ic:Nat)(t:Int):Value:=.agg #[.int .i64 z,.int .i64 x,.int .i64 y,.slice fa fn fc,.slice ia m ic,.int .i64 t]
def RV:Value→Option (DataW Value × List MemPlace)
 | .agg cs=>match cs.toList with
  | [.int .i64 _,.int .i64 _,.int .i64 _,.slice _ _ _,.slice _ _ _,.int .i64 _]=>some (.held (.agg cs),[])
  | _=>none
 | _=>none
theorem RV_mk (z x y:Int)(fa:Option Addr)(fn fc:Nat)(ia:Option Addr)(m ic:Nat)(t:Int):RV (agV z x y fa fn fc ia m ic t)=some (.held (agV z x y fa fn fc ia m ic t),[]):=rfl
theorem zQm {v:Value}{d:DataW Value}{ps:List MemPlace}(h:RV v=some (d,ps)):d=.held v∧∃ z x y fa fn fc ia m ic t,v=agV z x y fa fn fc ia m ic t:=by
 unfold RV at h
 split at h
 ·rename_i cs
  split at h
  ·rename_i hl
   obtain ⟨l⟩:=cs
   replace hl:l=_:=hl
   subst hl
   injection h with h
   injection h with h1 h2
   exact ⟨h1.symm,_,_,_,_,_,_,_,_,_,_,rfl⟩
  ·cases h
 ·cases h
theorem yN {w w':World}{P:Program}{k:TypeId}{mb n:Nat}{D:DataW Value}(h:w.ownsMap P k RV mb n D)(hb:Below w.heap.size w w'):w'.ownsMap P k RV mb n D:=by
 have hl:=h.lt
 obtain ⟨es,c,h1,h2⟩:=h
 exact ⟨es,c,(hb.block mb hl).trans h1,h2⟩
theorem zGe (w:World):(zeroValue 181).run Tryz.prog w=.ok (agV 0 0 0 none 0 0 none 0 0 0) w:=by kernel_rfl
def ShA (w:World)(p:Nat)(s t:Int)(mb:Nat):Prop:=w.cell? ⟨p,0,none⟩=some (.int .i64 s)∧w.cell? ⟨p,1,none⟩=some (.int .i64 t)∧w.cell? ⟨p,2,none⟩=some (.map (some mb))
theorem ShA.below {w w':World}{p mb:Nat}{s t:Int}(h:ShA w p s t mb)(hb:Below w.heap.size w w'):ShA w' p s t mb :=
 have hl:=World.block_lt_of_cell? _ _ h.1
 ⟨(hb.cell (p:=⟨p,0,none⟩) hl).trans h.1,(hb.cell (p:=⟨p,1,none⟩) hl).trans h.2.1,(hb.cell (p:=⟨p,2,none⟩) hl).trans h.2.2⟩
theorem zO8 {w:World}{mb n:Nat}{D:DataW Value}{z x y:Int}(hm:w.ownsMap Tryz.prog 111 RV mb n D)(hz:I64 z)(hx:I64 x)(hy:I64 y) :
  ∃ a b c fa fn fc ia m ic t,∀ W,Bw w W→(Instr.lookup 171 (.map (some mb)) (xD z x y) true).run Tryz.prog W=.ok (.tuple #[agV a b c fa fn fc ia m ic t,.bool (Maps.has D (zBj z x y))]) W:=by
 have key:∀ W,Bw w W→∃ v,D.atKey (zBj z x y) (.held (agV 0 0 0 none 0 0 none 0 0 0))=.held v∧(∃ a b c fa fn fc ia m ic t,v=agV a b c fa fn fc ia m ic t)∧(Instr.lookup 171 (.map (some mb)) (xD z x y) true).run Tryz.prog W=.ok (.tuple #[v,.bool (Maps.has D (zBj z x y))]) W:=fun W hW=>by
  obtain ⟨v,ps,hr,hv⟩:=(yN hm hW).look_ok zBa Tryz.underlying171 (zGe _) (RV_mk 0 0 0 none 0 0 none 0 0 0) (zDa hz hx hy)
  obtain ⟨e,h⟩:=zQm hv
  exact ⟨v,e,h,hr⟩
 obtain ⟨v,hv,⟨a,b,c,fa,fn,fc,ia,m,ic,t,rfl⟩,_⟩:=key w (Below.refl _ _)
 refine ⟨a,b,c,fa,fn,fc,ia,m,ic,t,fun W hW=>?_⟩
 obtain ⟨v',hv',_,hr⟩:=key W hW
 rw [hv] at hv'
 injection hv' with e
 rw [e];exact hr
theorem uS (p mb n:Nat)(s t:Int)(D:DataW Value)(z x y:Int)(w:World)(hp:ShA w p s t mb)(hm:w.ownsMap Tryz.prog 111 RV mb n D)(hz:I64 z)(hx:I64 x)(hy:I64 y) :
  Calls Tryz.prog 81 #[.pointer (some ⟨p,0,none⟩),xD z x y] w fun e w'=>e=.returned (.bool (Maps.has D (zBj z x y)))∧Bw w w':=by
 obtain ⟨va,vb,vc,fa,fn,fc,ia,m,ic,vt,hL⟩:=zO8 hm hz hx hy
 have HP:Hid (ShA w p s t mb):=hp
 generalize Maps.has D (zBj z x y)=B at *
 clear hm hz hx hy hp
 go_enter Tryz.func81,Tryz.ntmps81
 go_wp2_with fail
 generalize hW:(w.alloc _:World)=W
 have HB0:Bw w W:=by subst hW;exact Qb
 have HR:RK W w.heap.size z x y:=by subst hW;refine ⟨?_,?_,?_⟩ <;> simp [go_sem]
 have c2:∀ W',Bw W W'→W'.cell? ⟨p,2,none⟩=some (.map (some mb)):=fun W' h=>(HP.out.below (zA HB0 h)).2.2
 have r0:∀ W',Bw W W'→W'.cell? ⟨w.heap.size,0,none⟩=some (.int .i64 z):=fun W' h=>(HR.below h).1
 have r1:∀ W',Bw W W'→W'.cell? ⟨w.heap.size,1,none⟩=some (.int .i64 x):=fun W' h=>(HR.below h).2.1
 have r2:∀ W',Bw W W'→W'.cell? ⟨w.heap.size,2,none⟩=some (.int .i64 y):=fun W' h=>(HR.below h).2.2
 have l5:∀ W',Bw W W'→(Instr.lookup 171 (.map (some mb)) (xD z x y) true).run Tryz.prog W'=.ok (.tuple #[agV va vb vc fa fn fc ia m ic vt,.bool B]) W':=fun W' h=>hL W' (zA HB0 h)
 have HB:Hid (Bw w W):=HB0
 clear hW hL HR HB0
 refine wp_region_noPanic ?_
 refine wp_region_held_drew (S:=fun W'=>Bw W W') (by kernel_rfl) (by have:=Below.refl W.heap.size W;exact Qb) (fun hHeld=>?_)
 have hSd:Bw W W.drew:=hHeld
 refine zE (i:=0) (d:=some 8) rfl rfl (hS:=hSd) ?_
 try simp only [Act.put,Qx,Qy,Qz]
 refine zE (i:=1) (d:=some 9) rfl rfl (hS:=hSd) ?_
 try simp only [Act.put,Qx,Qy,Qz]
 refine zE (i:=2) (d:=some 10) rfl rfl (hS:=hSd) ?_
 try simp only [Act.put,Qx,Qy,Qz]
 refine zE (i:=3) (d:=some 11) rfl rfl (hS:=hSd) ?_
 try simp only [Act.put,Qx,Qy,Qz]
 refine zE (i:=4) (d:=some 12) rfl rfl (hS:=hSd) ?_
 try simp only [Act.put,Qx,Qy,Qz]
 refine zE (i:=5) (d:=some 13) rfl rfl (hS:=hSd) ?_
 try simp only [Act.put,Qx,Qy,Qz]
 refine zE (i:=6) (d:=some 7) rfl rfl (hS:=hSd) ?_
 try simp only [Act.put,Qx,Qy,Qz]
 refine zE (i:=7) (d:=some 14) rfl rfl (hS:=hSd) ?_
 try simp only [Act.put,Qx,Qy,Qz]
 refine zE (i:=8) (d:=some 15) rfl rfl (hS:=hSd) ?_
 try simp only [Act.put,Qx,Qy,Qz]
 refine zO 9 fun K hK=>?_
 rw [if_pos (by rfl)]
 go_simp
 generalize hwA:(World.drew (World.alloc _ _):World)=wA
 have hSA:Bw W wA:=by subst hwA;have:=hSd;exact Qb
 have hT:zC wA W.heap.size 6:=by
  subst hwA
  intro o ho
  have:o=0∨o=1∨o=2∨o=3∨o=4∨o=5:=by omega
  rcases this with rfl | rfl | rfl | rfl | rfl | rfl <;> exact ⟨⟨_,by simp [go_sem];rfl⟩,by simp [go_sem]⟩
 clear hwA
 refine hK.out _ _ hSA (fun hHeld=>?_)
 clear hK K
 try simp only [Act.put,Qx,Qy,Qz]
 refine zO 10 fun K hK=>?_
 rw [if_pos (by rfl)]
 have t0:=hT.cell 0 (by omega)
 have t1:=hT.cell 1 (by omega)
 have t2:=hT.cell 2 (by omega)
 have t3:=hT.cell 3 (by omega)
 have t4:=hT.cell 4 (by omega)
 have t5:=hT.cell 5 (by omega)
 have f0:=(hT 0 (by omega)).2
 have f1:=(hT 1 (by omega)).2
 have f2:=(hT 2 (by omega)).2
 have f3:=(hT 3 (by omega)).2
 have f4:=(hT 4 (by omega)).2
 have f5:=(hT 5 (by omega)).2
 go_simp
 generalize hwC:(World.setCell _ _ _:World)=wC
 have hSC:Bw W wC:=by subst hwC;exact (((((hSA.setCell (Nat.le_refl _) _).setCell (Nat.le_refl _) _).setCell (Nat.le_refl _) _).setCell (Nat.le_refl _) _).setCell (Nat.le_refl _) _).setCell (Nat.le_refl _) _
 clear hwC
 refine hK.out _ _ hSC (fun hHeld=>?_)
 clear hK K hT
 try simp only [Act.put,Qx,Qy,Qz]
 refine zO 11 fun K hK=>?_
 rw [if_pos (by rfl)]
 go_simp
 refine hK.out _ _ hSC (fun hHeld=>?_)
 clear hK K
 try simp only [Act.put,Qx,Qy,Qz]
 refine wpAnyH_done (by kernel_rfl) ?_ _
 refine NoPanic.normal ?_
 have HC3:Hid (Bw w wC):=zA HB.out hSC
 clear c2 r0 r1 r2 l5 hSA hSd hSC
 go_wp2
 go_ret
 exact ⟨rfl,HC3.out⟩
theorem zJq {w:World}{P:Program}{k:TypeId}{mb n o p:Nat}{D:DataW Value}{v:Value}(hm:w.ownsMap P k RV mb n D)(hp:w.cell? ⟨p,o,none⟩=some v):p≠mb:=by
 intro e
 subst e
 obtain ⟨es,c,hb,_⟩:=hm
 simp [World.cell?,hb] at hp
def zEf (W:World)(p q:Nat)(s t:Int)(mb:Nat)(k:Kp):Prop :=
 (W.cell? ⟨p,0,none⟩=some (.int .i64 s)∧W.cell? ⟨p,1,none⟩=some (.int .i64 t)∧W.cell? ⟨p,2,none⟩=some (.map (some mb))) ∧
 W.cell? ⟨q,0,none⟩=some (.int .i64 k.z)∧W.cell? ⟨q,1,none⟩=some (.int .i64 k.x)∧W.cell? ⟨q,2,none⟩=some (.int .i64 k.y)∧W.cell? ⟨q,3,none⟩=some (.slice k.fa k.fn k.fc)∧W.cell? ⟨q,4,none⟩=some (.slice k.ia k.m k.ic)
theorem zEf.grown {w w':World}{p q mb:Nat}{s t:Int}{k:Kp}(h:zEf w p q s t mb k)(hg:w.grownBy w' (some mb))(hp:p≠mb)(hq:q≠mb):zEf w' p q s t mb k:=by
 obtain ⟨⟨a,b,c⟩,d,e,f,g,i⟩:=h
 exact ⟨⟨yG hg a hp,yG hg b hp,yG hg c hp⟩,yG hg d hq,yG hg e hq,yG hg f hq,yG hg g hq,yG hg i hq⟩
abbrev zOm (D:DataW Value)(k:Kp)(t:Int):DataW Value:=D.put (zBj k.z k.x k.y) (.held (agV k.z k.x k.y k.fa k.fn k.fc k.ia k.m k.ic t))
theorem zCs {w:World}{p n:Nat}{o:Obj}(h:zC w p n)(hp:p<w.heap.size):zC (w.alloc o) p n:=fun i hi=>by
 obtain ⟨⟨v,h1⟩,h2⟩:=h i hi
 refine ⟨⟨v,?_⟩,?_⟩
 ·rw [World.cell?_alloc_old _ _ _ (Nat.ne_of_lt hp)];exact h1
 ·rw [World.frozen?_alloc_old _ _ _ (Nat.ne_of_lt hp)];exact h2
theorem zFf (p mb n:Nat)(s t:Int)(D:DataW Value)(k:Kp)(w:World)(hp:ShA w p s t mb)(hT:zC w p 3)(hm:w.ownsMap Tryz.prog 111 RV mb n D)(hz:I64 k.z)(hx:I64 k.x)(hy:I64 k.y)(hn:n<1000)(ht0:-10≤t)(ht:t<1000)(hD:(Maps.size (zOm D k (t+1)):Int)≤s) :
  Calls Tryz.prog 124 #[.pointer (some ⟨p,0,none⟩),kpV k] w fun e w'=>e=.returned (.tuple #[])∧ShA w' p s (t+1) mb∧zC w' p 3∧w'.ownsMap Tryz.prog 111 RV mb (n+1) (zOm D k (t+1))∧(∀ B,B≤p→B≤mb→Below B w w')∧∀ q,q<w.heap.size→q≠p→q≠mb→w'.heap[q]?=w.heap[q]?:=by
 have hpl:p<w.heap.size:=World.block_lt_of_cell? _ _ hp.1
 have hml:mb<w.heap.size:=hm.lt
 have hpm:p≠mb:=zJq hm hp.1
 have HM:Hid (w.ownsMap Tryz.prog 111 RV mb n D):=hm
 have HT:Hid (zC w p 3):=hT
 have HP:Hid (ShA w p s t mb):=hp
 have HD:Hid ((Maps.size (zOm D k (t+1)):Int)≤s):=hD
 have HK:Hid (keyOf Tryz.prog 111 (xD k.z k.x k.y)=some (zBj k.z k.x k.y)):=zDa hz hx hy
 have c1:∀ o,(w.alloc o).cell? ⟨p,1,none⟩=some (.int .i64 t):=fun o=>by rw [World.cell?_alloc_old _ _ _ (Nat.ne_of_lt hpl)];exact hp.2.1
 have f1:∀ o,(w.alloc o).frozen? ⟨p,1,none⟩=false:=fun o=>by rw [World.frozen?_alloc_old _ _ _ (Nat.ne_of_lt hpl)];exact (hT 1 (by omega)).2
 have hw1:IntKind.i64.wrap (t+1)=t+1:=IntWalk.i64_in _ (by omega)
 clear hm hT hp hD hz hx hy
 go_enter Tryz.func124,Tryz.ntmps124
 go_wp2_with fail
 generalize hW:(World.alloc _ _:World)=W
 have HG:Hid (w.grownBy W (some p)):=by show World.grownBy _ _ _;subst hW;exact zDk (vE (zAf w (some p)) 1 _) (World.grownBy_alloc _ _ (some p))
 have HS:Hid (zEf W p w.heap.size s (t+1) mb k):=by
  show zEf _ _ _ _ _ _ _
  subst hW
  have nep:∀ o,o≠1→(⟨p,1,none⟩:Addr)≠⟨p,o,none⟩:=fun o h e=>by injection e with _ e;exact h e.symm
  have hlt:∀ v,p<(w.setCell ⟨p,1,none⟩ v).heap.size:=fun v=>by simp;exact hpl
  refine ⟨⟨?_,?_,?_⟩,?_,?_,?_,?_,?_⟩
  ·rw [World.cell?_alloc_old _ _ _ (Nat.ne_of_lt (hlt _)),zB (nep 0 (by omega))];exact HP.out.1
  ·rw [World.cell?_alloc_old _ _ _ (Nat.ne_of_lt (hlt _))];exact zG HP.out.2.1
  ·rw [World.cell?_alloc_old _ _ _ (Nat.ne_of_lt (hlt _)),zB (nep 2 (by omega))];exact HP.out.2.2
  ·simp [go_sem]
  ·simp [go_sem]
  ·simp [go_sem]
  ·simp [go_sem]
  ·simp [go_sem]
 have HTW:Hid (zC W p 3):=by show zC _ _ _;subst hW;exact zCs (HT.out.set _ _) (by simp;exact hpl)
 have hql:w.heap.size<W.heap.size:=by subst hW;simp [go_sem]
 have hqm:w.heap.size≠mb:=by omega
 clear hW c1 f1 hw1
 have HMW:Hid (W.ownsMap Tryz.prog 111 RV mb n D):=HM.out.kept HG.out (by simp;omega)
 obtain ⟨w1,hrun,hm1,hg1⟩:=HMW.out.drew.update zBa Tryz.underlying171 (show n<maxLen by simp only [maxLen];omega) HK.out (RV_mk k.z k.x k.y k.fa k.fn k.fc k.ia k.m k.ic (t+1))
 have HM1:Hid (w1.ownsMap Tryz.prog 111 RV mb (n+1) (zOm D k (t+1))):=hm1
 have HG1:Hid (W.grownBy w1 (some mb)):=⟨hg1.os,hg1.tape,hg1.output,hg1.size,hg1.block⟩
 clear hm1 hg1
 refine wp_region_noPanic ?_
 refine wp_region_held_drew (S:=fun W'=>zEf W' p w.heap.size s (t+1) mb k) (by kernel_rfl) HS.out (fun hHeld=>?_)
 have hSd:zEf W.drew p w.heap.size s (t+1) mb k:=HS.out
 refine yX (i:=0) (d:=some 11) (v:=?vr0) rfl rfl (Or.inl ⟨by rfl,?hyr0⟩) hSd ?_
 case hyr0=>(intro w hSw;obtain ⟨⟨s0,s1,s2⟩,k0,k1,k2,k3,k4⟩:=(show zEf w p _ s (t+1) mb k from hSw);go_simp <;> with_reducible rfl)
 try simp only [Act.put,Qx,Qy,Qz]
 refine yX (i:=1) (d:=some 12) (v:=?vr1) rfl rfl (Or.inl ⟨by rfl,?hyr1⟩) hSd ?_
 case hyr1=>(intro w hSw;obtain ⟨⟨s0,s1,s2⟩,k0,k1,k2,k3,k4⟩:=(show zEf w p _ s (t+1) mb k from hSw);go_simp <;> with_reducible rfl)
 try simp only [Act.put,Qx,Qy,Qz]
 refine yX (i:=2) (d:=some 13) (v:=?vr2) rfl rfl (Or.inl ⟨by rfl,?hyr2⟩) hSd ?_
 case hyr2=>(intro w hSw;obtain ⟨⟨s0,s1,s2⟩,k0,k1,k2,k3,k4⟩:=(show zEf w p _ s (t+1) mb k from hSw);go_simp <;> with_reducible rfl)
 try simp only [Act.put,Qx,Qy,Qz]
 refine yX (i:=3) (d:=some 14) (v:=?vr3) rfl rfl (Or.inl ⟨by rfl,?hyr3⟩) hSd ?_
 case hyr3=>(intro w hSw;obtain ⟨⟨s0,s1,s2⟩,k0,k1,k2,k3,k4⟩:=(show zEf w p _ s (t+1) mb k from hSw);go_simp <;> with_reducible rfl)
 try simp only [Act.put,Qx,Qy,Qz]
 refine yX (i:=4) (d:=some 15) (v:=?vr4) rfl rfl (Or.inl ⟨by rfl,?hyr4⟩) hSd ?_
 case hyr4=>(intro w hSw;obtain ⟨⟨s0,s1,s2⟩,k0,k1,k2,k3,k4⟩:=(show zEf w p _ s (t+1) mb k from hSw);go_simp <;> with_reducible rfl)
 try simp only [Act.put,Qx,Qy,Qz]
 refine yX (i:=5) (d:=some 16) (v:=?vr5) rfl rfl (Or.inl ⟨by rfl,?hyr5⟩) hSd ?_
 case hyr5=>(intro w hSw;obtain ⟨⟨s0,s1,s2⟩,k0,k1,k2,k3,k4⟩:=(show zEf w p _ s (t+1) mb k from hSw);go_simp <;> with_reducible rfl)
 try simp only [Act.put,Qx,Qy,Qz]
 refine yX (i:=6) (d:=some 17) (v:=?vr6) rfl rfl (Or.inl ⟨by rfl,?hyr6⟩) hSd ?_
 case hyr6=>(intro w hSw;obtain ⟨⟨s0,s1,s2⟩,k0,k1,k2,k3,k4⟩:=(show zEf w p _ s (t+1) mb k from hSw);go_simp <;> with_reducible rfl)
 try simp only [Act.put,Qx,Qy,Qz]
 refine yX (i:=7) (d:=some 18) (v:=?vr7) rfl rfl (Or.inl ⟨by rfl,?hyr7⟩) hSd ?_
 case hyr7=>(intro w hSw;obtain ⟨⟨s0,s1,s2⟩,k0,k1,k2,k3,k4⟩:=(show zEf w p _ s (t+1) mb k from hSw);go_simp <;> with_reducible rfl)
 try simp only [Act.put,Qx,Qy,Qz]
 refine yX (i:=8) (d:=some 19) (v:=?vr8) rfl rfl (Or.inl ⟨by rfl,?hyr8⟩) hSd ?_
 case hyr8=>(intro w hSw;obtain ⟨⟨s0,s1,s2⟩,k0,k1,k2,k3,k4⟩:=(show zEf w p _ s (t+1) mb k from hSw);go_simp <;> with_reducible rfl)
 try simp only [Act.put,Qx,Qy,Qz]
 refine yX (i:=9) (d:=some 20) (v:=?vr9) rfl rfl (Or.inl ⟨by rfl,?hyr9⟩) hSd ?_
 case hyr9=>(intro w hSw;obtain ⟨⟨s0,s1,s2⟩,k0,k1,k2,k3,k4⟩:=(show zEf w p _ s (t+1) mb k from hSw);go_simp <;> with_reducible rfl)
 try simp only [Act.put,Qx,Qy,Qz]
 refine yX (i:=10) (d:=some 21) (v:=?vr10) rfl rfl (Or.inl ⟨by rfl,?hyr10⟩) hSd ?_
 case hyr10=>(intro w hSw;obtain ⟨⟨s0,s1,s2⟩,k0,k1,k2,k3,k4⟩:=(show zEf w p _ s (t+1) mb k from hSw);go_simp <;> with_reducible rfl)
 try simp only [Act.put,Qx,Qy,Qz]
 refine yX (i:=11) (d:=some 22) (v:=?vr11) rfl rfl (Or.inl ⟨by rfl,?hyr11⟩) hSd ?_
 case hyr11=>(intro w hSw;obtain ⟨⟨s0,s1,s2⟩,k0,k1,k2,k3,k4⟩:=(show zEf w p _ s (t+1) mb k from hSw);go_simp <;> with_reducible rfl)
 try simp only [Act.put,Qx,Qy,Qz]
 refine yX (i:=12) (d:=some 23) (v:=?vr12) rfl rfl (Or.inl ⟨by rfl,?hyr12⟩) hSd ?_
 case hyr12=>(intro w hSw;obtain ⟨⟨s0,s1,s2⟩,k0,k1,k2,k3,k4⟩:=(show zEf w p _ s (t+1) mb k from hSw);go_simp <;> with_reducible rfl)
 try simp only [Act.put,Qx,Qy,Qz]
 refine zO 13 fun K hK=>?_
 rw [if_pos (by rfl)]
 go_simp
 have HS1:zEf w1 p w.heap.size s (t+1) mb k:=HS.out.grown HG1.out hpm hqm
 refine hK.out _ _ HS1 (fun hHeld=>?_)
 clear hK K hrun hSd
 try simp only [Act.put,Qx,Qy,Qz]
 refine wpAnyH_done (by kernel_rfl) ?_ _
 refine NoPanic.normal ?_
 have HT1:Hid (zC w1 p 3):=HTW.out.grown HG1.out hpm
 have HB1:Hid (∀ B,B≤p→B≤mb→Below B w w1):=fun B h1 h2=>(zDu HG.out h1 (by omega)).trans (zDu HG1.out h2 (by omega))
 have HQ1:Hid (∀ q,q<w.heap.size→q≠p→q≠mb→w1.heap[q]?=w.heap[q]?):=fun q h1 h2 h3=>(HG1.out.block q (Nat.lt_of_lt_of_le h1 HG.out.size) (by simp;exact h3)).trans (HG.out.block q h1 (by simp;exact h2))
 have HA1:Hid (ShA w1 p s (t+1) mb):=HS1.1
 clear HS1 HS HTW HMW HG HG1 HP HT HM HK
 generalize hD1:zOm D k (t+1)=D1 at *
 have hle:¬ (s<(Maps.size D1:Int)):=by have:=HD.out;omega
 have HM2:Hid (w1.ownsMap Tryz.prog 111 RV mb (n+1) D1):=HM1.out
 go_wp2_with fail
 refine wp_region_noPanic ?_
 refine wp_region_held_drew (S:=fun W'=>ShA W' p s (t+1) mb∧W'.ownsMap Tryz.prog 111 RV mb (n+1) D1) (by kernel_rfl) ⟨HA1.out,HM1.out⟩ (fun hHeld=>?_)
 have hSd:ShA w1.drew p s (t+1) mb∧w1.drew.ownsMap Tryz.prog 111 RV mb (n+1) D1:=⟨HA1.out,HM1.out⟩
 refine yX (i:=0) (d:=some 24) (v:=?vq0) rfl rfl (Or.inl ⟨by rfl,?hyq0⟩) hSd ?_
 case hyq0=>(intro w hSw;obtain ⟨⟨s0,s1,s2⟩,hmm⟩:=(show ShA w p s (t+1) mb∧w.ownsMap Tryz.prog 111 RV mb (n+1) D1 from hSw);have hln:=fun ty=>hmm.len Tryz.underlying171 ty;go_simp <;> with_reducible rfl)
 try simp only [Act.put,Qx,Qy,Qz]
 refine yX (i:=1) (d:=some 25) (v:=?vq1) rfl rfl (Or.inl ⟨by rfl,?hyq1⟩) hSd ?_
 case hyq1=>(intro w hSw;obtain ⟨⟨s0,s1,s2⟩,hmm⟩:=(show ShA w p s (t+1) mb∧w.ownsMap Tryz.prog 111 RV mb (n+1) D1 from hSw);have hln:=fun ty=>hmm.len Tryz.underlying171 ty;go_simp <;> with_reducible rfl)
 try simp only [Act.put,Qx,Qy,Qz]
 refine yX (i:=2) (d:=some 26) (v:=?vq2) rfl rfl (Or.inl ⟨by rfl,?hyq2⟩) hSd ?_
 case hyq2=>(intro w hSw;obtain ⟨⟨s0,s1,s2⟩,hmm⟩:=(show ShA w p s (t+1) mb∧w.ownsMap Tryz.prog 111 RV mb (n+1) D1 from hSw);have hln:=fun ty=>hmm.len Tryz.underlying171 ty;go_simp <;> with_reducible rfl)
 try simp only [Act.put,Qx,Qy,Qz]
 refine yX (i:=3) (d:=some 27) (v:=?vq3) rfl rfl (Or.inl ⟨by rfl,?hyq3⟩) hSd ?_
 case hyq3=>(intro w hSw;obtain ⟨⟨s0,s1,s2⟩,hmm⟩:=(show ShA w p s (t+1) mb∧w.ownsMap Tryz.prog 111 RV mb (n+1) D1 from hSw);have hln:=fun ty=>hmm.len Tryz.underlying171 ty;go_simp <;> with_reducible rfl)
 try simp only [Act.put,Qx,Qy,Qz]
 refine yX (i:=4) (d:=some 28) (v:=?vq4) rfl rfl (Or.inl ⟨by rfl,?hyq4⟩) hSd ?_
 case hyq4=>(intro w hSw;obtain ⟨⟨s0,s1,s2⟩,hmm⟩:=(show ShA w p s (t+1) mb∧w.ownsMap Tryz.prog 111 RV mb (n+1) D1 from hSw);have hln:=fun ty=>hmm.len Tryz.underlying171 ty;go_simp <;> with_reducible rfl)
 try simp only [Act.put,Qx,Qy,Qz]
 refine yX (i:=5) (d:=some 29) (v:=?vq5) rfl rfl (Or.inl ⟨by rfl,?hyq5⟩) hSd ?_
 case hyq5=>(intro w hSw;obtain ⟨⟨s0,s1,s2⟩,hmm⟩:=(show ShA w p s (t+1) mb∧w.ownsMap Tryz.prog 111 RV mb (n+1) D1 from hSw);have hln:=fun ty=>hmm.len Tryz.underlying171 ty;go_simp <;> with_reducible rfl)
 try simp only [Act.put,Qx,Qy,Qz]
 refine yX (i:=6) (d:=some 30) (v:=?vq6) rfl rfl (Or.inl ⟨by rfl,?hyq6⟩) hSd ?_
 case hyq6=>(intro w hSw;obtain ⟨⟨s0,s1,s2⟩,hmm⟩:=(show ShA w p s (t+1) mb∧w.ownsMap Tryz.prog 111 RV mb (n+1) D1 from hSw);have hln:=fun ty=>hmm.len Tryz.underlying171 ty;go_simp <;> with_reducible rfl)
 try simp only [Act.put,Qx,Qy,Qz]
 refine yX (i:=7) (d:=some 31) (v:=?vq7) rfl rfl (Or.inl ⟨by rfl,?hyq7⟩) hSd ?_
 case hyq7=>(intro w hSw;obtain ⟨⟨s0,s1,s2⟩,hmm⟩:=(show ShA w p s (t+1) mb∧w.ownsMap Tryz.prog 111 RV mb (n+1) D1 from hSw);have hln:=fun ty=>hmm.len Tryz.underlying171 ty;go_simp <;> with_reducible rfl)
 try simp only [Act.put,Qx,Qy,Qz]
 refine yX (i:=8) (d:=some 32) (v:=?vq8) rfl rfl (Or.inl ⟨by rfl,?hyq8⟩) hSd ?_
 case hyq8=>(intro w hSw;obtain ⟨⟨s0,s1,s2⟩,hmm⟩:=(show ShA w p s (t+1) mb∧w.ownsMap Tryz.prog 111 RV mb (n+1) D1 from hSw);have hln:=fun ty=>hmm.len Tryz.underlying171 ty;go_simp <;> with_reducible rfl)
 try simp only [Act.put,Qx,Qy,Qz]
 refine yX (i:=9) (d:=some 33) (v:=?vq9) rfl rfl (Or.inl ⟨by rfl,?hyq9⟩) hSd ?_
 case hyq9=>(intro w hSw;obtain ⟨⟨s0,s1,s2⟩,hmm⟩:=(show ShA w p s (t+1) mb∧w.ownsMap Tryz.prog 111 RV mb (n+1) D1 from hSw);have hln:=fun ty=>hmm.len Tryz.underlying171 ty;go_simp <;> with_reducible rfl)
 try simp only [Act.put,Qx,Qy,Qz]
 refine wpAnyH_done (by kernel_rfl) ?_ _
 refine NoPanic.normal ?_
 clear hSd
 go_wp2
 refine bodyPost_end (v:=.tuple #[]) (by simp [results,Tryz.results124,go_sem]) rfl ?_
 exact ⟨rfl,HA1.out,HT1.out,by rw [hD1];exact HM2.out.drew,fun B h1 h2=>⟨(HB1.out B h1 h2).os,(HB1.out B h1 h2).tape,(HB1.out B h1 h2).output,(HB1.out B h1 h2).size,(HB1.out B h1 h2).block⟩,fun q h1 h2 h3=>HQ1.out q h1 h2 h3⟩
theorem zIn (p mb n:Nat)(s t:Int)(D:DataW Value)(k:Kp)(w:World)(hp:ShA w p s t mb)(hT:zC w p 3)(hm:w.ownsMap Tryz.prog 111 RV mb n D)(hz:I64 k.z)(hx:I64 k.x)(hy:I64 k.y)(hn:n<1000)(ht0:-10≤t)(ht:t<1000)(hD:(Maps.size (zOm D k (t+1)):Int)≤s) :
  Calls Tryz.prog 124 #[.pointer (some ⟨p,0,none⟩),kpV k] w fun e w'=>e=.returned (.tuple #[])∧ShA w' p s (t+1) mb∧zC w' p 3∧w'.ownsMap Tryz.prog 111 RV mb (n+1) (zOm D k (t+1))∧∀ B,B≤p→B≤mb→Below B w w' :=
 (zFf p mb n s t D k w hp hT hm hz hx hy hn ht0 ht hD).mono fun e w' ⟨h1,h2,h3,h4,h5,_⟩=>⟨h1,h2,h3,h4,h5⟩
def inV (now bad:Int):Bool:=inB now 0 9000 && inB bad 0 9999
def zAp (z x y wd ht:Int)(n:Nat)(K:Nat→Kp)(E:Nat→Req)(i:Nat):Int:=if zCw z x y wd ht (E i).z (E i).x (E i).y=true then (if 0≤atK n K (E i).z (E i).x (E i).y then 8 else 0) else 8
noncomputable def viewC (z x y wd ht now s:Int)(n:Nat)(K:Nat→Kp)(rn:Nat)(E:Nat→Req)(bad:Int):Int :=
 if uD z x y wd ht=0 then (if inV now bad=true then (if cacheC s n K=0 then (if s<4 then 3 else (if zU rn E=0 then yH (zAp z x y wd ht n K E) 0 rn else zU rn E)) else cacheC s n K) else 3) else uD z x y wd ht
theorem Blk.cam {w:World}{q:Nat}{z x y wd ht:Int}{l:List Value}(h:Blk w q (.int .i64 z :: .int .i64 x :: .int .i64 y :: .int .i64 wd :: .int .i64 ht :: l)):zMd w q z x y wd ht:=⟨h.cell 0 rfl,h.cell 1 rfl,h.cell 2 rfl,h.cell 3 rfl,h.cell 4 rfl⟩
theorem zNm {z x y wd ht:Int}(b:Nat)(rz rx ry:Int)(w:World)(h:zMd w b z x y wd ht)(hr:zBh z x y wd ht=true):Calls Tryz.prog 91 #[.pointer (some ⟨b,0,none⟩),xD rz rx ry] w fun e w'=>e=.returned (.bool (zCw z x y wd ht rz rx ry))∧Bw w w' :=
 zLl b _ _ rz rx ry w (by have:=zMk z x y wd ht;omega) (fun W hW=>zLm b W (by
  have hB:=World.block_lt_of_cell? _ _ h.1
  exact ⟨(hW.cell (p:=⟨b,0,none⟩) hB).trans h.1,(hW.cell (p:=⟨b,1,none⟩) hB).trans h.2.1,(hW.cell (p:=⟨b,2,none⟩) hB).trans h.2.2.1,(hW.cell (p:=⟨b,3,none⟩) hB).trans h.2.2.2.1,(hW.cell (p:=⟨b,4,none⟩) hB).trans h.2.2.2.2⟩) hr)
theorem zHa (q:Nat)(z x y wd ht now s:Int)(b n cap:Nat)(A:Nat→Kp)(ra:Option Addr)(rn rc:Nat)(E:Nat→Req)(bad:Int)(w:World)(hV:Blk w q [.int .i64 z,.int .i64 x,.int .i64 y,.int .i64 wd,.int .i64 ht,.int .i64 now,.int .i64 s,.slice (some ⟨b,0,none⟩) n cap,.slice ra rn rc,.int .i64 bad])(ha:zB7 w b n A)(hs:zL n A)(hr:uQ w ra rn E)(hrn:rn≤1048576) :
  Calls Tryz.prog 43 #[.pointer (some ⟨q,0,none⟩)] w fun e w'=>e=.returned (.int .i64 (viewC z x y wd ht now s n A rn E bad))∧Bw w w':=by
 have HV:Hid (Blk w q [.int .i64 z,.int .i64 x,.int .i64 y,.int .i64 wd,.int .i64 ht,.int .i64 now,.int .i64 s,.slice (some ⟨b,0,none⟩) n cap,.slice ra rn rc,.int .i64 bad]):=hV
 have HA:Hid (zB7 w b n A):=ha
 have HS:Hid (zL n A):=hs
 have HR:Hid (uQ w ra rn E):=hr
 have hn:n≤1048576:=hs.1
 have hql:q<w.heap.size:=hV.lt
 have HF9:Hid (Calls Tryz.prog 30 #[.pointer (some ⟨q,0,none⟩)] w fun e w'=>e=.returned (.int .i64 (uD z x y wd ht))∧Bw w w'):=zI1 q z x y wd ht w hV.cam
 have HVC:Hid (viewC z x y wd ht now s n A rn E bad=if uD z x y wd ht=0 then (if inV now bad=true then (if cacheC s n A=0 then (if s<4 then 3 else (if zU rn E=0 then yH (zAp z x y wd ht n A E) 0 rn else zU rn E)) else cacheC s n A) else 3) else uD z x y wd ht):=rfl
 clear hV ha hs hr
 generalize viewC z x y wd ht now s n A rn E bad=VC at *
 rcases zL8 z x y wd ht with ⟨hc,hcb⟩ | ⟨hc,hcb⟩
 case inr =>
  have HE:Hid (VC=3):=by show _=_;rw [HVC.out,hc];rfl
  rw [hc] at HF9
  clear HVC
  go_enter Tryz.func43,Tryz.ntmps43
  go_wp2_with fail
  refine Calls.mono HF9.out ?_
  rintro e w1 ⟨rfl,hb1⟩
  go_wp2
  go_ret
  exact ⟨zD HE.out.symm,hb1⟩
 have HCB:Hid (zBh z x y wd ht=true):=hcb
 have HVC1:Hid (VC=if inV now bad=true then (if cacheC s n A=0 then (if s<4 then 3 else (if zU rn E=0 then yH (zAp z x y wd ht n A E) 0 rn else zU rn E)) else cacheC s n A) else 3):=by show _=_;rw [HVC.out,if_pos hc]
 rw [hc] at HF9
 clear hc hcb HVC
 have HI1:Hid (∀ W,Calls Tryz.prog 32 #[.int .i64 now,.int .i64 0,.int .i64 9000] W fun e w'=>e=.returned (.bool (inB now 0 9000))∧w'=W):=fun W=>zS _ _ _ W
 have HI2:Hid (∀ W,Calls Tryz.prog 32 #[.int .i64 bad,.int .i64 0,.int .i64 9999] W fun e w'=>e=.returned (.bool (inB bad 0 9999))∧w'=W):=fun W=>zS _ _ _ W
 cases h1:inB now 0 9000
 case false =>
  have HE:Hid (VC=3):=by show _=_;rw [HVC1.out];simp [inV,h1]
  rw [h1] at HI1
  clear HVC1 h1
  go_enter Tryz.func43,Tryz.ntmps43
  go_wp2_with fail
  refine Calls.mono HF9.out ?_
  rintro e w1 ⟨rfl,hb1⟩
  have HB1:Hid (Bw w w1):=hb1
  have c5:=(HV.out.below hql hb1).cell 5 rfl
  clear hb1
  go_wp2_with fail
  refine Calls.mono (HI1.out _) ?_
  rintro e w2 ⟨rfl,h2⟩
  subst w2
  go_wp2
  go_ret
  exact ⟨zD HE.out.symm,HB1.out⟩
 cases h2:inB bad 0 9999
 case false =>
  have HE:Hid (VC=3):=by show _=_;rw [HVC1.out];simp [inV,h2]
  rw [h1] at HI1
  rw [h2] at HI2
  clear HVC1 h1 h2
  go_enter Tryz.func43,Tryz.ntmps43
  go_wp2_with fail
  refine Calls.mono HF9.out ?_
  rintro e w1 ⟨rfl,hb1⟩
  have HB1:Hid (Bw w w1):=hb1
  have c5:=(HV.out.below hql hb1).cell 5 rfl
  have c9:=(HV.out.below hql hb1).cell 9 rfl
  clear hb1
  go_wp2_with fail
  refine Calls.mono (HI1.out _) ?_
  rintro e w2 ⟨rfl,h2⟩
  subst w2
  go_wp2_with fail
  refine Calls.mono (HI2.out _) ?_
  rintro e w2 ⟨rfl,h2⟩
  subst w2
  go_wp2
  go_ret
  exact ⟨zD HE.out.symm,HB1.out⟩
 have HVC2:Hid (VC=if cacheC s n A=0 then (if s<4 then 3 else (if zU rn E=0 then yH (zAp z x y wd ht n A E) 0 rn else zU rn E)) else cacheC s n A):=by show _=_;rw [HVC1.out];simp [inV,h1,h2]
 rw [h1] at HI1
 rw [h2] at HI2
 clear HVC1 h1 h2
 have HF11:Hid (∀ W,Bw w W→Calls Tryz.prog 89 #[.pointer (some ⟨q,6,none⟩)] W fun e w'=>e=.returned (.int .i64 (cacheC s n A))∧Bw W w'):=fun W h=>zHc q 6 s b n cap A W ⟨(HV.out.below hql h).cell 6 rfl,(HV.out.below hql h).cell 7 rfl⟩ (HA.out.below h) HS.out
 have HF12:Hid (∀ W,Bw w W→Calls Tryz.prog 90 #[.slice ra rn rc] W fun e w'=>e=.returned (.int .i64 (zU rn E))∧Bw W w'):=fun W h=>zHb ra rn rc E W (HR.out.below h) hrn
 go_enter Tryz.func43,Tryz.ntmps43
 go_wp2_with fail
 refine Calls.mono HF9.out ?_
 rintro e w1 ⟨rfl,hb1⟩
 have HB1:Hid (Bw w w1):=hb1
 have c5:=(HV.out.below hql hb1).cell 5 rfl
 have c9:=(HV.out.below hql hb1).cell 9 rfl
 clear hb1
 go_wp2_with fail
 refine Calls.mono (HI1.out _) ?_
 rintro e w2 ⟨rfl,h2⟩
 subst w2
 go_wp2_with fail
 refine Calls.mono (HI2.out _) ?_
 rintro e w2 ⟨rfl,h2⟩
 subst w2
 go_wp2_with fail
 refine Calls.mono (HF11.out _ HB1.out) ?_
 rintro e w2 ⟨rfl,hb2⟩
 have HB2:Hid (Bw w w2):=zA HB1.out hb2
 have c6:=(HV.out.below hql HB2.out).cell 6 rfl
 have c8:=(HV.out.below hql HB2.out).cell 8 rfl
 clear hb2 c5 c9 HF9 HF11 HI1 HI2 HB1
 by_cases h0:cacheC s n A=0
 case neg =>
  have HE:Hid (VC=cacheC s n A):=by show _=_;rw [HVC2.out,if_neg h0]
  have hcb:(cacheC s n A == 0)=false:=by simpa using h0
  clear HVC2
  generalize cacheC s n A=rc' at *
  go_wp2
  go_ret
  exact ⟨zD HE.out.symm,HB2.out⟩
 rw [h0]
 have HVC3:Hid (VC=if s<4 then 3 else (if zU rn E=0 then yH (zAp z x y wd ht n A E) 0 rn else zU rn E)):=by show _=_;rw [HVC2.out,if_pos h0]
 clear HVC2 h0
 by_cases h4:s<4
 case pos =>
  have HE:Hid (VC=3):=by show _=_;rw [HVC3.out,if_pos h4]
  clear HVC3
  go_wp2
  go_ret
  exact ⟨zD HE.out.symm,HB2.out⟩
 have HVC4:Hid (VC=if zU rn E=0 then yH (zAp z x y wd ht n A E) 0 rn else zU rn E):=by show _=_;rw [HVC3.out,if_neg h4]
 clear HVC3
 go_wp2_with fail
 refine Calls.mono (HF12.out _ HB2.out) ?_
 rintro e w3 ⟨rfl,hb3⟩
 have HB3:Hid (Bw w w3):=zA HB2.out hb3
 clear hb3 c6 c8 HF12 HB2 h4
 by_cases hq:zU rn E=0
 case neg =>
  have HE:Hid (VC=zU rn E):=by show _=_;rw [HVC4.out,if_neg hq]
  have hcb:(zU rn E == 0)=false:=by simpa using hq
  clear HVC4
  generalize zU rn E=rc' at *
  go_wp2
  go_ret
  exact ⟨zD HE.out.symm,HB3.out⟩
 rw [hq]
 have HVC5:Hid (VC=yH (zAp z x y wd ht n A E) 0 rn):=by show _=_;rw [HVC4.out,if_pos hq]
 clear HVC4 hq
 go_wp2_with fail
 go_loopw [6] (fun v wr=>∃ k:Nat,k≤rn∧v=.int .i64 k∧(∀ j,j<k→zAp z x y wd ht n A E j=0)∧Bw w wr) (fun v _=>rn - (intOf v).toNat)
 case atStart=>exact ⟨0,by omega,rfl,by omega,HB3.out⟩
 case round =>
  obtain ⟨k,hk,rfl,hA,hB⟩:=hrel
  have HB:Hid (Bw w wr):=hB
  have HZ:Hid (∀ j,j<k→zAp z x y wd ht n A E j=0):=hA
  have c8:∀ W',Bw wr W'→W'.cell? ⟨q,8,none⟩=some (.slice ra rn rc):=fun W' h=>(HV.out.below hql (zA HB.out h)).cell 8 rfl
  have c8':=c8 wr (Below.refl _ _)
  clear hA hB HB3
  by_cases hlt:k<rn
  ·have HLT:Hid (k<rn):=hlt
   have first:Hid (zAp z x y wd ht n A E k=8→VC=8):=fun hc=>by
    rw [HVC5.out,zQ _ rn 0 k (fun j _ hj=>HZ.out j hj) (by omega) (by have:=HLT.out;omega) (by rw [hc];decide),hc]
   have HOK:Hid (zAp z x y wd ht n A E k=0→∀ j,j<k+1→zAp z x y wd ht n A E j=0):=fun h0 j hj=>by
    by_cases e:j=k
    ·rw [e];exact h0
    ·exact HZ.out j (by omega)
   rcases HR.out with hz | ⟨rb,ro,rfl,hrl,hW⟩
   ·omega
   have e0:∀ W',Bw wr W'→W'.cell? ⟨rb,ro+k * 5,none⟩=some (.int .i64 (E k).z):=fun W' h=>((hW.below (zA HB.out h) hrl) k hlt).1
   have e1:∀ W',Bw wr W'→W'.cell? ⟨rb,ro+k * 5+1,none⟩=some (.int .i64 (E k).x):=fun W' h=>((hW.below (zA HB.out h) hrl) k hlt).2.1
   have e2:∀ W',Bw wr W'→W'.cell? ⟨rb,ro+k * 5+2,none⟩=some (.int .i64 (E k).y):=fun W' h=>((hW.below (zA HB.out h) hrl) k hlt).2.2.1
   have HSe:Hid (∀ W',Bw wr W'→Calls Tryz.prog 91 #[.pointer (some ⟨q,0,none⟩),xD (E k).z (E k).x (E k).y] W' fun e w'=>e=.returned (.bool (zCw z x y wd ht (E k).z (E k).x (E k).y))∧Below W'.heap.size W' w'):=fun W' h=>zNm q _ _ _ W' (HV.out.below hql (zA HB.out h)).cam HCB.out
   have HAt:Hid (∀ W',Bw wr W'→Calls Tryz.prog 68 #[.pointer (some ⟨q,6,none⟩),xD (E k).z (E k).x (E k).y] W' fun e w'=>e=.returned (.int .i64 (atK n A (E k).z (E k).x (E k).y))∧Below W'.heap.size W' w'):=fun W' h=>zC9 q 6 s _ n cap A _ _ _ W' ⟨(HV.out.below hql (zA HB.out h)).cell 6 rfl,(HV.out.below hql (zA HB.out h)).cell 7 rfl⟩ (HA.out.below (zA HB.out h)).is hn
   have hi:(k:Int)<(rn:Int):=by omega
   have hi0:(0:Int)≤(k:Int):=by omega
   have hSt:zAp z x y wd ht n A E k=if zCw z x y wd ht (E k).z (E k).x (E k).y=true then (if 0≤atK n A (E k).z (E k).x (E k).y then 8 else 0) else 8:=rfl
   have HSt:=(show Hid _ from hSt)
   clear hSt hW
   generalize zAp z x y wd ht n A E k=ST at *
   generalize (E k).z=rz at *
   generalize (E k).x=rx at *
   generalize (E k).y=ry at *
   generalize atK n A rz rx ry=AT at *
   generalize zCw z x y wd ht rz rx ry=SN at *
   go_wp2_with fail
   refine wp_region_noPanic ?_
   refine wp_region_held_drew (S:=fun W'=>Bw wr W') (by kernel_rfl) (by have:=Below.refl wr.heap.size wr;exact Qb) (fun hHeld=>?_)
   have hX0:Bw wr wr.drew:=hHeld
   refine zE (i:=0) (d:=some 58) rfl rfl ?_
   try simp only [Act.put,Qx,Qy,Qz]
   refine zE (i:=1) (d:=some 59) rfl rfl ?_
   try simp only [Act.put,Qx,Qy,Qz]
   refine zE (i:=2) (d:=some 60) rfl rfl ?_
   try simp only [Act.put,Qx,Qy,Qz]
   refine zE (i:=3) (d:=some 61) rfl rfl ?_
   try simp only [Act.put,Qx,Qy,Qz]
   refine zE (i:=4) (d:=some 62) rfl rfl ?_
   try simp only [Act.put,Qx,Qy,Qz]
   refine zE (i:=5) (d:=some 63) rfl rfl ?_
   try simp only [Act.put,Qx,Qy,Qz]
   refine zE (i:=6) (d:=some 64) rfl rfl ?_
   try simp only [Act.put,Qx,Qy,Qz]
   refine zE (i:=7) (d:=some 65) rfl rfl ?_
   try simp only [Act.put,Qx,Qy,Qz]
   refine zE (i:=8) (d:=some 66) rfl rfl ?_
   try simp only [Act.put,Qx,Qy,Qz]
   refine zE (i:=9) (d:=some 67) rfl rfl ?_
   try simp only [Act.put,Qx,Qy,Qz]
   refine zE (i:=10) (d:=some 68) rfl rfl ?_
   try simp only [Act.put,Qx,Qy,Qz]
   generalize wr.drew=wk0 at *
   refine zO 11 fun K hK=>?_
   rw [if_pos (by rfl)]
   go_simp
   refine Calls.mono (HSe.out _ hX0) ?_
   rintro e wk1 ⟨rfl,hb1⟩
   have hX1:Bw wr wk1:=zA hX0 hb1
   go_wp2_with fail
   refine hK.out _ _ (by assumption) (fun hHeld=>?_)
   clear hK K
   try simp only [Act.put,Qx,Qy,Qz]
   cases SN
   ·have HE:Hid (VC=8):=first.out (by rw [HSt.out];rfl)
    refine zE (i:=12) (d:=some 70) rfl rfl ?_
    try simp only [Act.put,Qx,Qy,Qz]
    refine zE (i:=13) (d:=some 71) rfl rfl ?_
    try simp only [Act.put,Qx,Qy,Qz]
    refine yK (i:=14) (d:=some 72) rfl rfl (by rfl) (by assumption) ?_
    try simp only [Act.put,Qx,Qy,Qz]
    refine yK (i:=15) (d:=some 73) rfl rfl (by rfl) (by assumption) ?_
    try simp only [Act.put,Qx,Qy,Qz]
    refine yK (i:=16) (d:=some 74) rfl rfl (by rfl) (by assumption) ?_
    try simp only [Act.put,Qx,Qy,Qz]
    refine yK (i:=17) (d:=some 75) rfl rfl (by rfl) (by assumption) ?_
    try simp only [Act.put,Qx,Qy,Qz]
    refine yK (i:=18) (d:=some 76) rfl rfl (by rfl) (by assumption) ?_
    try simp only [Act.put,Qx,Qy,Qz]
    refine yK (i:=19) (d:=some 77) rfl rfl (by rfl) (by assumption) ?_
    try simp only [Act.put,Qx,Qy,Qz]
    refine yK (i:=20) (d:=some 78) rfl rfl (by rfl) (by assumption) ?_
    try simp only [Act.put,Qx,Qy,Qz]
    refine yK (i:=21) (d:=some 79) rfl rfl (by rfl) (by assumption) ?_
    try simp only [Act.put,Qx,Qy,Qz]
    refine yK (i:=22) (d:=some 80) rfl rfl (by rfl) (by assumption) ?_
    try simp only [Act.put,Qx,Qy,Qz]
    refine yK (i:=23) (d:=some 81) rfl rfl (by rfl) (by assumption) ?_
    try simp only [Act.put,Qx,Qy,Qz]
    refine yK (i:=24) (d:=some 82) rfl rfl (by rfl) (by assumption) ?_
    try simp only [Act.put,Qx,Qy,Qz]
    refine yK (i:=25) (d:=some 83) rfl rfl (by rfl) (by assumption) ?_
    try simp only [Act.put,Qx,Qy,Qz]
    refine yK (i:=26) (d:=some 84) rfl rfl (by rfl) (by assumption) ?_
    try simp only [Act.put,Qx,Qy,Qz]
    refine zE (i:=27) (d:=some 85) rfl rfl ?_
    try simp only [Act.put,Qx,Qy,Qz]
    refine wpAnyH_done (by kernel_rfl) ?_ _
    refine NoPanic.normal ?_
    have HB9:Hid (Bw w wk1):=zA HB.out hX1
    clear c8 e0 e1 e2 c8' hX0 hb1 hX1
    go_wp2
    go_ret
    exact ⟨zD HE.out.symm,HB9.out⟩
   ·have HSt2:Hid (ST=if 0≤AT then 8 else 0):=by show _=_;rw [HSt.out];rfl
    refine zE (i:=12) (d:=some 70) rfl rfl ?_
    try simp only [Act.put,Qx,Qy,Qz]
    refine zE (i:=13) (d:=some 71) rfl rfl ?_
    try simp only [Act.put,Qx,Qy,Qz]
    refine zE (i:=14) (d:=some 72) rfl rfl ?_
    try simp only [Act.put,Qx,Qy,Qz]
    refine zE (i:=15) (d:=some 73) rfl rfl ?_
    try simp only [Act.put,Qx,Qy,Qz]
    refine zE (i:=16) (d:=some 74) rfl rfl ?_
    try simp only [Act.put,Qx,Qy,Qz]
    refine zE (i:=17) (d:=some 75) rfl rfl ?_
    try simp only [Act.put,Qx,Qy,Qz]
    refine zE (i:=18) (d:=some 76) rfl rfl ?_
    try simp only [Act.put,Qx,Qy,Qz]
    refine zE (i:=19) (d:=some 77) rfl rfl ?_
    try simp only [Act.put,Qx,Qy,Qz]
    refine zE (i:=20) (d:=some 78) rfl rfl ?_
    try simp only [Act.put,Qx,Qy,Qz]
    refine zE (i:=21) (d:=some 79) rfl rfl ?_
    try simp only [Act.put,Qx,Qy,Qz]
    refine zE (i:=22) (d:=some 80) rfl rfl ?_
    try simp only [Act.put,Qx,Qy,Qz]
    refine zE (i:=23) (d:=some 81) rfl rfl ?_
    try simp only [Act.put,Qx,Qy,Qz]
    refine zE (i:=24) (d:=some 82) rfl rfl ?_
    try simp only [Act.put,Qx,Qy,Qz]
    refine zO 25 fun K hK=>?_
    rw [if_pos (by rfl)]
    go_simp
    refine Calls.mono (HAt.out _ hX1) ?_
    rintro e wk2 ⟨rfl,hb2⟩
    have hX2:Bw wr wk2:=zA hX1 hb2
    go_wp2_with fail
    refine hK.out _ _ (by assumption) (fun hHeld=>?_)
    clear hK K
    try simp only [Act.put,Qx,Qy,Qz]
    have HB9:Hid (Bw w wk2):=zA HB.out hX2
    by_cases hat:0≤AT
    ·have HE:Hid (VC=8):=first.out (by rw [HSt2.out,if_pos hat])
     refine zE (i:=26) (d:=some 84) rfl rfl ?_
     try simp only [Act.put,Qx,Qy,Qz]
     refine zE (i:=27) (d:=some 85) rfl rfl ?_
     try simp only [Act.put,Qx,Qy,Qz]
     refine wpAnyH_done (by kernel_rfl) ?_ _
     refine NoPanic.normal ?_
     clear c8 e0 e1 e2 c8' hX0 hb1 hX1 hb2 hX2
     go_wp2
     go_ret
     exact ⟨zD HE.out.symm,HB9.out⟩
    ·have HE:Hid (ST=0):=by show _=_;rw [HSt2.out,if_neg hat]
     refine zE (i:=26) (d:=some 84) rfl rfl ?_
     try simp only [Act.put,Qx,Qy,Qz]
     refine zE (i:=27) (d:=some 85) rfl rfl ?_
     try simp only [Act.put,Qx,Qy,Qz]
     refine wpAnyH_done (by kernel_rfl) ?_ _
     refine NoPanic.normal ?_
     clear c8 e0 e1 e2 c8' hX0 hb1 hX1 hb2 hX2
     go_wp2_with fail
     go_roundw
     case rel=>exact ⟨k+1,by have:=HLT.out;omega,by go_num,HOK.out HE.out,HB9.out⟩
     case measure=>have:=HLT.out;simp [intOf];omega
  ·have HE:Hid (VC=0):=by
    show _=_
    rw [HVC5.out]
    exact yJ _ _ _ (fun j _ hj=>HZ.out j (by omega))
   obtain rfl:rn=k:=by omega
   go_wp2
   go_ret
   exact ⟨zD HE.out.symm,HB.out⟩
end Go.Proofs.YtpaiholildedcaaGreat
