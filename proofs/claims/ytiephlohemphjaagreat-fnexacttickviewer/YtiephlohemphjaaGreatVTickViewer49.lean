/- Texts. -/
import Derived.Test.YtiephlohemphjaaGreatVTickViewer47
set_option linter.unusedSimpArgs false
set_option linter.unusedVariables false
set_option maxRecDepth 100000
set_option maxHeartbeats 32000000
namespace Go.Proofs.YtiephlohemphjaaGreat
open Go.RowKit
noncomputable def tickC (VC now k : Int) : Int := if VC = 0 then (if inB k 0 100 = true ∧ now + k ≤ 9000 then 0 else 3) else VC
noncomputable def tickV (VC z x y wd ht now s : Int) (n : Nat) (K : Nat → Kp) (rn : Nat) (E : Nat → Req) (bad k : Int) : Va :=
 if tickC VC now k = 0 then ⟨0,false,(sentL (now + k) E rn).length,rfsOf (sentL (now + k) E rn),z,x,y,wd,ht,now + k,s,n,K,rn,fun j => retE (now + k) (E j),bad⟩ else vaZ (tickC VC now k)
theorem viewC_ok {z x y wd ht now s : Int} {n : Nat} {K : Nat → Kp} {rn : Nat} {E : Nat → Req} {bad : Int} (h : viewC z x y wd ht now s n K rn E bad = 0) : camB z x y wd ht = true ∧ cacheC s n K = 0 ∧ reqsC rn E = 0 ∧ (0 ≤ now ∧ now ≤ 9000) ∧ (0 ≤ bad ∧ bad ≤ 9999) ∧ 4 ≤ s := by
 obtain ⟨h1,h2⟩ := viewC_zero h
 have h3 : or2 (camC z x y wd ht) (cntC now bad) = 0 := by
  by_cases e : or2 (camC z x y wd ht) (cntC now bad) = 0
  ·exact e
  ·rw [viewC_first e] at h; exact absurd h e
 have h4 : or3 (cacheC s n K) (if s < 4 then 3 else 0) (reqsC rn E) = 0 := by
  by_cases e : or3 (cacheC s n K) (if s < 4 then 3 else 0) (reqsC rn E) = 0
  ·exact e
  ·rw [viewC_second h3 e] at h; exact absurd h e
 obtain ⟨_,h5⟩ := or2_zero h3
 obtain ⟨_,h6,h7⟩ := or3_zero h4
 refine ⟨h1,h2,h7,?_,?_,?_⟩
 ·unfold cntC at h5
  split at h5
  ·rename_i hb; simp [inV,inB] at hb; omega
  ·cases h5
 ·unfold cntC at h5
  split at h5
  ·rename_i hb; simp [inV,inB] at hb; omega
  ·cases h5
 ·by_cases e : s < 4
  ·rw [if_pos e] at h6; cases h6
  ·omega
theorem cacheC_ten {s : Int} {n : Nat} {A : Nat → Kp} (h0 : cacheC s n A = 0) : n ≤ 10 ∧ (n : Int) ≤ s ∧ 0 ≤ s ∧ s ≤ 10 := by
 unfold cacheC at h0
 split at h0
 ·rename_i hin
  split at h0
  ·cases h0
  ·rename_i hsn
   simp [inB] at hin
   omega
 ·cases h0
theorem agL_at {A : Nat → Kp} {n : Nat} : ∀ i a,(agL A n)[i]? = some a → ∃ t,a = agK (A i) t := fun i a h => by
 rw [agL_map,List.getElem?_map] at h
 by_cases hi : i < n
 ·simp [hi] at h
  exact ⟨_,h.symm⟩
 ·simp [hi] at h
theorem RowW.arm {base : Nat} {w : World} {v : Value} {l : List Req} (h : RowW base w v l) : ∃ a c,v = .slice a l.length c ∧ ((∃ ad,a = some ad) ∨ a = none ∧ c = 0) ∧ IsWs w a l.length (nw l) := by
 obtain ⟨a,c,hv,hc,hI⟩ := h.own.pts
 refine ⟨a,c,hv,?_,hI⟩
 obtain ⟨h1,h2 | ⟨g,cp,cur,hv',_⟩⟩ := h
 ·rw [hv] at h2
  injection h2.1 with e1 e2 e3
  exact .inr ⟨e1,e3⟩
 ·rw [hv] at hv'
  injection hv' with e1 e2 e3
  exact .inl ⟨_,e1⟩
theorem resTick {T : Array Value} {Wf : World} {r : Nat} {v : Va} {u : Vm} (hT : T[4]?.getD undef = .pointer (some ⟨r,0,none⟩)) (h : Blk Wf r (vaL v u)) :
  (results Tryz.f11 T).run Tryz.prog Wf = .ok (vaV v u) Wf := by
 have h0 := h.cell 0 rfl
 have h1 := h.cell 1 rfl
 have h2 := h.cell 2 rfl
 have h3 := h.cell 3 rfl
 have h4 := h.cell 4 rfl
 have h5 := h.cell 5 rfl
 have h6 := h.cell 6 rfl
 have h7 := h.cell 7 rfl
 have h8 := h.cell 8 rfl
 have h9 := h.cell 9 rfl
 have h10 := h.cell 10 rfl
 have h11 := h.cell 11 rfl
 have h12 := h.cell 12 rfl
 simp [results,Tryz.results11,go_sem,hT,h0,h1,h2,h3,h4,h5,h6,h7,h8,h9,h10,h11,h12]
theorem impl_TickViewer_any (z x y wd ht now s : Int) (b n cap : Nat) (A : Nat → Kp) (ra : Option Addr) (rn rc : Nat) (E : Nat → Req) (bad k : Int) (w : World) (ha : KoAt w b n A) (hs : SmallKs n A) (hcap : ∀ i,i < n → (A i).fn ≤ (A i).fc) (hnc : n ≤ cap) (hr : IsWs w ra rn E) (hrn : rn ≤ 1048576) (hrc : rn ≤ rc) :
  Calls Tryz.prog 11 #[vwV z x y wd ht now s (.slice (some ⟨b,0,none⟩) n cap) (.slice ra rn rc) bad, .int .i64 k] w fun e w' => ∃ u,e = .returned (vaV (tickV (viewC z x y wd ht now s n A rn E bad) z x y wd ht now s n A rn E bad k) u) ∧ OwVa w.heap.size w'.heap.size w' (tickV (viewC z x y wd ht now s n A rn E bad) z x y wd ht now s n A rn E bad k) u ∧ Below w.heap.size w w' := by
 obtain ⟨VC,hVC⟩ : ∃ VC,viewC z x y wd ht now s n A rn E bad = VC := ⟨_,rfl⟩
 have HF : Hid (∀ W,Below w.heap.size w W → Calls Tryz.prog 35 #[vwV z x y wd ht now s (.slice (some ⟨b,0,none⟩) n cap) (.slice ra rn rc) bad] W fun e w' => ∃ p,e = .returned (.tuple #[.pointer (some ⟨p,0,none⟩), .int .i64 VC]) ∧ Below W.heap.size W w' ∧ (VC = 0 → LkA w' W.heap.size p z x y wd ht now s n A ra rn rc bad)) := fun W h => lookerOf_any z x y wd ht now s b n cap A ra rn rc E bad VC W hVC (ha.below h) hs hcap hnc (hr.below h) hrn hrc
 have HOK : Hid (VC = 0 → (∀ j,j < n → kC A j = 0) ∧ n ≤ 10 ∧ reqsC rn E = 0 ∧ (0 ≤ now ∧ now ≤ 9000)) := fun h => by
  obtain ⟨_,h2,h3,h4,_⟩ := viewC_ok (hVC.trans h)
  exact ⟨cacheC_zero h2,(cacheC_ten h2).1,h3,h4⟩
 have HSr : Hid (VC = 0 → ∀ W,Below w.heap.size w W → ∀ i,i < n → SrcK W (A i)) := fun h W hW i hi => (SrcK_of ha hs hi (kC_zero (cacheC_zero (viewC_ok (hVC.trans h)).2.1 i hi)).1).below hW
 have HR : Hid (IsWs w ra rn E) := hr
 rw [hVC]
 obtain ⟨V,hV⟩ : ∃ V,tickV VC z x y wd ht now s n A rn E bad k = V := ⟨_,rfl⟩
 have HV : Hid (tickV VC z x y wd ht now s n A rn E bad k = V) := hV
 rw [hV]
 clear ha hs hcap hnc hr hVC hV
 go_enter Tryz.func11,Tryz.ntmps11
 go_wp2_with fail
 generalize hW : ((w.alloc _).alloc _ : World) = W
 have HB0 : Hid (Below w.heap.size w W) := by show Below _ _ _; subst hW; exact Qb
 have HRs : Hid (Blk W (w.heap.size + 1) [.int .i64 0, .bool false, .slice none 0 0, .int .i64 0, .int .i64 0, .int .i64 0, .int .i64 0, .int .i64 0, .int .i64 0, .int .i64 0, .slice none 0 0, .slice none 0 0, .int .i64 0]) := by
  show Blk _ _ _
  subst hW
  have := Blk.new (w.alloc (.cells #[.int .i64 z, .int .i64 x, .int .i64 y, .int .i64 wd, .int .i64 ht, .int .i64 now, .int .i64 s, .slice (some ⟨b,0,none⟩) n cap, .slice ra rn rc, .int .i64 bad] 38)) [.int .i64 0, .bool false, .slice none 0 0, .int .i64 0, .int .i64 0, .int .i64 0, .int .i64 0, .int .i64 0, .int .i64 0, .int .i64 0, .slice none 0 0, .slice none 0 0, .int .i64 0] 40
  simpa using this
 have hsz : w.heap.size + 1 < W.heap.size := by subst hW; simp
 clear hW
 refine Calls.mono (HF.out W HB0.out) ?_
 rintro e w1 ⟨p,rfl,hb1,hK1⟩
 have HK1 : Hid (VC = 0 → LkA w1 W.heap.size p z x y wd ht now s n A ra rn rc bad) := hK1
 have HB1 : Hid (Below w.heap.size w w1) := bl_then HB0.out hb1
 have HR1 : Hid (Blk w1 (w.heap.size + 1) [.int .i64 0, .bool false, .slice none 0 0, .int .i64 0, .int .i64 0, .int .i64 0, .int .i64 0, .int .i64 0, .int .i64 0, .int .i64 0, .slice none 0 0, .slice none 0 0, .int .i64 0]) := HRs.out.below hsz hb1
 have hs1 : W.heap.size ≤ w1.heap.size := hb1.size
 clear hb1 hK1 HF HRs HB0
 by_cases h0 : VC = 0
 case neg =>
  have HE : Hid (V = vaZ VC) := by show _ = _; rw [← HV.out]; have e1 : tickC VC now k = VC := (by unfold tickC; rw [if_neg h0]); unfold tickV; rw [e1,if_neg h0]
  have hcb : (VC == 0) = false := by simpa using h0
  have hR' := HR1.out
  have t0 := hR'.cell 0 rfl
  have t1 := hR'.cell 1 rfl
  have t2 := hR'.cell 2 rfl
  have t3 := hR'.cell 3 rfl
  have t4 := hR'.cell 4 rfl
  have t5 := hR'.cell 5 rfl
  have t6 := hR'.cell 6 rfl
  have t7 := hR'.cell 7 rfl
  have t8 := hR'.cell 8 rfl
  have t9 := hR'.cell 9 rfl
  have t10 := hR'.cell 10 rfl
  have t11 := hR'.cell 11 rfl
  have t12 := hR'.cell 12 rfl
  have f0 := hR'.free 0 rfl
  have f1 := hR'.free 1 rfl
  have f2 := hR'.free 2 rfl
  have f3 := hR'.free 3 rfl
  have f4 := hR'.free 4 rfl
  have f5 := hR'.free 5 rfl
  have f6 := hR'.free 6 rfl
  have f7 := hR'.free 7 rfl
  have f8 := hR'.free 8 rfl
  have f9 := hR'.free 9 rfl
  have f10 := hR'.free 10 rfl
  have f11 := hR'.free 11 rfl
  have f12 := hR'.free 12 rfl
  clear hR' HK1 HOK HSr h0 HV
  go_wp2_with fail
  generalize hwF : (World.setCell _ _ _ : World) = wF
  have HBk : Hid (Blk wF (w.heap.size + 1) (vaL (vaZ VC) vmZ)) := by show Blk _ _ _; subst hwF; exact (((((((((((((HR1.out.set 0 _).set 1 _).set 2 _).set 3 _).set 4 _).set 5 _).set 6 _).set 7 _).set 8 _).set 9 _).set 10 _).set 11 _).set 12 _)
  have HMM : Hid (MidB (w.heap.size + 1) (w.heap.size + 2) w1 wF) := by show MidB _ _ _ _; subst hwF; exact ((((((((((((((MidB.refl _ _ _).set (Nat.le_refl _) (Nat.lt_succ_self _) _ _).set (Nat.le_refl _) (Nat.lt_succ_self _) _ _).set (Nat.le_refl _) (Nat.lt_succ_self _) _ _).set (Nat.le_refl _) (Nat.lt_succ_self _) _ _).set (Nat.le_refl _) (Nat.lt_succ_self _) _ _).set (Nat.le_refl _) (Nat.lt_succ_self _) _ _).set (Nat.le_refl _) (Nat.lt_succ_self _) _ _).set (Nat.le_refl _) (Nat.lt_succ_self _) _ _).set (Nat.le_refl _) (Nat.lt_succ_self _) _ _).set (Nat.le_refl _) (Nat.lt_succ_self _) _ _).set (Nat.le_refl _) (Nat.lt_succ_self _) _ _).set (Nat.le_refl _) (Nat.lt_succ_self _) _ _).set (Nat.le_refl _) (Nat.lt_succ_self _) _ _)
  clear hwF
  refine bodyPost_ret (resTick (v := vaZ VC) (u := vmZ) rfl HBk.out) rfl ⟨vmZ,by rw [HE.out],?_,HB1.out.trans ((HMM.out.below (by omega)).mono (by omega))⟩
  rw [HE.out]
  exact OwVa.zero _ _ _ _ (by have := HMM.out.size; omega) (Nat.le_refl _)
 subst h0
 obtain ⟨hall,hn10,hrq,hnow⟩ := HOK.out rfl
 have hn8 := reqsC_le hrq
 have HLk : Hid (LkT w1 w1.heap.size W.heap.size p z x y wd ht now s (n : Int) (agL A n) (.slice ra rn rc) bad (.slice none 0 0)) := (HK1.out rfl).t hall
 have HRQ : Hid (reqsC rn E = 0) := hrq
 obtain ⟨sp1,mb1,⟨_,hpl1⟩,_,_,_,hbk1,_,_,_⟩ := HLk.out
 have l0 := hbk1.cell 0 rfl
 have l1 := hbk1.cell 1 rfl
 have l2 := hbk1.cell 2 rfl
 have l3 := hbk1.cell 3 rfl
 have l4 := hbk1.cell 4 rfl
 have l5 := hbk1.cell 5 rfl
 have l6 := hbk1.cell 6 rfl
 have l7 := hbk1.cell 7 rfl
 have l8 := hbk1.cell 8 rfl
 have l9 := hbk1.cell 9 rfl
 have g0 := hbk1.free 0 rfl
 have g1 := hbk1.free 1 rfl
 have g2 := hbk1.free 2 rfl
 have g3 := hbk1.free 3 rfl
 have g4 := hbk1.free 4 rfl
 have g5 := hbk1.free 5 rfl
 have g6 := hbk1.free 6 rfl
 have g7 := hbk1.free 7 rfl
 have g8 := hbk1.free 8 rfl
 have g9 := hbk1.free 9 rfl
 clear hbk1 HK1 HOK hall hrq
 by_cases hin : inB k 0 100 = true ∧ now + k ≤ 9000
 case neg =>
  have HE : Hid (V = vaZ 3) := by show _ = _; rw [← HV.out]; have e1 : tickC 0 now k = 3 := (by unfold tickC; rw [if_pos rfl,if_neg hin]); unfold tickV; rw [e1,if_neg (by omega)]
  have hR' := HR1.out
  have t0 := hR'.cell 0 rfl
  have t1 := hR'.cell 1 rfl
  have t2 := hR'.cell 2 rfl
  have t3 := hR'.cell 3 rfl
  have t4 := hR'.cell 4 rfl
  have t5 := hR'.cell 5 rfl
  have t6 := hR'.cell 6 rfl
  have t7 := hR'.cell 7 rfl
  have t8 := hR'.cell 8 rfl
  have t9 := hR'.cell 9 rfl
  have t10 := hR'.cell 10 rfl
  have t11 := hR'.cell 11 rfl
  have t12 := hR'.cell 12 rfl
  have f0 := hR'.free 0 rfl
  have f1 := hR'.free 1 rfl
  have f2 := hR'.free 2 rfl
  have f3 := hR'.free 3 rfl
  have f4 := hR'.free 4 rfl
  have f5 := hR'.free 5 rfl
  have f6 := hR'.free 6 rfl
  have f7 := hR'.free 7 rfl
  have f8 := hR'.free 8 rfl
  have f9 := hR'.free 9 rfl
  have f10 := hR'.free 10 rfl
  have f11 := hR'.free 11 rfl
  have f12 := hR'.free 12 rfl
  have key : ∀ wF,MidB (w.heap.size + 1) (w.heap.size + 2) w1 wF → Blk wF (w.heap.size + 1) (vaL (vaZ 3) vmZ) → ∃ u,Ending.returned (vaV (vaZ 3) vmZ) = .returned (vaV V u) ∧ OwVa w.heap.size wF.heap.size wF V u ∧ Below w.heap.size w wF := fun wF hMM hBk => by
   refine ⟨vmZ,by rw [HE.out],?_,HB1.out.trans ((hMM.below (by omega)).mono (by omega))⟩
   rw [HE.out]
   exact OwVa.zero _ _ _ _ (by have := hMM.size; omega) (Nat.le_refl _)
  have HKEY := (show Hid _ from key)
  clear hR' HSr HV key HLk
  by_cases hk : inB k 0 100 = true
  ·have hgt : 9000 < now + k := by
    have : ¬ now + k ≤ 9000 := fun h => hin ⟨hk,h⟩
    omega
   have hkb : 0 ≤ k ∧ k ≤ 100 := by simp [inB] at hk; omega
   have hw : IntKind.i64.wrap (now + k) = now + k := IntWalk.i64_in _ (by omega)
   have HWi : Hid (∀ W,Calls Tryz.prog 36 #[.int .i64 k, .int .i64 0, .int .i64 100] W fun e w' => e = .returned (.bool true) ∧ w' = W) := fun W => by have := isWithin_any k 0 100 W; rw [hk] at this; exact this
   clear hin hk
   go_wp2_with fail
   refine Calls.mono (HWi.out _) ?_
   rintro e w2 ⟨rfl,rfl⟩
   go_wp2_with fail
   generalize hwF : (World.setCell _ _ _ : World) = wF
   have HBk : Hid (Blk wF (w.heap.size + 1) (vaL (vaZ 3) vmZ)) := by show Blk _ _ _; subst hwF; exact (((((((((((((HR1.out.set 0 _).set 1 _).set 2 _).set 3 _).set 4 _).set 5 _).set 6 _).set 7 _).set 8 _).set 9 _).set 10 _).set 11 _).set 12 _)
   have HMM : Hid (MidB (w.heap.size + 1) (w.heap.size + 2) w2 wF) := by show MidB _ _ _ _; subst hwF; exact ((((((((((((((MidB.refl _ _ _).set (Nat.le_refl _) (Nat.lt_succ_self _) _ _).set (Nat.le_refl _) (Nat.lt_succ_self _) _ _).set (Nat.le_refl _) (Nat.lt_succ_self _) _ _).set (Nat.le_refl _) (Nat.lt_succ_self _) _ _).set (Nat.le_refl _) (Nat.lt_succ_self _) _ _).set (Nat.le_refl _) (Nat.lt_succ_self _) _ _).set (Nat.le_refl _) (Nat.lt_succ_self _) _ _).set (Nat.le_refl _) (Nat.lt_succ_self _) _ _).set (Nat.le_refl _) (Nat.lt_succ_self _) _ _).set (Nat.le_refl _) (Nat.lt_succ_self _) _ _).set (Nat.le_refl _) (Nat.lt_succ_self _) _ _).set (Nat.le_refl _) (Nat.lt_succ_self _) _ _).set (Nat.le_refl _) (Nat.lt_succ_self _) _ _)
   clear hwF
   exact bodyPost_ret (resTick (v := vaZ 3) (u := vmZ) rfl HBk.out) rfl (HKEY.out wF HMM.out HBk.out)
  ·have HWi : Hid (∀ W,Calls Tryz.prog 36 #[.int .i64 k, .int .i64 0, .int .i64 100] W fun e w' => e = .returned (.bool false) ∧ w' = W) := fun W => by have := isWithin_any k 0 100 W; rw [(by simpa using hk : inB k 0 100 = false)] at this; exact this
   clear hin hk
   go_wp2_with fail
   refine Calls.mono (HWi.out _) ?_
   rintro e w2 ⟨rfl,rfl⟩
   go_wp2_with fail
   generalize hwF : (World.setCell _ _ _ : World) = wF
   have HBk : Hid (Blk wF (w.heap.size + 1) (vaL (vaZ 3) vmZ)) := by show Blk _ _ _; subst hwF; exact (((((((((((((HR1.out.set 0 _).set 1 _).set 2 _).set 3 _).set 4 _).set 5 _).set 6 _).set 7 _).set 8 _).set 9 _).set 10 _).set 11 _).set 12 _)
   have HMM : Hid (MidB (w.heap.size + 1) (w.heap.size + 2) w2 wF) := by show MidB _ _ _ _; subst hwF; exact ((((((((((((((MidB.refl _ _ _).set (Nat.le_refl _) (Nat.lt_succ_self _) _ _).set (Nat.le_refl _) (Nat.lt_succ_self _) _ _).set (Nat.le_refl _) (Nat.lt_succ_self _) _ _).set (Nat.le_refl _) (Nat.lt_succ_self _) _ _).set (Nat.le_refl _) (Nat.lt_succ_self _) _ _).set (Nat.le_refl _) (Nat.lt_succ_self _) _ _).set (Nat.le_refl _) (Nat.lt_succ_self _) _ _).set (Nat.le_refl _) (Nat.lt_succ_self _) _ _).set (Nat.le_refl _) (Nat.lt_succ_self _) _ _).set (Nat.le_refl _) (Nat.lt_succ_self _) _ _).set (Nat.le_refl _) (Nat.lt_succ_self _) _ _).set (Nat.le_refl _) (Nat.lt_succ_self _) _ _).set (Nat.le_refl _) (Nat.lt_succ_self _) _ _)
   clear hwF
   exact bodyPost_ret (resTick (v := vaZ 3) (u := vmZ) rfl HBk.out) rfl (HKEY.out wF HMM.out HBk.out)
 obtain ⟨hk,hle⟩ := hin
 have hkb : 0 ≤ k ∧ k ≤ 100 := by simp [inB] at hk; omega
 have hw : IntKind.i64.wrap (now + k) = now + k := IntWalk.i64_in _ (by omega)
 have hgt : ¬ 9000 < now + k := by omega
 have HE : Hid (V = ⟨0,false,(sentL (now + k) E rn).length,rfsOf (sentL (now + k) E rn),z,x,y,wd,ht,now + k,s,n,A,rn,fun j => retE (now + k) (E j),bad⟩) := by show _ = _; rw [← HV.out]; have e1 : tickC 0 now k = 0 := (by unfold tickC; rw [if_pos rfl,if_pos ⟨hk,hle⟩]); unfold tickV; rw [if_pos e1]
 have HWi : Hid (∀ W,Calls Tryz.prog 36 #[.int .i64 k, .int .i64 0, .int .i64 100] W fun e w' => e = .returned (.bool true) ∧ w' = W) := fun W => by have := isWithin_any k 0 100 W; rw [hk] at this; exact this
 have HT : Hid (timC (now + k) = 0) := by
  show _ = _
  unfold timC
  rw [if_pos (by simp [inB]; omega)]
 clear hk HV
 go_wp2_with fail
 refine Calls.mono (HWi.out _) ?_
 rintro e w2 ⟨rfl,rfl⟩
 have HSrr := (show Hid _ from HSr.out (by first | rfl | trivial))
 clear hle
 go_wp2_with fail
 generalize hw3 : (World.setCell _ _ _ : World) = w3
 have HB3 : Hid (Below W.heap.size w2 w3) := by
  show Below _ _ _
  subst hw3
  refine (Below.refl _ _).setCell ?_ _
  obtain ⟨_,_,⟨h,_⟩,_⟩ := HLk.out
  exact h
 have HLk3 : Hid (LkT w3 w2.heap.size W.heap.size p z x y wd ht (now + k) s (n : Int) (agL A n) (.slice ra rn rc) bad (.slice none 0 0)) := by
  show LkT _ _ _ _ _ _ _ _ _ _ _ _ _ _ _ _
  subst hw3; exact HLk.out.set5
 have HBw3 : Hid (Below w.heap.size w w3) := HB1.out.trans (HB3.out.mono (by omega))
 clear hw3 hgt hw
 generalize now + k = nw' at *
 have HRt : Hid (∀ W',Below w3.heap.size w3 W' → Calls Tryz.prog 38 #[.slice ra rn rc, .int .i64 nw'] W' fun e w' => ∃ v1 v2,e = .returned (rqV 0 v1 v2) ∧ RowS W'.heap.size w' v1 (sentL nw' E rn) ∧ RowW W'.heap.size w' v2 (retL nw' E rn) ∧ Below W'.heap.size W' w') := fun W' h => by
  have := impl_RetryAll_any ra rn rc E nw' W' (HR.out.below (bl_then HBw3.out h)) hrn hrc
  have e1 : retC rn E nw' = 0 := by unfold retC or2; rw [if_pos HRQ.out]; exact HT.out
  have e2 : retP rn E nw' = sentL nw' E rn := by unfold retP; rw [if_pos e1]
  have e3 : retQ rn E nw' = retL nw' E rn := by unfold retQ; rw [if_pos e1]
  rw [e1,e2,e3] at this
  exact this
 have HS8 : Hid ((sentL nw' E rn).length ≤ 8 ∧ (retL nw' E rn).length = rn) := ⟨Nat.le_trans (keptL_le _ _ _) hn8,listW_len _ _⟩
 obtain ⟨sp3,mb3,⟨hBp3,hpl3⟩,h32,h33,h34,hbk3,h36,h37,h38⟩ := HLk3.out
 have HBk3 : Hid (Blk w3 p (lkL z x y wd ht nw' (.pointer (some ⟨sp3,0,none⟩)) (.slice ra rn rc) bad (.slice none 0 0))) := hbk3
 clear l0 g0
 clear l1 g1
 clear l2 g2
 clear l3 g3
 clear l4 g4
 clear l5 g5
 clear l6 g6
 clear l7 g7
 clear l8 g8
 clear l9 g9
 have l0 : ∀ W',Below w3.heap.size w3 W' → W'.cell? ⟨p,0,none⟩ = _ := fun W' h => (hbk3.below (by omega) h).cell 0 rfl
 have l1 : ∀ W',Below w3.heap.size w3 W' → W'.cell? ⟨p,1,none⟩ = _ := fun W' h => (hbk3.below (by omega) h).cell 1 rfl
 have l2 : ∀ W',Below w3.heap.size w3 W' → W'.cell? ⟨p,2,none⟩ = _ := fun W' h => (hbk3.below (by omega) h).cell 2 rfl
 have l3 : ∀ W',Below w3.heap.size w3 W' → W'.cell? ⟨p,3,none⟩ = _ := fun W' h => (hbk3.below (by omega) h).cell 3 rfl
 have l4 : ∀ W',Below w3.heap.size w3 W' → W'.cell? ⟨p,4,none⟩ = _ := fun W' h => (hbk3.below (by omega) h).cell 4 rfl
 have l5 : ∀ W',Below w3.heap.size w3 W' → W'.cell? ⟨p,5,none⟩ = _ := fun W' h => (hbk3.below (by omega) h).cell 5 rfl
 have l6 : ∀ W',Below w3.heap.size w3 W' → W'.cell? ⟨p,6,none⟩ = _ := fun W' h => (hbk3.below (by omega) h).cell 6 rfl
 have l7 : ∀ W',Below w3.heap.size w3 W' → W'.cell? ⟨p,7,none⟩ = _ := fun W' h => (hbk3.below (by omega) h).cell 7 rfl
 have l8 : ∀ W',Below w3.heap.size w3 W' → W'.cell? ⟨p,8,none⟩ = _ := fun W' h => (hbk3.below (by omega) h).cell 8 rfl
 have l9 : ∀ W',Below w3.heap.size w3 W' → W'.cell? ⟨p,9,none⟩ = _ := fun W' h => (hbk3.below (by omega) h).cell 9 rfl
 clear hbk3 HT HWi HRQ
 refine wp_region_noPanic ?_
 refine wp_region_L (S := fun W' => Below w3.heap.size w3 W') (z := 10) (by kernel_rfl) ?_
 have hX0r : Below w3.heap.size w3 w3.drew := Below.drew (Below.refl _ _)
 refine wpAnyL_takeU (i := 0) (v := ?vr0) [10] rfl (by kernel_rfl) (by kernel_rfl) (by kernel_rfl) (by kernel_rfl) (fun _ _ _ h => h) (Or.inl ⟨by rfl,?hyr0⟩) hX0r ?_
 case hyr0 => (intro w hSw; (try dsimp only at hSw); go_simp <;> with_reducible rfl)
 try simp only [Act.put,Qx,Qy,Qz]
 refine wpAnyL_takeU (i := 1) (v := ?vr1) [2,3,4,9,10] rfl (by kernel_rfl) (by kernel_rfl) (by kernel_rfl) (by kernel_rfl) (fun _ _ _ h => h) (Or.inl ⟨by rfl,?hyr1⟩) hX0r ?_
 case hyr1 => (intro w hSw; (try dsimp only at hSw); go_simp <;> with_reducible rfl)
 try simp only [Act.put,Qx,Qy,Qz]
 refine wpAnyL_takeU (i := 2) (v := ?vr2) [3,4,9,10] rfl (by kernel_rfl) (by kernel_rfl) (by kernel_rfl) (by kernel_rfl) (fun _ _ _ h => h) (Or.inl ⟨by rfl,?hyr2⟩) hX0r ?_
 case hyr2 => (intro w hSw; (try dsimp only at hSw); go_simp <;> with_reducible rfl)
 try simp only [Act.put,Qx,Qy,Qz]
 refine wpAnyL_takeU (i := 3) (v := ?vr3) [4,9,10] rfl (by kernel_rfl) (by kernel_rfl) (by kernel_rfl) (by kernel_rfl) (fun _ _ _ h => h) (Or.inl ⟨by rfl,?hyr3⟩) hX0r ?_
 case hyr3 => (intro w hSw; (try dsimp only at hSw); go_simp <;> with_reducible rfl)
 try simp only [Act.put,Qx,Qy,Qz]
 refine wpAnyL_takeU (i := 4) (v := ?vr4) [9,10] rfl (by kernel_rfl) (by kernel_rfl) (by kernel_rfl) (by kernel_rfl) (fun _ _ _ h => h) (Or.inl ⟨by rfl,?hyr4⟩) hX0r ?_
 case hyr4 => (intro w hSw; (try dsimp only at hSw); go_simp <;> with_reducible rfl)
 try simp only [Act.put,Qx,Qy,Qz]
 refine wpAnyL_takeU (i := 5) (v := ?vr5) [6,7,8,9,10] rfl (by kernel_rfl) (by kernel_rfl) (by kernel_rfl) (by kernel_rfl) (fun _ _ _ h => h) (Or.inl ⟨by rfl,?hyr5⟩) hX0r ?_
 case hyr5 => (intro w hSw; (try dsimp only at hSw); go_simp <;> with_reducible rfl)
 try simp only [Act.put,Qx,Qy,Qz]
 refine wpAnyL_takeU (i := 6) (v := ?vr6) [7,8,9,10] rfl (by kernel_rfl) (by kernel_rfl) (by kernel_rfl) (by kernel_rfl) (fun _ _ _ h => h) (Or.inl ⟨by rfl,?hyr6⟩) hX0r ?_
 case hyr6 => (intro w hSw; (try dsimp only at hSw); go_simp <;> with_reducible rfl)
 try simp only [Act.put,Qx,Qy,Qz]
 refine wpAnyL_takeU (i := 7) (v := ?vr7) [8,9,10] rfl (by kernel_rfl) (by kernel_rfl) (by kernel_rfl) (by kernel_rfl) (fun _ _ _ h => h) (Or.inl ⟨by rfl,?hyr7⟩) hX0r ?_
 case hyr7 => (intro w hSw; (try dsimp only at hSw); go_simp <;> with_reducible rfl)
 try simp only [Act.put,Qx,Qy,Qz]
 refine wpAnyL_takeU (i := 8) (v := ?vr8) [9,10] rfl (by kernel_rfl) (by kernel_rfl) (by kernel_rfl) (by kernel_rfl) (fun _ _ _ h => h) (Or.inl ⟨by rfl,?hyr8⟩) hX0r ?_
 case hyr8 => (intro w hSw; (try dsimp only at hSw); go_simp <;> with_reducible rfl)
 try simp only [Act.put,Qx,Qy,Qz]
 generalize w3.drew = wk0r at *
 refine wpAnyL_one (i := 9) (by kernel_rfl) rfl (fun K hK => ?_)
 go_simp
 refine Calls.mono (HRt.out _ hX0r) ?_
 rintro e wk1r ⟨v1,v2,rfl,hv1,hv2,hb1r⟩
 have hX1r : Below w3.heap.size w3 wk1r := bl_then hX0r hb1r
 go_wp2_with fail
 refine hK.out _ _ (fun _ => hX1r) ?_
 clear hK K
 try simp only [Act.put,Qx,Qy,Qz]
 obtain ⟨a2,c2,hv2e,harm,hI2⟩ := hv2.arm
 have HOw2 : Hid (OwR wk0r.heap.size wk1r.heap.size wk1r a2 rn (nw (retL nw' E rn))) := by
  have h := hv2.own
  rw [hv2e,HS8.out.2] at h
  exact h.ow
 rw [HS8.out.2] at hv2e
 obtain ⟨a1,c1,hv1e⟩ : ∃ a c,v1 = .slice a (sentL nw' E rn).length c := by
  rcases hv1.slice' with ⟨e1,e2⟩ | ⟨g,c,e,_⟩
  ·exact ⟨none,0,by rw [e1,e2]; rfl⟩
  ·exact ⟨_,_,e⟩
 subst hv2e
 have hk0 := hX0r.size
 have hX1s := hX1r.size
 have hlk1 := HBk3.out.below (by omega) hX1r
 have HSd := (show Hid _ from send_any wk1r.heap.size wk0r.heap.size p z x y wd ht nw' (.pointer (some ⟨sp3,0,none⟩)) (.slice ra rn rc) bad (.slice none 0 0) [] (sentL nw' E rn) 0 v1 a2 rn c2 wk1r hlk1 (RowS.no _ _) hv1 (by omega) (by omega) (Nat.le_refl _) ⟨by simp,by have := HS8.out.1; omega⟩)
 have HLk4 : Hid (LkT wk1r w2.heap.size W.heap.size p z x y wd ht nw' s (n : Int) (agL A n) (.slice ra rn rc) bad (.slice none 0 0)) := HLk3.out.below (hX1r.mono (by omega))
 subst hv1e
 clear hv1 hv2 hlk1
 clear l0
 clear l1
 clear l2
 clear l3
 clear l4
 clear l5
 clear l6
 clear l7
 clear l8
 clear l9
 refine wpAnyL_one (i := 10) (by kernel_rfl) rfl (fun K hK => ?_)
 go_simp
 refine Calls.mono HSd.out ?_
 rintro e w5 ⟨rfl,sv',hbk5,hrow5,hb5,hbu5⟩
 have HBk5 : Hid (Blk w5 p (lkL z x y wd ht nw' (.pointer (some ⟨sp3,0,none⟩)) (.slice a2 rn c2) bad sv')) := hbk5
 have HRow5 : Hid (RowS wk1r.heap.size w5 sv' (sentL nw' E rn)) := by have h := hrow5; rw [List.nil_append] at h; exact h
 have HB5 : Hid (Below p wk1r w5) := hb5
 have HBu5 : Hid (But p none wk1r w5) := hbu5
 clear hbk5 hrow5 hb5 hbu5 HSd
 go_wp2_with fail
 refine hK.out _ _ (fun h => absurd rfl h) ?_
 clear hK K
 try simp only [Act.put,Qx,Qy,Qz]
 refine wpAnyL_done (by kernel_rfl) ?_ _
 refine NoPanic.normal ?_
 have HLk5 : Hid (LkT w5 w2.heap.size W.heap.size p z x y wd ht nw' s (n : Int) (agL A n) (.slice a2 rn c2) bad sv') := HLk4.out.sent (fun g h => by cases h) HBu5.out HB5.out.size (HBk3.out.below (by omega) hX1r |>.cell 6 rfl) HBk5.out
 have HIw : Hid (IsWs w5 a2 rn (fun j => retE nw' (E j))) := HOw2.out.imp id fun ⟨b,e,hlo,hbl,h,_⟩ => ⟨b,0,e,Nat.lt_of_lt_of_le hbl HB5.out.size,fun i hi => by
  have := (h.but (HBu5.out b hbl (by omega) (by simp))) i hi
  rw [show nw (retL nw' E rn) i = retE nw' (E i) from listW_nw _ _ _ hi] at this
  exact this⟩
 have HBw5 : Hid (Below w.heap.size w w5) := (bl_then HBw3.out hX1r).trans (HB5.out.mono (by omega))
 have HR5 : Hid (Blk w5 (w.heap.size + 1) [.int .i64 0, .bool false, .slice none 0 0, .int .i64 0, .int .i64 0, .int .i64 0, .int .i64 0, .int .i64 0, .int .i64 0, .int .i64 0, .slice none 0 0, .slice none 0 0, .int .i64 0]) := by
  have h3 := HR1.out.but (HB3.out.block (w.heap.size + 1) (by omega))
  have h4 := h3.below (by omega) hX1r
  exact h4.but (HBu5.out _ (by omega) (by omega) (by simp))
 have HTd : Hid (Calls Tryz.prog 39 #[.pointer (some ⟨p,0,none⟩)] w5 fun e w' => ∃ u,e = .returned (vaV V u) ∧ OwVa w2.heap.size w'.heap.size w' V u ∧ Below w5.heap.size w5 w') := by
  have := told_any w2.heap.size W.heap.size p z x y wd ht nw' s (n : Int) (agL A n) A a2 rn c2 (fun j => retE nw' (E j)) bad sv' (sentL nw' E rn) w5 HLk5.out (ownsRow_wideW HRow5.out (by omega)) HIw.out harm (by omega) (by rw [agL_len]; omega) agL_at (fun i hi => HSrr.out w5 HBw5.out i (by rw [agL_len] at hi; exact hi))
  rw [agL_len] at this
  rw [HE.out]
  exact this
 have hs5 : wk1r.heap.size ≤ w5.heap.size := HB5.out.size
 have hT2 : w2.heap.size ≤ w3.heap.size := HB3.out.size
 have hr5 := HR5.out
 have t0 : ∀ W',Below w5.heap.size w5 W' → W'.cell? ⟨w.heap.size + 1,0,none⟩ = _ := fun W' h => (hr5.below (by omega) h).cell 0 rfl
 have t1 : ∀ W',Below w5.heap.size w5 W' → W'.cell? ⟨w.heap.size + 1,1,none⟩ = _ := fun W' h => (hr5.below (by omega) h).cell 1 rfl
 have t2 : ∀ W',Below w5.heap.size w5 W' → W'.cell? ⟨w.heap.size + 1,2,none⟩ = _ := fun W' h => (hr5.below (by omega) h).cell 2 rfl
 have t3 : ∀ W',Below w5.heap.size w5 W' → W'.cell? ⟨w.heap.size + 1,3,none⟩ = _ := fun W' h => (hr5.below (by omega) h).cell 3 rfl
 have t4 : ∀ W',Below w5.heap.size w5 W' → W'.cell? ⟨w.heap.size + 1,4,none⟩ = _ := fun W' h => (hr5.below (by omega) h).cell 4 rfl
 have t5 : ∀ W',Below w5.heap.size w5 W' → W'.cell? ⟨w.heap.size + 1,5,none⟩ = _ := fun W' h => (hr5.below (by omega) h).cell 5 rfl
 have t6 : ∀ W',Below w5.heap.size w5 W' → W'.cell? ⟨w.heap.size + 1,6,none⟩ = _ := fun W' h => (hr5.below (by omega) h).cell 6 rfl
 have t7 : ∀ W',Below w5.heap.size w5 W' → W'.cell? ⟨w.heap.size + 1,7,none⟩ = _ := fun W' h => (hr5.below (by omega) h).cell 7 rfl
 have t8 : ∀ W',Below w5.heap.size w5 W' → W'.cell? ⟨w.heap.size + 1,8,none⟩ = _ := fun W' h => (hr5.below (by omega) h).cell 8 rfl
 have t9 : ∀ W',Below w5.heap.size w5 W' → W'.cell? ⟨w.heap.size + 1,9,none⟩ = _ := fun W' h => (hr5.below (by omega) h).cell 9 rfl
 have t10 : ∀ W',Below w5.heap.size w5 W' → W'.cell? ⟨w.heap.size + 1,10,none⟩ = _ := fun W' h => (hr5.below (by omega) h).cell 10 rfl
 have t11 : ∀ W',Below w5.heap.size w5 W' → W'.cell? ⟨w.heap.size + 1,11,none⟩ = _ := fun W' h => (hr5.below (by omega) h).cell 11 rfl
 have t12 : ∀ W',Below w5.heap.size w5 W' → W'.cell? ⟨w.heap.size + 1,12,none⟩ = _ := fun W' h => (hr5.below (by omega) h).cell 12 rfl
 have f0 : ∀ W',Below w5.heap.size w5 W' → W'.frozen? ⟨w.heap.size + 1,0,none⟩ = false := fun W' h => (hr5.below (by omega) h).free 0 rfl
 have f1 : ∀ W',Below w5.heap.size w5 W' → W'.frozen? ⟨w.heap.size + 1,1,none⟩ = false := fun W' h => (hr5.below (by omega) h).free 1 rfl
 have f2 : ∀ W',Below w5.heap.size w5 W' → W'.frozen? ⟨w.heap.size + 1,2,none⟩ = false := fun W' h => (hr5.below (by omega) h).free 2 rfl
 have f3 : ∀ W',Below w5.heap.size w5 W' → W'.frozen? ⟨w.heap.size + 1,3,none⟩ = false := fun W' h => (hr5.below (by omega) h).free 3 rfl
 have f4 : ∀ W',Below w5.heap.size w5 W' → W'.frozen? ⟨w.heap.size + 1,4,none⟩ = false := fun W' h => (hr5.below (by omega) h).free 4 rfl
 have f5 : ∀ W',Below w5.heap.size w5 W' → W'.frozen? ⟨w.heap.size + 1,5,none⟩ = false := fun W' h => (hr5.below (by omega) h).free 5 rfl
 have f6 : ∀ W',Below w5.heap.size w5 W' → W'.frozen? ⟨w.heap.size + 1,6,none⟩ = false := fun W' h => (hr5.below (by omega) h).free 6 rfl
 have f7 : ∀ W',Below w5.heap.size w5 W' → W'.frozen? ⟨w.heap.size + 1,7,none⟩ = false := fun W' h => (hr5.below (by omega) h).free 7 rfl
 have f8 : ∀ W',Below w5.heap.size w5 W' → W'.frozen? ⟨w.heap.size + 1,8,none⟩ = false := fun W' h => (hr5.below (by omega) h).free 8 rfl
 have f9 : ∀ W',Below w5.heap.size w5 W' → W'.frozen? ⟨w.heap.size + 1,9,none⟩ = false := fun W' h => (hr5.below (by omega) h).free 9 rfl
 have f10 : ∀ W',Below w5.heap.size w5 W' → W'.frozen? ⟨w.heap.size + 1,10,none⟩ = false := fun W' h => (hr5.below (by omega) h).free 10 rfl
 have f11 : ∀ W',Below w5.heap.size w5 W' → W'.frozen? ⟨w.heap.size + 1,11,none⟩ = false := fun W' h => (hr5.below (by omega) h).free 11 rfl
 have f12 : ∀ W',Below w5.heap.size w5 W' → W'.frozen? ⟨w.heap.size + 1,12,none⟩ = false := fun W' h => (hr5.below (by omega) h).free 12 rfl
 clear hr5 HLk5 HIw HOw2 HBu5 HRow5 HBk5 HSrr
 go_wp2_with fail
 refine Calls.mono HTd.out ?_
 rintro e w6 ⟨u,rfl,hO6,hb6⟩
 have HO6 : Hid (OwVa w2.heap.size w6.heap.size w6 V u) := hO6
 have HR6 : Hid (Blk w6 (w.heap.size + 1) [.int .i64 0, .bool false, .slice none 0 0, .int .i64 0, .int .i64 0, .int .i64 0, .int .i64 0, .int .i64 0, .int .i64 0, .int .i64 0, .slice none 0 0, .slice none 0 0, .int .i64 0]) := HR5.out.below (by omega) hb6
 have HBw6 : Hid (Below w.heap.size w w6) := bl_then HBw5.out hb6
 have t0 := t0 w6 hb6
 have t1 := t1 w6 hb6
 have t2 := t2 w6 hb6
 have t3 := t3 w6 hb6
 have t4 := t4 w6 hb6
 have t5 := t5 w6 hb6
 have t6 := t6 w6 hb6
 have t7 := t7 w6 hb6
 have t8 := t8 w6 hb6
 have t9 := t9 w6 hb6
 have t10 := t10 w6 hb6
 have t11 := t11 w6 hb6
 have t12 := t12 w6 hb6
 have f0 := f0 w6 hb6
 have f1 := f1 w6 hb6
 have f2 := f2 w6 hb6
 have f3 := f3 w6 hb6
 have f4 := f4 w6 hb6
 have f5 := f5 w6 hb6
 have f6 := f6 w6 hb6
 have f7 := f7 w6 hb6
 have f8 := f8 w6 hb6
 have f9 := f9 w6 hb6
 have f10 := f10 w6 hb6
 have f11 := f11 w6 hb6
 have f12 := f12 w6 hb6
 have hs6 := hb6.size
 clear hO6 hb6 HTd HE
 go_wp2_with fail
 generalize hwF : (World.setCell _ _ _ : World) = wF
 have HBk : Hid (Blk wF (w.heap.size + 1) (vaL V u)) := by show Blk _ _ _; subst hwF; exact (((((((((((((HR6.out.set 0 _).set 1 _).set 2 _).set 3 _).set 4 _).set 5 _).set 6 _).set 7 _).set 8 _).set 9 _).set 10 _).set 11 _).set 12 _)
 have HMM : Hid (MidB (w.heap.size + 1) (w.heap.size + 2) w6 wF) := by show MidB _ _ _ _; subst hwF; exact ((((((((((((((MidB.refl _ _ _).set (Nat.le_refl _) (Nat.lt_succ_self _) _ _).set (Nat.le_refl _) (Nat.lt_succ_self _) _ _).set (Nat.le_refl _) (Nat.lt_succ_self _) _ _).set (Nat.le_refl _) (Nat.lt_succ_self _) _ _).set (Nat.le_refl _) (Nat.lt_succ_self _) _ _).set (Nat.le_refl _) (Nat.lt_succ_self _) _ _).set (Nat.le_refl _) (Nat.lt_succ_self _) _ _).set (Nat.le_refl _) (Nat.lt_succ_self _) _ _).set (Nat.le_refl _) (Nat.lt_succ_self _) _ _).set (Nat.le_refl _) (Nat.lt_succ_self _) _ _).set (Nat.le_refl _) (Nat.lt_succ_self _) _ _).set (Nat.le_refl _) (Nat.lt_succ_self _) _ _).set (Nat.le_refl _) (Nat.lt_succ_self _) _ _)
 clear hwF
 exact bodyPost_ret (resTick (v := V) (u := u) rfl HBk.out) rfl ⟨u,rfl,((HO6.out.mid HMM.out (by omega)).lower (by omega)).upper HMM.out.size (Nat.le_refl _),HBw6.out.trans ((HMM.out.below (by omega)).mono (by omega))⟩
end Go.Proofs.YtiephlohemphjaaGreat
