/- Texts. -/
import Derived.Test.YtiephlohemphjaaGreatVTickViewer50
import Derived.Test.YtiephlohemphjaaGreatVTickViewer49
set_option linter.unusedSimpArgs false
set_option linter.unusedVariables false
set_option maxRecDepth 100000
set_option maxHeartbeats 32000000
namespace Go.Proofs.YtiephlohemphjaaGreat
open Go.RowKit
theorem kC_m0 {A : Nat → Kp} {n : Nat} (h : ∀ j,j < n → kC A j = 0) : ∀ i,i < n → 0 < (A i).m := fun i hi => by rw [kC_m (h i hi)]; omega
theorem resTickS {T : Array Value} {Wf : World} {r : Nat} {v : Va} {u : Vm} (hT : T[4]?.getD undef = .pointer (some ⟨r,0,none⟩)) (h : Blk Wf r (vaL v u)) :
  (results Tryz.f9 T).run Tryz.prog Wf = .ok (vaV v u) Wf := by
 have h0 := h.cell 0 rfl
 have h1 := h.cell 1 rfl
 have h2 := h.cell 2 rfl
 have h3 := h.cell 3 rfl
 have h4 := h.cell 4 rfl
 have h5 := h.cell 5 rfl
 have h6 := h.cell 6 rfl
 have h7 := h.cell 7 rfl
 have h8 := h.cell 8 rfl
 have h9 := h.cell 9 rfl
 have h10 := h.cell 10 rfl
 have h11 := h.cell 11 rfl
 have h12 := h.cell 12 rfl
 simp [results,Tryz.results9,go_sem,hT,h0,h1,h2,h3,h4,h5,h6,h7,h8,h9,h10,h11,h12]
theorem spec_TickViewer_any (z x y wd ht now s : Int) (b n cap : Nat) (A : Nat → Kp) (ad : Addr) (rn rc : Nat) (E : Nat → Req) (bad k : Int) (w : World) (ha : KoAt w b n A) (hs : SmallKs n A) (hr : IsWs w (some ad) rn E) (hrn : rn ≤ 1048576) :
  Calls Tryz.prog 9 #[vwV z x y wd ht now s (.slice (some ⟨b,0,none⟩) n cap) (.slice (some ad) rn rc) bad, .int .i64 k] w fun e w' => ∃ u,e = .returned (vaV (tickV (viewC z x y wd ht now s n A rn E bad) z x y wd ht now s n A rn E bad k) u) ∧ IsVa w' (tickV (viewC z x y wd ht now s n A rn E bad) z x y wd ht now s n A rn E bad k) u ∧ Below w.heap.size w w' := by
 obtain ⟨VC,hVC⟩ : ∃ VC,viewC z x y wd ht now s n A rn E bad = VC := ⟨_,rfl⟩
 have HVC : Hid (viewC z x y wd ht now s n A rn E bad = VC) := hVC
 have HA : Hid (KoAt w b n A) := ha
 have HS : Hid (SmallKs n A) := hs
 have HR : Hid (IsWs w (some ad) rn E) := hr
 have HOK : Hid (VC = 0 → (∀ j,j < n → kC A j = 0) ∧ n ≤ 10 ∧ reqsC rn E = 0 ∧ (0 ≤ now ∧ now ≤ 9000)) := fun h => by
  obtain ⟨_,h2,h3,h4,_⟩ := viewC_ok (hVC.trans h)
  exact ⟨cacheC_zero h2,(cacheC_ten h2).1,h3,h4⟩
 rw [hVC]
 obtain ⟨V,hV⟩ : ∃ V,tickV VC z x y wd ht now s n A rn E bad k = V := ⟨_,rfl⟩
 have HV : Hid (tickV VC z x y wd ht now s n A rn E bad k = V) := hV
 rw [hV]
 clear ha hs hr hVC hV
 go_enter Tryz.func9,Tryz.ntmps9
 go_wp2_with fail
 generalize hW : ((w.alloc _).alloc _ : World) = W
 have HB0 : Hid (Below w.heap.size w W) := by show Below _ _ _; subst hW; exact Qb
 have HVw : Hid (Blk W w.heap.size [.int .i64 z, .int .i64 x, .int .i64 y, .int .i64 wd, .int .i64 ht, .int .i64 now, .int .i64 s, .slice (some ⟨b,0,none⟩) n cap, .slice (some ad) rn rc, .int .i64 bad]) := by show Blk _ _ _; subst hW; exact (Blk.new w _ _).alloc (by simp) _
 have HRs : Hid (Blk W (w.heap.size + 1) [.int .i64 0, .bool false, .slice none 0 0, .int .i64 0, .int .i64 0, .int .i64 0, .int .i64 0, .int .i64 0, .int .i64 0, .int .i64 0, .slice none 0 0, .slice none 0 0, .int .i64 0]) := by
  show Blk _ _ _
  subst hW
  have := Blk.new (w.alloc (.cells #[.int .i64 z, .int .i64 x, .int .i64 y, .int .i64 wd, .int .i64 ht, .int .i64 now, .int .i64 s, .slice (some ⟨b,0,none⟩) n cap, .slice (some ad) rn rc, .int .i64 bad] 38)) [.int .i64 0, .bool false, .slice none 0 0, .int .i64 0, .int .i64 0, .int .i64 0, .int .i64 0, .int .i64 0, .int .i64 0, .int .i64 0, .slice none 0 0, .slice none 0 0, .int .i64 0] 40
  simpa using this
 have hsz : w.heap.size + 1 < W.heap.size := by subst hW; simp
 clear hW
 have HF := (show Hid _ from l13Fault_any _ z x y wd ht now s b n cap A (some ad) rn rc E bad W HVw.out (HA.out.below HB0.out) HS.out (HR.out.below HB0.out) hrn)
 rw [HVC.out] at HF
 refine Calls.mono HF.out ?_
 rintro e w1 ⟨rfl,hb1⟩
 have HB1 : Hid (Below w.heap.size w w1) := bl_then HB0.out hb1
 have HV1 : Hid (Blk w1 w.heap.size [.int .i64 z, .int .i64 x, .int .i64 y, .int .i64 wd, .int .i64 ht, .int .i64 now, .int .i64 s, .slice (some ⟨b,0,none⟩) n cap, .slice (some ad) rn rc, .int .i64 bad]) := HVw.out.below HVw.out.lt hb1
 have HR1 : Hid (Blk w1 (w.heap.size + 1) [.int .i64 0, .bool false, .slice none 0 0, .int .i64 0, .int .i64 0, .int .i64 0, .int .i64 0, .int .i64 0, .int .i64 0, .int .i64 0, .slice none 0 0, .slice none 0 0, .int .i64 0]) := HRs.out.below hsz hb1
 have hs1 : W.heap.size ≤ w1.heap.size := hb1.size
 clear hb1 HF HRs HB0 HVw HVC
 have hbad : ∀ (c : Int) (w2 : World),V = vaZ c → Below w1.heap.size w1 w2 → ∀ wF,MidB (w.heap.size + 1) (w.heap.size + 2) w2 wF → ∃ u,Ending.returned (vaV (vaZ c) vmZ) = .returned (vaV V u) ∧ IsVa wF V u ∧ Below w.heap.size w wF := fun c w2 hE h2 wF hMM => by
  refine ⟨vmZ,by rw [hE],?_,(bl_then HB1.out h2).trans ((hMM.below (by have := h2.size; omega)).mono (by omega))⟩
  rw [hE]
  exact IsVa.zero _ _
 have HBad := (show Hid _ from hbad)
 have HBd : Hid (∀ (c : Int) (W : World),Calls Tryz.prog 29 #[.int .i64 c] W fun e w' => e = .returned (vaV (vaZ c) vmZ) ∧ Below W.heap.size W w') := fun c W => l13Bad_any c W
 clear hbad
 by_cases h0 : VC = 0
 case neg =>
  have HE : Hid (V = vaZ VC) := by show _ = _; rw [← HV.out]; have e1 : tickC VC now k = VC := (by unfold tickC; rw [if_neg h0]); unfold tickV; rw [e1,if_neg h0]
  have hcb : (VC == 0) = false := by simpa using h0
  clear HOK h0 HV
  go_wp2_with fail
  refine Calls.mono (HBd.out VC _) ?_
  rintro e w2 ⟨rfl,hb2⟩
  have HB2 : Hid (Below w1.heap.size w1 w2) := hb2
  have HR2 : Hid (Blk w2 (w.heap.size + 1) [.int .i64 0, .bool false, .slice none 0 0, .int .i64 0, .int .i64 0, .int .i64 0, .int .i64 0, .int .i64 0, .int .i64 0, .int .i64 0, .slice none 0 0, .slice none 0 0, .int .i64 0]) := HR1.out.below (by omega) hb2
  have hR' := HR2.out
  have t0 := hR'.cell 0 rfl
  have t1 := hR'.cell 1 rfl
  have t2 := hR'.cell 2 rfl
  have t3 := hR'.cell 3 rfl
  have t4 := hR'.cell 4 rfl
  have t5 := hR'.cell 5 rfl
  have t6 := hR'.cell 6 rfl
  have t7 := hR'.cell 7 rfl
  have t8 := hR'.cell 8 rfl
  have t9 := hR'.cell 9 rfl
  have t10 := hR'.cell 10 rfl
  have t11 := hR'.cell 11 rfl
  have t12 := hR'.cell 12 rfl
  have f0 := hR'.free 0 rfl
  have f1 := hR'.free 1 rfl
  have f2 := hR'.free 2 rfl
  have f3 := hR'.free 3 rfl
  have f4 := hR'.free 4 rfl
  have f5 := hR'.free 5 rfl
  have f6 := hR'.free 6 rfl
  have f7 := hR'.free 7 rfl
  have f8 := hR'.free 8 rfl
  have f9 := hR'.free 9 rfl
  have f10 := hR'.free 10 rfl
  have f11 := hR'.free 11 rfl
  have f12 := hR'.free 12 rfl
  clear hR' hb2
  go_wp2_with fail
  generalize hwF : (World.setCell _ _ _ : World) = wF
  have HBk : Hid (Blk wF (w.heap.size + 1) (vaL (vaZ VC) vmZ)) := by show Blk _ _ _; subst hwF; exact (((((((((((((HR2.out.set 0 _).set 1 _).set 2 _).set 3 _).set 4 _).set 5 _).set 6 _).set 7 _).set 8 _).set 9 _).set 10 _).set 11 _).set 12 _)
  have HMM : Hid (MidB (w.heap.size + 1) (w.heap.size + 2) w2 wF) := by show MidB _ _ _ _; subst hwF; exact ((((((((((((((MidB.refl _ _ _).set (Nat.le_refl _) (Nat.lt_succ_self _) _ _).set (Nat.le_refl _) (Nat.lt_succ_self _) _ _).set (Nat.le_refl _) (Nat.lt_succ_self _) _ _).set (Nat.le_refl _) (Nat.lt_succ_self _) _ _).set (Nat.le_refl _) (Nat.lt_succ_self _) _ _).set (Nat.le_refl _) (Nat.lt_succ_self _) _ _).set (Nat.le_refl _) (Nat.lt_succ_self _) _ _).set (Nat.le_refl _) (Nat.lt_succ_self _) _ _).set (Nat.le_refl _) (Nat.lt_succ_self _) _ _).set (Nat.le_refl _) (Nat.lt_succ_self _) _ _).set (Nat.le_refl _) (Nat.lt_succ_self _) _ _).set (Nat.le_refl _) (Nat.lt_succ_self _) _ _).set (Nat.le_refl _) (Nat.lt_succ_self _) _ _)
  clear hwF
  exact bodyPost_ret (resTickS (v := vaZ VC) (u := vmZ) rfl HBk.out) rfl (HBad.out VC w2 HE.out HB2.out wF HMM.out)
 subst h0
 obtain ⟨hall,hn10,hrq,hnow⟩ := HOK.out (by first | rfl | trivial)
 have hn8 := reqsC_le hrq
 have HAll : Hid (∀ j,j < n → kC A j = 0) := hall
 have HRQ : Hid (∀ j,j < rn → 0 ≤ (E j).tr ∧ (E j).tr ≤ 99) := fun j hj => (reqs_tries hrq hj).1
 have hv1 := HV1.out
 have l0 := hv1.cell 0 rfl
 have l1 := hv1.cell 1 rfl
 have l2 := hv1.cell 2 rfl
 have l3 := hv1.cell 3 rfl
 have l4 := hv1.cell 4 rfl
 have l5 := hv1.cell 5 rfl
 have l6 := hv1.cell 6 rfl
 have l7 := hv1.cell 7 rfl
 have l8 := hv1.cell 8 rfl
 have l9 := hv1.cell 9 rfl
 clear hv1 HOK hall hrq
 by_cases hin : inB k 0 100 = true ∧ now + k ≤ 9000
 case neg =>
  have HE : Hid (V = vaZ 3) := by show _ = _; rw [← HV.out]; have e1 : tickC 0 now k = 3 := (by unfold tickC; rw [if_pos rfl,if_neg hin]); unfold tickV; rw [e1,if_neg (by omega)]
  by_cases hk : inB k 0 100 = true
  ·have hgt : 9000 < now + k := by
    have : ¬ now + k ≤ 9000 := fun h => hin ⟨hk,h⟩
    omega
   have hkb : 0 ≤ k ∧ k ≤ 100 := by simp [inB] at hk; omega
   have hw : IntKind.i64.wrap (now + k) = now + k := IntWalk.i64_in _ (by omega)
   have HWi : Hid (∀ W,Calls Tryz.prog 30 #[.int .i64 k, .int .i64 0, .int .i64 100] W fun e w' => e = .returned (.bool true) ∧ w' = W) := fun W => by have := l1In_any k 0 100 W; rw [hk] at this; exact this
   clear hin hk HV
   go_wp2_with fail
   refine Calls.mono (HWi.out _) ?_
   rintro e wi ⟨rfl,rfl⟩
   go_wp2_with fail
   refine Calls.mono (HBd.out 3 _) ?_
   rintro e w2 ⟨rfl,hb2⟩
   have HB2 : Hid (Below wi.heap.size wi w2) := hb2
   have HR2 : Hid (Blk w2 (w.heap.size + 1) [.int .i64 0, .bool false, .slice none 0 0, .int .i64 0, .int .i64 0, .int .i64 0, .int .i64 0, .int .i64 0, .int .i64 0, .int .i64 0, .slice none 0 0, .slice none 0 0, .int .i64 0]) := HR1.out.below (by omega) hb2
   have hR' := HR2.out
   have t0 := hR'.cell 0 rfl
   have t1 := hR'.cell 1 rfl
   have t2 := hR'.cell 2 rfl
   have t3 := hR'.cell 3 rfl
   have t4 := hR'.cell 4 rfl
   have t5 := hR'.cell 5 rfl
   have t6 := hR'.cell 6 rfl
   have t7 := hR'.cell 7 rfl
   have t8 := hR'.cell 8 rfl
   have t9 := hR'.cell 9 rfl
   have t10 := hR'.cell 10 rfl
   have t11 := hR'.cell 11 rfl
   have t12 := hR'.cell 12 rfl
   have f0 := hR'.free 0 rfl
   have f1 := hR'.free 1 rfl
   have f2 := hR'.free 2 rfl
   have f3 := hR'.free 3 rfl
   have f4 := hR'.free 4 rfl
   have f5 := hR'.free 5 rfl
   have f6 := hR'.free 6 rfl
   have f7 := hR'.free 7 rfl
   have f8 := hR'.free 8 rfl
   have f9 := hR'.free 9 rfl
   have f10 := hR'.free 10 rfl
   have f11 := hR'.free 11 rfl
   have f12 := hR'.free 12 rfl
   clear hR' hb2
   go_wp2_with fail
   generalize hwF : (World.setCell _ _ _ : World) = wF
   have HBk : Hid (Blk wF (w.heap.size + 1) (vaL (vaZ 3) vmZ)) := by show Blk _ _ _; subst hwF; exact (((((((((((((HR2.out.set 0 _).set 1 _).set 2 _).set 3 _).set 4 _).set 5 _).set 6 _).set 7 _).set 8 _).set 9 _).set 10 _).set 11 _).set 12 _)
   have HMM : Hid (MidB (w.heap.size + 1) (w.heap.size + 2) w2 wF) := by show MidB _ _ _ _; subst hwF; exact ((((((((((((((MidB.refl _ _ _).set (Nat.le_refl _) (Nat.lt_succ_self _) _ _).set (Nat.le_refl _) (Nat.lt_succ_self _) _ _).set (Nat.le_refl _) (Nat.lt_succ_self _) _ _).set (Nat.le_refl _) (Nat.lt_succ_self _) _ _).set (Nat.le_refl _) (Nat.lt_succ_self _) _ _).set (Nat.le_refl _) (Nat.lt_succ_self _) _ _).set (Nat.le_refl _) (Nat.lt_succ_self _) _ _).set (Nat.le_refl _) (Nat.lt_succ_self _) _ _).set (Nat.le_refl _) (Nat.lt_succ_self _) _ _).set (Nat.le_refl _) (Nat.lt_succ_self _) _ _).set (Nat.le_refl _) (Nat.lt_succ_self _) _ _).set (Nat.le_refl _) (Nat.lt_succ_self _) _ _).set (Nat.le_refl _) (Nat.lt_succ_self _) _ _)
   clear hwF
   exact bodyPost_ret (resTickS (v := vaZ 3) (u := vmZ) rfl HBk.out) rfl (HBad.out 3 w2 HE.out HB2.out wF HMM.out)
  ·have HWi : Hid (∀ W,Calls Tryz.prog 30 #[.int .i64 k, .int .i64 0, .int .i64 100] W fun e w' => e = .returned (.bool false) ∧ w' = W) := fun W => by have := l1In_any k 0 100 W; rw [(by simpa using hk : inB k 0 100 = false)] at this; exact this
   clear hin hk HV
   go_wp2_with fail
   refine Calls.mono (HWi.out _) ?_
   rintro e wi ⟨rfl,rfl⟩
   go_wp2_with fail
   refine Calls.mono (HBd.out 3 _) ?_
   rintro e w2 ⟨rfl,hb2⟩
   have HB2 : Hid (Below wi.heap.size wi w2) := hb2
   have HR2 : Hid (Blk w2 (w.heap.size + 1) [.int .i64 0, .bool false, .slice none 0 0, .int .i64 0, .int .i64 0, .int .i64 0, .int .i64 0, .int .i64 0, .int .i64 0, .int .i64 0, .slice none 0 0, .slice none 0 0, .int .i64 0]) := HR1.out.below (by omega) hb2
   have hR' := HR2.out
   have t0 := hR'.cell 0 rfl
   have t1 := hR'.cell 1 rfl
   have t2 := hR'.cell 2 rfl
   have t3 := hR'.cell 3 rfl
   have t4 := hR'.cell 4 rfl
   have t5 := hR'.cell 5 rfl
   have t6 := hR'.cell 6 rfl
   have t7 := hR'.cell 7 rfl
   have t8 := hR'.cell 8 rfl
   have t9 := hR'.cell 9 rfl
   have t10 := hR'.cell 10 rfl
   have t11 := hR'.cell 11 rfl
   have t12 := hR'.cell 12 rfl
   have f0 := hR'.free 0 rfl
   have f1 := hR'.free 1 rfl
   have f2 := hR'.free 2 rfl
   have f3 := hR'.free 3 rfl
   have f4 := hR'.free 4 rfl
   have f5 := hR'.free 5 rfl
   have f6 := hR'.free 6 rfl
   have f7 := hR'.free 7 rfl
   have f8 := hR'.free 8 rfl
   have f9 := hR'.free 9 rfl
   have f10 := hR'.free 10 rfl
   have f11 := hR'.free 11 rfl
   have f12 := hR'.free 12 rfl
   clear hR' hb2
   go_wp2_with fail
   generalize hwF : (World.setCell _ _ _ : World) = wF
   have HBk : Hid (Blk wF (w.heap.size + 1) (vaL (vaZ 3) vmZ)) := by show Blk _ _ _; subst hwF; exact (((((((((((((HR2.out.set 0 _).set 1 _).set 2 _).set 3 _).set 4 _).set 5 _).set 6 _).set 7 _).set 8 _).set 9 _).set 10 _).set 11 _).set 12 _)
   have HMM : Hid (MidB (w.heap.size + 1) (w.heap.size + 2) w2 wF) := by show MidB _ _ _ _; subst hwF; exact ((((((((((((((MidB.refl _ _ _).set (Nat.le_refl _) (Nat.lt_succ_self _) _ _).set (Nat.le_refl _) (Nat.lt_succ_self _) _ _).set (Nat.le_refl _) (Nat.lt_succ_self _) _ _).set (Nat.le_refl _) (Nat.lt_succ_self _) _ _).set (Nat.le_refl _) (Nat.lt_succ_self _) _ _).set (Nat.le_refl _) (Nat.lt_succ_self _) _ _).set (Nat.le_refl _) (Nat.lt_succ_self _) _ _).set (Nat.le_refl _) (Nat.lt_succ_self _) _ _).set (Nat.le_refl _) (Nat.lt_succ_self _) _ _).set (Nat.le_refl _) (Nat.lt_succ_self _) _ _).set (Nat.le_refl _) (Nat.lt_succ_self _) _ _).set (Nat.le_refl _) (Nat.lt_succ_self _) _ _).set (Nat.le_refl _) (Nat.lt_succ_self _) _ _)
   clear hwF
   exact bodyPost_ret (resTickS (v := vaZ 3) (u := vmZ) rfl HBk.out) rfl (HBad.out 3 w2 HE.out HB2.out wF HMM.out)
 obtain ⟨hk,hle⟩ := hin
 have hkb : 0 ≤ k ∧ k ≤ 100 := by simp [inB] at hk; omega
 have hw : IntKind.i64.wrap (now + k) = now + k := IntWalk.i64_in _ (by omega)
 have hgt : ¬ 9000 < now + k := by omega
 have HNow : Hid (0 ≤ now + k ∧ now + k ≤ 9000) := ⟨by omega,hle⟩
 have HE : Hid (V = ⟨0,false,(sentL (now + k) E rn).length,rfsOf (sentL (now + k) E rn),z,x,y,wd,ht,now + k,s,n,A,rn,fun j => retE (now + k) (E j),bad⟩) := by show _ = _; rw [← HV.out]; have e1 : tickC 0 now k = 0 := (by unfold tickC; rw [if_pos rfl,if_pos ⟨hk,hle⟩]); unfold tickV; rw [if_pos e1]
 have HWi : Hid (∀ W,Calls Tryz.prog 30 #[.int .i64 k, .int .i64 0, .int .i64 100] W fun e w' => e = .returned (.bool true) ∧ w' = W) := fun W => by have := l1In_any k 0 100 W; rw [hk] at this; exact this
 clear hk HV hle HBad HBd
 go_wp2_with fail
 refine Calls.mono (HWi.out _) ?_
 rintro e wi ⟨rfl,rfl⟩
 have HCp := (show Hid _ from l13Copy_any z x y wd ht now s b n cap A ad rn rc E bad wi (HA.out.below HB1.out) (fun i hi => SrcK_of (HA.out.below HB1.out) HS.out hi (kC_zero (HAll.out i hi)).1) (kC_m0 HAll.out) (by omega) (HR.out.below HB1.out) hrn)
 go_wp2_with fail
 refine Calls.mono HCp.out ?_
 rintro e w2 ⟨a,c,R,a3,c3,rfl,hL2,_,hb2⟩
 have HL2 : Hid (∀ W,GrF (wi.heap.size + 2) none w2 W → CaF W a n A R) := hL2
 have HB2 : Hid (Below w.heap.size w w2) := bl_then HB1.out hb2
 have hs2 := hb2.size
 have HV2 : Hid (Blk w2 w.heap.size [.int .i64 z, .int .i64 x, .int .i64 y, .int .i64 wd, .int .i64 ht, .int .i64 now, .int .i64 s, .slice (some ⟨b,0,none⟩) n cap, .slice (some ad) rn rc, .int .i64 bad]) := HV1.out.below (by omega) hb2
 have HR2 : Hid (Blk w2 (w.heap.size + 1) [.int .i64 0, .bool false, .slice none 0 0, .int .i64 0, .int .i64 0, .int .i64 0, .int .i64 0, .int .i64 0, .int .i64 0, .int .i64 0, .slice none 0 0, .slice none 0 0, .int .i64 0]) := HR1.out.below (by omega) hb2
 have hv2 := HV2.out
 have hv2l : w.heap.size < w2.heap.size := by omega
 clear l0
 clear l1
 clear l2
 clear l3
 clear l4
 clear l5
 clear l6
 clear l7
 clear l8
 clear l9
 have l0 := hv2.cell 0 rfl
 have l1 := hv2.cell 1 rfl
 have l2 := hv2.cell 2 rfl
 have l3 := hv2.cell 3 rfl
 have l4 := hv2.cell 4 rfl
 have l5 := hv2.cell 5 rfl
 have l6 := hv2.cell 6 rfl
 have l7 := hv2.cell 7 rfl
 have l8 := hv2.cell 8 rfl
 have l9 := hv2.cell 9 rfl
 have m0 : ∀ o,(w2.alloc o).cell? ⟨w.heap.size,0,none⟩ = _ := fun o => (hv2.alloc hv2l o).cell 0 rfl
 have m1 : ∀ o,(w2.alloc o).cell? ⟨w.heap.size,1,none⟩ = _ := fun o => (hv2.alloc hv2l o).cell 1 rfl
 have m2 : ∀ o,(w2.alloc o).cell? ⟨w.heap.size,2,none⟩ = _ := fun o => (hv2.alloc hv2l o).cell 2 rfl
 have m3 : ∀ o,(w2.alloc o).cell? ⟨w.heap.size,3,none⟩ = _ := fun o => (hv2.alloc hv2l o).cell 3 rfl
 have m4 : ∀ o,(w2.alloc o).cell? ⟨w.heap.size,4,none⟩ = _ := fun o => (hv2.alloc hv2l o).cell 4 rfl
 have m5 : ∀ o,(w2.alloc o).cell? ⟨w.heap.size,5,none⟩ = _ := fun o => (hv2.alloc hv2l o).cell 5 rfl
 have m6 : ∀ o,(w2.alloc o).cell? ⟨w.heap.size,6,none⟩ = _ := fun o => (hv2.alloc hv2l o).cell 6 rfl
 have m7 : ∀ o,(w2.alloc o).cell? ⟨w.heap.size,7,none⟩ = _ := fun o => (hv2.alloc hv2l o).cell 7 rfl
 have m8 : ∀ o,(w2.alloc o).cell? ⟨w.heap.size,8,none⟩ = _ := fun o => (hv2.alloc hv2l o).cell 8 rfl
 have m9 : ∀ o,(w2.alloc o).cell? ⟨w.heap.size,9,none⟩ = _ := fun o => (hv2.alloc hv2l o).cell 9 rfl
 clear hv2 hL2 hb2 HCp hgt
 go_wp2_with fail
 generalize hwO : (w2.alloc _ : World) = wO
 have hbO : Below w2.heap.size w2 wO := by subst hwO; exact Qb
 have HO : Hid (Blk wO w2.heap.size [.int .i64 z, .int .i64 x, .int .i64 y, .int .i64 wd, .int .i64 ht, .int .i64 (now + k), .int .i64 s, .slice a n c, .slice a3 rn c3, .int .i64 bad]) := by show Blk _ _ _; subst hwO; exact Blk.new _ _ _
 clear hwO
 clear l0 m0
 clear l1 m1
 clear l2 m2
 clear l3 m3
 clear l4 m4
 clear l5 m5
 clear l6 m6
 clear l7 m7
 clear l8 m8
 clear l9 m9
 have hlO := HO.out.lt
 have HRt := (show Hid _ from l12Retry_any ad rn rc E (now + k) wO (HR.out.below (bl_then HB2.out hbO)) hn8 HNow.out HRQ.out)
 refine Calls.mono HRt.out ?_
 rintro e w4 ⟨va,vc,v1,rfl,hS4,hO4,_,hb4⟩
 have HT4 : Hid (OwnT w4 wO.heap.size v1 (sentL (now + k) E rn).length (rfsOf (sentL (now + k) E rn))) := hS4.own
 obtain ⟨a1,c1,hv1⟩ : ∃ a c,v1 = .slice a (sentL (now + k) E rn).length c := by
  obtain ⟨a,c,e,_⟩ := hS4.own
  exact ⟨a,c,e⟩
 subst hv1
 have HW4 : Hid (OwR wO.heap.size w4.heap.size w4 va rn (fun j => retE (now + k) (E j))) := hO4.ow
 have HO4 : Hid (Blk w4 w2.heap.size [.int .i64 z, .int .i64 x, .int .i64 y, .int .i64 wd, .int .i64 ht, .int .i64 (now + k), .int .i64 s, .slice a n c, .slice a3 rn c3, .int .i64 bad]) := HO.out.below hlO hb4
 have hbO4 : Below w2.heap.size w2 w4 := bl_then hbO hb4
 have HbO4 : Hid (Below w2.heap.size w2 w4) := hbO4
 have HR4 : Hid (Blk w4 (w.heap.size + 1) [.int .i64 0, .bool false, .slice none 0 0, .int .i64 0, .int .i64 0, .int .i64 0, .int .i64 0, .int .i64 0, .int .i64 0, .int .i64 0, .slice none 0 0, .slice none 0 0, .int .i64 0]) := HR2.out.below (by omega) hbO4
 have hs4 := hb4.size
 have HB4 : Hid (Below w.heap.size w w4) := bl_then HB2.out hbO4
 have ho4 := HO4.out
 have hr4 := HR4.out
 have o0 := ho4.cell 0 rfl
 have o1 := ho4.cell 1 rfl
 have o2 := ho4.cell 2 rfl
 have o3 := ho4.cell 3 rfl
 have o4 := ho4.cell 4 rfl
 have o5 := ho4.cell 5 rfl
 have o6 := ho4.cell 6 rfl
 have o7 := ho4.cell 7 rfl
 have o8 := ho4.cell 8 rfl
 have o9 := ho4.cell 9 rfl
 have p0 := ho4.free 0 rfl
 have p1 := ho4.free 1 rfl
 have p2 := ho4.free 2 rfl
 have p3 := ho4.free 3 rfl
 have p4 := ho4.free 4 rfl
 have p5 := ho4.free 5 rfl
 have p6 := ho4.free 6 rfl
 have p7 := ho4.free 7 rfl
 have p8 := ho4.free 8 rfl
 have p9 := ho4.free 9 rfl
 have t0 := hr4.cell 0 rfl
 have t1 := hr4.cell 1 rfl
 have t2 := hr4.cell 2 rfl
 have t3 := hr4.cell 3 rfl
 have t4 := hr4.cell 4 rfl
 have t5 := hr4.cell 5 rfl
 have t6 := hr4.cell 6 rfl
 have t7 := hr4.cell 7 rfl
 have t8 := hr4.cell 8 rfl
 have t9 := hr4.cell 9 rfl
 have t10 := hr4.cell 10 rfl
 have t11 := hr4.cell 11 rfl
 have t12 := hr4.cell 12 rfl
 have f0 := hr4.free 0 rfl
 have f1 := hr4.free 1 rfl
 have f2 := hr4.free 2 rfl
 have f3 := hr4.free 3 rfl
 have f4 := hr4.free 4 rfl
 have f5 := hr4.free 5 rfl
 have f6 := hr4.free 6 rfl
 have f7 := hr4.free 7 rfl
 have f8 := hr4.free 8 rfl
 have f9 := hr4.free 9 rfl
 have f10 := hr4.free 10 rfl
 have f11 := hr4.free 11 rfl
 have f12 := hr4.free 12 rfl
 clear hS4 hO4 hb4 hbO hbO4 ho4 hr4 HRt HO
 go_wp2_with fail
 generalize hw5 : (World.setCell w4 _ _ : World) = w5
 have HM5 : Hid (MidB w2.heap.size (w2.heap.size + 1) w4 w5) := by show MidB _ _ _ _; subst hw5; exact (MidB.refl _ _ _).set (Nat.le_refl _) (Nat.lt_succ_self _) _ _
 have HR5 : Hid (Blk w5 (w.heap.size + 1) [.int .i64 0, .bool false, .slice none 0 0, .int .i64 0, .int .i64 0, .int .i64 0, .int .i64 0, .int .i64 0, .int .i64 0, .int .i64 0, .slice none 0 0, .slice none 0 0, .int .i64 0]) := by show Blk _ _ _; subst hw5; exact HR4.out.other (by omega)
 clear hw5
 generalize hwF : (World.setCell _ _ _ : World) = wF
 have HBk : Hid (Blk wF (w.heap.size + 1) (vaL ⟨0,false,(sentL (now + k) E rn).length,rfsOf (sentL (now + k) E rn),z,x,y,wd,ht,now + k,s,n,A,rn,fun j => retE (now + k) (E j),bad⟩ ⟨a1,c1,a,c,R,va,vc⟩)) := by show Blk _ _ _; subst hwF; exact (((((((((((((HR5.out.set 0 _).set 1 _).set 2 _).set 3 _).set 4 _).set 5 _).set 6 _).set 7 _).set 8 _).set 9 _).set 10 _).set 11 _).set 12 _)
 have HMM : Hid (MidB (w.heap.size + 1) (w.heap.size + 2) w5 wF) := by show MidB _ _ _ _; subst hwF; exact ((((((((((((((MidB.refl _ _ _).set (Nat.le_refl _) (Nat.lt_succ_self _) _ _).set (Nat.le_refl _) (Nat.lt_succ_self _) _ _).set (Nat.le_refl _) (Nat.lt_succ_self _) _ _).set (Nat.le_refl _) (Nat.lt_succ_self _) _ _).set (Nat.le_refl _) (Nat.lt_succ_self _) _ _).set (Nat.le_refl _) (Nat.lt_succ_self _) _ _).set (Nat.le_refl _) (Nat.lt_succ_self _) _ _).set (Nat.le_refl _) (Nat.lt_succ_self _) _ _).set (Nat.le_refl _) (Nat.lt_succ_self _) _ _).set (Nat.le_refl _) (Nat.lt_succ_self _) _ _).set (Nat.le_refl _) (Nat.lt_succ_self _) _ _).set (Nat.le_refl _) (Nat.lt_succ_self _) _ _).set (Nat.le_refl _) (Nat.lt_succ_self _) _ _)
 clear hwF
 have h5s := HM5.out.size
 have hFs := HMM.out.size
 have hG : GrF (wi.heap.size + 2) none w2 wF := ⟨HMM.out.os.trans (HM5.out.os.trans HbO4.out.os),HMM.out.tape.trans (HM5.out.tape.trans HbO4.out.tape),HMM.out.output.trans (HM5.out.output.trans HbO4.out.output),by have := HbO4.out.size; omega,fun j h1 h2 _ => by
  have := HbO4.out.size
  rw [HMM.out.block j (by omega) (.inr (by omega)),HM5.out.block j (by omega) (.inl h2)]
  exact HbO4.out.block j h2⟩
 refine bodyPost_ret (resTickS (v := ⟨0,false,(sentL (now + k) E rn).length,rfsOf (sentL (now + k) E rn),z,x,y,wd,ht,now + k,s,n,A,rn,fun j => retE (now + k) (E j),bad⟩) (u := ⟨a1,c1,a,c,R,va,vc⟩) rfl HBk.out) rfl ⟨⟨a1,c1,a,c,R,va,vc⟩,by rw [HE.out],?_,HB4.out.trans (((HM5.out.below (by omega)).mono (by omega)).trans ((HMM.out.below (by omega)).mono (by omega)))⟩
 rw [HE.out]
 exact ⟨((HT4.out.ow.mid HM5.out (.inl (by omega))).mid HMM.out (.inl (by omega))).is (by omega),(HL2.out wF hG).ks,((HW4.out.mid HM5.out (.inl (by omega))).mid HMM.out (.inl (by omega))).is (by omega)⟩
end Go.Proofs.YtiephlohemphjaaGreat
