/- Texts. -/
import Derived.Test.YtfkonhagjahgnaaGreatWTiles9
import Derived.Test.YtfkonhagjahgnaaGreatWTiles1
import Derived.Test.YtfkonhagjahgnaaGreatWTiles11
import Derived.Test.YtfkonhagjahgnaaGreatWTiles6
import Derived.Test.YtfkonhagjahgnaaGreatWTiles10
set_option linter.unusedSimpArgs false
set_option linter.unusedVariables false
set_option maxRecDepth 100000
set_option maxHeartbeats 32000000
namespace Go.Proofs.YtfkonhagjahgnaaGreat
open Go.RowKit
theorem FeatureFault_1 (id la wi : Int) (a : Option Addr) (n cap : Nat) (X Y : Nat → Int) (lab : ByteArray) (pr : Int) (w : World) (hpt : IsPts w a n X Y) (hl : lab.size ≤ 1048576) (hn : n ≤ 1048576) :
  Calls Tryz.prog 62 #[.agg #[.int .i64 id, .int .i64 la, .int .i64 1, .int .i64 wi, .slice a n cap, .string lab, .int .i64 pr]] w fun e w' => e = .returned (.int .i64 (featC id la 1 wi n X Y lab pr)) ∧ Below w.heap.size w w' := by
 have HP : Hid (IsPts w a n X Y) := hpt
 clear hpt
 go_enter Tryz.func62,Tryz.ntmps62
 go_wp2_with fail
 generalize hW : (w.alloc _ : World) = W
 have hB0 : Below w.heap.size w W := by subst hW; (repeat (first|exact Qr _ _|assumption|refine Qd ?_|refine Qa ?_ _|refine Qt ?_|refine Qs ?_ _|refine Qo ?_ ?_ _ _))
 have c0 : ∀ W',Below W.heap.size W W' → W'.cell? ⟨w.heap.size,0,none⟩ = some (.int .i64 id) := fun W' h => by
  rw [h.cell (by subst hW; simp)]; subst hW; simp [go_sem]
 have c1 : ∀ W',Below W.heap.size W W' → W'.cell? ⟨w.heap.size,1,none⟩ = some (.int .i64 la) := fun W' h => by
  rw [h.cell (by subst hW; simp)]; subst hW; simp [go_sem]
 have c2 : ∀ W',Below W.heap.size W W' → W'.cell? ⟨w.heap.size,2,none⟩ = some (.int .i64 1) := fun W' h => by
  rw [h.cell (by subst hW; simp)]; subst hW; simp [go_sem]
 have c3 : ∀ W',Below W.heap.size W W' → W'.cell? ⟨w.heap.size,3,none⟩ = some (.int .i64 wi) := fun W' h => by
  rw [h.cell (by subst hW; simp)]; subst hW; simp [go_sem]
 have c4 : ∀ W',Below W.heap.size W W' → W'.cell? ⟨w.heap.size,4,none⟩ = some (.slice a n cap) := fun W' h => by
  rw [h.cell (by subst hW; simp)]; subst hW; simp [go_sem]
 have c5 : ∀ W',Below W.heap.size W W' → W'.cell? ⟨w.heap.size,5,none⟩ = some (.string lab) := fun W' h => by
  rw [h.cell (by subst hW; simp)]; subst hW; simp [go_sem]
 have c6 : ∀ W',Below W.heap.size W W' → W'.cell? ⟨w.heap.size,6,none⟩ = some (.int .i64 pr) := fun W' h => by
  rw [h.cell (by subst hW; simp)]; subst hW; simp [go_sem]
 clear hW
 have HB0 : Hid (Below w.heap.size w W) := hB0
 clear hB0
 refine (kindOf_1 _).mono ?_
 rintro e w1 ⟨rfl,hb1⟩
 have hB1 : Below W.heap.size W w1 := hb1
 clear hb1
 cases e0 : inB id 1 999
 ·have hz : Hid (featC id la 1 wi n X Y lab pr = 3) := by show _ = _; simp [featC,rngB,e0]
  go_wp2_with (go_at_call 42; refine (isWithin_eq _ _ _ _).mono ?_; rintro e w' ⟨rfl,rfl⟩)
  go_ret
  exact ⟨ret_int hz.out.symm,bl_then HB0.out hB1⟩
 cases e1 : inB la 0 9
 ·have hz : Hid (featC id la 1 wi n X Y lab pr = 3) := by show _ = _; simp [featC,rngB,e0,e1]
  go_wp2_with (go_at_call 42; refine (isWithin_eq _ _ _ _).mono ?_; rintro e w' ⟨rfl,rfl⟩)
  go_ret
  exact ⟨ret_int hz.out.symm,bl_then HB0.out hB1⟩
 cases e3 : inB wi 0 3
 ·have hz : Hid (featC id la 1 wi n X Y lab pr = 3) := by show _ = _; simp [featC,rngB,e0,e1,e3]
  go_wp2_with (go_at_call 42; refine (isWithin_eq _ _ _ _).mono ?_; rintro e w' ⟨rfl,rfl⟩)
  go_ret
  exact ⟨ret_int hz.out.symm,bl_then HB0.out hB1⟩
 cases e4 : inB pr 0 9
 ·have hz : Hid (featC id la 1 wi n X Y lab pr = 3) := by show _ = _; simp [featC,rngB,e0,e1,e3,e4]
  go_wp2_with (go_at_call 42; refine (isWithin_eq _ _ _ _).mono ?_; rintro e w' ⟨rfl,rfl⟩)
  go_ret
  exact ⟨ret_int hz.out.symm,bl_then HB0.out hB1⟩
 have hr : Hid (rngB id la 1 wi pr = true) := by show _ = _; simp only [rngB,e0,e1,e3,e4]; decide
 go_wp2_with (go_at_call 42; refine (isWithin_eq _ _ _ _).mono ?_; rintro e w' ⟨rfl,rfl⟩)
 refine (tellKind_1 _).mono ?_
 rintro e w2 ⟨rfl,hb2⟩
 have hB2 : Below W.heap.size W w2 := by (repeat (first|exact Qr _ _|assumption|refine Qd ?_|refine Qa ?_ _|refine Qt ?_|refine Qs ?_ _|refine Qo ?_ ?_ _ _))
 clear hb2 hB1 c0 c1 c2 c3 c6
 go_wp2_with fail
 by_cases hs1 : (n : Int) < 1
 ·have hd : decide ((n : Int) < 1) = true := decide_eq_true hs1
  have hz : Hid (featC id la 1 wi n X Y lab pr = 2) := by
   show _ = _
   have : sizeB 1 n = false := by simp [sizeB,inB]; omega
   simp [featC,hr.out,this]
  refine wp_region_noPanic ?_
  refine wp_region_held_drew (S := fun W' => Below W.heap.size W W') (by kernel_rfl) (by (repeat (first|exact Qr _ _|assumption|refine Qd ?_|refine Qa ?_ _|refine Qt ?_|refine Qs ?_ _|refine Qo ?_ ?_ _ _))) (fun hHeld => ?_)
  refine takeK (i := 0) (d := some 42) (v := ?v0) rfl rfl (Or.inl ⟨by rfl,?hy0⟩) (by assumption) ?_
  case hy0 => (intro w hSw; (try dsimp only at hSw); go_simp <;> with_reducible rfl)
  simp only [Act.put,Qx,Qy,Qz]
  refine takeK (i := 1) (d := some 43) (v := ?v1) rfl rfl (Or.inl ⟨by rfl,?hy1⟩) (by assumption) ?_
  case hy1 => (intro w hSw; (try dsimp only at hSw); go_simp <;> with_reducible rfl)
  simp only [Act.put,Qx,Qy,Qz]
  refine takeK (i := 2) (d := some 44) (v := ?v2) rfl rfl (Or.inl ⟨by rfl,?hy2⟩) (by assumption) ?_
  case hy2 => (intro w hSw; (try dsimp only at hSw); go_simp <;> with_reducible rfl)
  simp only [Act.put,Qx,Qy,Qz]
  refine takeK (i := 3) (d := some 45) (v := ?v3) rfl rfl (Or.inl ⟨by rfl,?hy3⟩) (by assumption) ?_
  case hy3 => (intro w hSw; (try dsimp only at hSw); go_simp <;> with_reducible rfl)
  simp only [Act.put,Qx,Qy,Qz]
  refine wpAnyH_ready (rs := [4]) (by kernel_rfl) (by simp) ?_
  refine AllReadyH.cons rfl (fun K hK => ?_) AllReadyH.nil
  go_simp
  refine (leastPoints_1 _).mono ?_
  rintro e w' ⟨rfl,hb⟩
  go_wp2_with fail
  refine hK.out _ _ (by (repeat (first|exact Qr _ _|assumption|refine Qd ?_|refine Qa ?_ _|refine Qt ?_|refine Qs ?_ _|refine Qo ?_ ?_ _ _))) (fun hHeld => ?_)
  clear hK K
  try simp only [Act.put,Qx,Qy,Qz]
  refine takeK (i := 5) (d := some 47) (v := ?v5) rfl rfl (Or.inl ⟨by rfl,?hy5⟩) (by assumption) ?_
  case hy5 => (intro w hSw; (try dsimp only at hSw); go_simp <;> with_reducible rfl)
  simp only [Act.put,Qx,Qy,Qz]
  refine takeK (i := 6) (d := some 48) (v := ?v6) rfl rfl (Or.inl ⟨by rfl,?hy6⟩) (by assumption) ?_
  case hy6 => (intro w hSw; (try dsimp only at hSw); go_simp <;> with_reducible rfl)
  simp only [Act.put,Qx,Qy,Qz]
  refine passK (i := 7) (d := some 49) rfl rfl (by rfl) (by assumption) ?_
  simp only [Act.put,Qx,Qy,Qz]
  refine passK (i := 8) (d := some 50) rfl rfl (by rfl) (by assumption) ?_
  simp only [Act.put,Qx,Qy,Qz]
  refine passK (i := 9) (d := some 51) rfl rfl (by rfl) (by assumption) ?_
  simp only [Act.put,Qx,Qy,Qz]
  refine passK (i := 10) (d := some 52) rfl rfl (by rfl) (by assumption) ?_
  simp only [Act.put,Qx,Qy,Qz]
  refine passK (i := 11) (d := some 53) rfl rfl (by rfl) (by assumption) ?_
  simp only [Act.put,Qx,Qy,Qz]
  refine takeK (i := 12) (d := some 54) (v := ?v12) rfl rfl (Or.inl ⟨by rfl,?hy12⟩) (by assumption) ?_
  case hy12 => (intro w hSw; (try dsimp only at hSw); go_simp <;> with_reducible rfl)
  simp only [Act.put,Qx,Qy,Qz]
  refine wpAnyH_done (by kernel_rfl) ?_ _
  refine NoPanic.normal ?_
  go_wp2
  go_ret
  exact ⟨ret_int hz.out.symm,bl_then HB0.out (by assumption)⟩
 have hd1 : decide ((n : Int) < 1) = false := decide_eq_false hs1
 have HS1 : Hid (¬ (n : Int) < 1) := hs1
 clear hs1
 by_cases hs2 : (1 : Int) < n
 ·have hd : decide ((1 : Int) < n) = true := decide_eq_true hs2
  have hz : Hid (featC id la 1 wi n X Y lab pr = 2) := by
   show _ = _
   have : sizeB 1 n = false := by simp [sizeB,inB]; omega
   simp [featC,hr.out,this]
  go_region_held3 (fun W' => Below W.heap.size W W') ((repeat (first|exact Qr _ _|assumption|refine Qd ?_|refine Qa ?_ _|refine Qt ?_|refine Qs ?_ _|refine Qo ?_ ?_ _ _)))
   (first | (go_at_call 69; refine (leastPoints_1 _).mono ?_; rintro e w' ⟨rfl,hb⟩))
  go_wp2
  go_ret
  exact ⟨ret_int hz.out.symm,bl_then HB0.out (by assumption)⟩
 have hd2 : decide ((1 : Int) < n) = false := decide_eq_false hs2
 have e5 : Hid (sizeB 1 n = true) := by show _ = _; have := HS1.out; simp [sizeB,inB]; omega
 have HS2 : Hid (¬ (1 : Int) < n) := hs2
 clear hs2
 go_region_held3 (fun W' => Below W.heap.size W W') ((repeat (first|exact Qr _ _|assumption|refine Qd ?_|refine Qa ?_ _|refine Qt ?_|refine Qs ?_ _|refine Qo ?_ ?_ _ _)))
  (first | (go_at_call 69; refine (leastPoints_1 _).mono ?_; rintro e w' ⟨rfl,hb⟩))
 go_wp2
 go_loopw [58] (fun i wr => ∃ k : Nat,k ≤ n ∧ i = .int .i64 k ∧ (∀ j,j < k → inW (X j) (Y j) = true) ∧ Below W.heap.size W wr) (fun i _ => n - (intOf i).toNat)
 case atStart => exact ⟨0,by omega,rfl,by omega,by assumption⟩
 case round =>
  obtain ⟨k,hk,rfl,hA,hB⟩ := hrel
  have HA : Hid (∀ j,j < k → inW (X j) (Y j) = true) := hA
  have HB : Hid (Below w.heap.size w wr) := bl_then HB0.out hB
  have KB : Hid (Below W.heap.size W wr) := hB
  clear hA
  by_cases hlt : k < n
  ·rcases HP.out with hz | ⟨b,off,rfl,hbl,hpt⟩
   ·omega
   have hi : (k : Int) < (n : Int) := by omega
   have hi0 : (0 : Int) ≤ (k : Int) := by omega
   obtain ⟨dx,dy⟩ := hpt.below HB.out hbl k hlt
   clear c4 c5 hB hpt hd1 hd2
   cases hq : inW (X k) (Y k)
   ·have hz : Hid (featC id la 1 wi n X Y lab pr = 3) := by show _ = _; simp [featC,hr.out,e5.out,ptsIn_bad k hlt hq]
    go_wp2_with (go_at_call 102; refine (isInWorld_any _ _ _).mono ?_; rintro e w' ⟨rfl,hb⟩)
    go_ret
    exact ⟨ret_int hz.out.symm,by have HB' := HB.out; (repeat (first|exact Qr _ _|assumption|refine Qd ?_|refine Qa ?_ _|refine Qt ?_|refine Qs ?_ _|refine Qo ?_ ?_ _ _))⟩
   ·have HI : Hid (inW (X k) (Y k) = true) := hq
    go_wp2_with (go_at_call 102; refine (isInWorld_any _ _ _).mono ?_; rintro e w' ⟨rfl,hb⟩)
    go_roundw
    case rel => exact ⟨k + 1,by omega,by go_num,fun j hj => by
      by_cases e : j = k
      ·rw [e]; exact HI.out
      ·exact HA.out j (by omega),by have KB' := KB.out; (repeat (first|exact Qr _ _|assumption|refine Qd ?_|refine Qa ?_ _|refine Qt ?_|refine Qs ?_ _|refine Qo ?_ ?_ _ _))⟩
    case measure => simp [intOf]; omega
  ·have hz : Hid (featC id la 1 wi n X Y lab pr = if labB lab = true then 0 else 5) := by
    show _ = _
    have : ptsIn n X Y = true := decide_eq_true (fun i hi => HA.out i (by omega))
    simp [featC,hr.out,e5.out,this]
   have d5 := c5 wr hB
   clear c4 c5 hd1 hd2
   cases el : labB lab
   all_goals
    go_wp2_with (go_at_call 103; refine (isLabel_any _ _ hl).mono ?_; rintro e w' ⟨rfl,hb⟩)
    go_ret
    exact ⟨ret_int (by rw [hz.out]; simp [el]),bl_then HB.out hb⟩
theorem FeatureFault_2 (id la wi : Int) (a : Option Addr) (n cap : Nat) (X Y : Nat → Int) (lab : ByteArray) (pr : Int) (w : World) (hpt : IsPts w a n X Y) (hl : lab.size ≤ 1048576) (hn : n ≤ 1048576) :
  Calls Tryz.prog 62 #[.agg #[.int .i64 id, .int .i64 la, .int .i64 2, .int .i64 wi, .slice a n cap, .string lab, .int .i64 pr]] w fun e w' => e = .returned (.int .i64 (featC id la 2 wi n X Y lab pr)) ∧ Below w.heap.size w w' := by
 have HP : Hid (IsPts w a n X Y) := hpt
 clear hpt
 go_enter Tryz.func62,Tryz.ntmps62
 go_wp2_with fail
 generalize hW : (w.alloc _ : World) = W
 have hB0 : Below w.heap.size w W := by subst hW; (repeat (first|exact Qr _ _|assumption|refine Qd ?_|refine Qa ?_ _|refine Qt ?_|refine Qs ?_ _|refine Qo ?_ ?_ _ _))
 have c0 : ∀ W',Below W.heap.size W W' → W'.cell? ⟨w.heap.size,0,none⟩ = some (.int .i64 id) := fun W' h => by
  rw [h.cell (by subst hW; simp)]; subst hW; simp [go_sem]
 have c1 : ∀ W',Below W.heap.size W W' → W'.cell? ⟨w.heap.size,1,none⟩ = some (.int .i64 la) := fun W' h => by
  rw [h.cell (by subst hW; simp)]; subst hW; simp [go_sem]
 have c2 : ∀ W',Below W.heap.size W W' → W'.cell? ⟨w.heap.size,2,none⟩ = some (.int .i64 2) := fun W' h => by
  rw [h.cell (by subst hW; simp)]; subst hW; simp [go_sem]
 have c3 : ∀ W',Below W.heap.size W W' → W'.cell? ⟨w.heap.size,3,none⟩ = some (.int .i64 wi) := fun W' h => by
  rw [h.cell (by subst hW; simp)]; subst hW; simp [go_sem]
 have c4 : ∀ W',Below W.heap.size W W' → W'.cell? ⟨w.heap.size,4,none⟩ = some (.slice a n cap) := fun W' h => by
  rw [h.cell (by subst hW; simp)]; subst hW; simp [go_sem]
 have c5 : ∀ W',Below W.heap.size W W' → W'.cell? ⟨w.heap.size,5,none⟩ = some (.string lab) := fun W' h => by
  rw [h.cell (by subst hW; simp)]; subst hW; simp [go_sem]
 have c6 : ∀ W',Below W.heap.size W W' → W'.cell? ⟨w.heap.size,6,none⟩ = some (.int .i64 pr) := fun W' h => by
  rw [h.cell (by subst hW; simp)]; subst hW; simp [go_sem]
 clear hW
 have HB0 : Hid (Below w.heap.size w W) := hB0
 clear hB0
 refine (kindOf_2 _).mono ?_
 rintro e w1 ⟨rfl,hb1⟩
 have hB1 : Below W.heap.size W w1 := hb1
 clear hb1
 cases e0 : inB id 1 999
 ·have hz : Hid (featC id la 2 wi n X Y lab pr = 3) := by show _ = _; simp [featC,rngB,e0]
  go_wp2_with (go_at_call 42; refine (isWithin_eq _ _ _ _).mono ?_; rintro e w' ⟨rfl,rfl⟩)
  go_ret
  exact ⟨ret_int hz.out.symm,bl_then HB0.out hB1⟩
 cases e1 : inB la 0 9
 ·have hz : Hid (featC id la 2 wi n X Y lab pr = 3) := by show _ = _; simp [featC,rngB,e0,e1]
  go_wp2_with (go_at_call 42; refine (isWithin_eq _ _ _ _).mono ?_; rintro e w' ⟨rfl,rfl⟩)
  go_ret
  exact ⟨ret_int hz.out.symm,bl_then HB0.out hB1⟩
 cases e3 : inB wi 0 3
 ·have hz : Hid (featC id la 2 wi n X Y lab pr = 3) := by show _ = _; simp [featC,rngB,e0,e1,e3]
  go_wp2_with (go_at_call 42; refine (isWithin_eq _ _ _ _).mono ?_; rintro e w' ⟨rfl,rfl⟩)
  go_ret
  exact ⟨ret_int hz.out.symm,bl_then HB0.out hB1⟩
 cases e4 : inB pr 0 9
 ·have hz : Hid (featC id la 2 wi n X Y lab pr = 3) := by show _ = _; simp [featC,rngB,e0,e1,e3,e4]
  go_wp2_with (go_at_call 42; refine (isWithin_eq _ _ _ _).mono ?_; rintro e w' ⟨rfl,rfl⟩)
  go_ret
  exact ⟨ret_int hz.out.symm,bl_then HB0.out hB1⟩
 have hr : Hid (rngB id la 2 wi pr = true) := by show _ = _; simp only [rngB,e0,e1,e3,e4]; decide
 go_wp2_with (go_at_call 42; refine (isWithin_eq _ _ _ _).mono ?_; rintro e w' ⟨rfl,rfl⟩)
 refine (tellKind_2 _).mono ?_
 rintro e w2 ⟨rfl,hb2⟩
 have hB2 : Below W.heap.size W w2 := by (repeat (first|exact Qr _ _|assumption|refine Qd ?_|refine Qa ?_ _|refine Qt ?_|refine Qs ?_ _|refine Qo ?_ ?_ _ _))
 clear hb2 hB1 c0 c1 c2 c3 c6
 go_wp2_with fail
 by_cases hs1 : (n : Int) < 2
 ·have hd : decide ((n : Int) < 2) = true := decide_eq_true hs1
  have hz : Hid (featC id la 2 wi n X Y lab pr = 2) := by
   show _ = _
   have : sizeB 2 n = false := by simp [sizeB,inB]; omega
   simp [featC,hr.out,this]
  refine wp_region_noPanic ?_
  refine wp_region_held_drew (S := fun W' => Below W.heap.size W W') (by kernel_rfl) (by (repeat (first|exact Qr _ _|assumption|refine Qd ?_|refine Qa ?_ _|refine Qt ?_|refine Qs ?_ _|refine Qo ?_ ?_ _ _))) (fun hHeld => ?_)
  refine takeK (i := 0) (d := some 42) (v := ?v0) rfl rfl (Or.inl ⟨by rfl,?hy0⟩) (by assumption) ?_
  case hy0 => (intro w hSw; (try dsimp only at hSw); go_simp <;> with_reducible rfl)
  simp only [Act.put,Qx,Qy,Qz]
  refine takeK (i := 1) (d := some 43) (v := ?v1) rfl rfl (Or.inl ⟨by rfl,?hy1⟩) (by assumption) ?_
  case hy1 => (intro w hSw; (try dsimp only at hSw); go_simp <;> with_reducible rfl)
  simp only [Act.put,Qx,Qy,Qz]
  refine takeK (i := 2) (d := some 44) (v := ?v2) rfl rfl (Or.inl ⟨by rfl,?hy2⟩) (by assumption) ?_
  case hy2 => (intro w hSw; (try dsimp only at hSw); go_simp <;> with_reducible rfl)
  simp only [Act.put,Qx,Qy,Qz]
  refine takeK (i := 3) (d := some 45) (v := ?v3) rfl rfl (Or.inl ⟨by rfl,?hy3⟩) (by assumption) ?_
  case hy3 => (intro w hSw; (try dsimp only at hSw); go_simp <;> with_reducible rfl)
  simp only [Act.put,Qx,Qy,Qz]
  refine wpAnyH_ready (rs := [4]) (by kernel_rfl) (by simp) ?_
  refine AllReadyH.cons rfl (fun K hK => ?_) AllReadyH.nil
  go_simp
  refine (leastPoints_2 _).mono ?_
  rintro e w' ⟨rfl,hb⟩
  go_wp2_with fail
  refine hK.out _ _ (by (repeat (first|exact Qr _ _|assumption|refine Qd ?_|refine Qa ?_ _|refine Qt ?_|refine Qs ?_ _|refine Qo ?_ ?_ _ _))) (fun hHeld => ?_)
  clear hK K
  try simp only [Act.put,Qx,Qy,Qz]
  refine takeK (i := 5) (d := some 47) (v := ?v5) rfl rfl (Or.inl ⟨by rfl,?hy5⟩) (by assumption) ?_
  case hy5 => (intro w hSw; (try dsimp only at hSw); go_simp <;> with_reducible rfl)
  simp only [Act.put,Qx,Qy,Qz]
  refine takeK (i := 6) (d := some 48) (v := ?v6) rfl rfl (Or.inl ⟨by rfl,?hy6⟩) (by assumption) ?_
  case hy6 => (intro w hSw; (try dsimp only at hSw); go_simp <;> with_reducible rfl)
  simp only [Act.put,Qx,Qy,Qz]
  refine passK (i := 7) (d := some 49) rfl rfl (by rfl) (by assumption) ?_
  simp only [Act.put,Qx,Qy,Qz]
  refine passK (i := 8) (d := some 50) rfl rfl (by rfl) (by assumption) ?_
  simp only [Act.put,Qx,Qy,Qz]
  refine passK (i := 9) (d := some 51) rfl rfl (by rfl) (by assumption) ?_
  simp only [Act.put,Qx,Qy,Qz]
  refine passK (i := 10) (d := some 52) rfl rfl (by rfl) (by assumption) ?_
  simp only [Act.put,Qx,Qy,Qz]
  refine passK (i := 11) (d := some 53) rfl rfl (by rfl) (by assumption) ?_
  simp only [Act.put,Qx,Qy,Qz]
  refine takeK (i := 12) (d := some 54) (v := ?v12) rfl rfl (Or.inl ⟨by rfl,?hy12⟩) (by assumption) ?_
  case hy12 => (intro w hSw; (try dsimp only at hSw); go_simp <;> with_reducible rfl)
  simp only [Act.put,Qx,Qy,Qz]
  refine wpAnyH_done (by kernel_rfl) ?_ _
  refine NoPanic.normal ?_
  go_wp2
  go_ret
  exact ⟨ret_int hz.out.symm,bl_then HB0.out (by assumption)⟩
 have hd1 : decide ((n : Int) < 2) = false := decide_eq_false hs1
 have HS1 : Hid (¬ (n : Int) < 2) := hs1
 clear hs1
 by_cases hs2 : (12 : Int) < n
 ·have hd : decide ((12 : Int) < n) = true := decide_eq_true hs2
  have hz : Hid (featC id la 2 wi n X Y lab pr = 2) := by
   show _ = _
   have : sizeB 2 n = false := by simp [sizeB,inB]; omega
   simp [featC,hr.out,this]
  go_region_held3 (fun W' => Below W.heap.size W W') ((repeat (first|exact Qr _ _|assumption|refine Qd ?_|refine Qa ?_ _|refine Qt ?_|refine Qs ?_ _|refine Qo ?_ ?_ _ _)))
   (first | (go_at_call 69; refine (leastPoints_2 _).mono ?_; rintro e w' ⟨rfl,hb⟩))
  go_wp2
  go_ret
  exact ⟨ret_int hz.out.symm,bl_then HB0.out (by assumption)⟩
 have hd2 : decide ((12 : Int) < n) = false := decide_eq_false hs2
 have e5 : Hid (sizeB 2 n = true) := by show _ = _; have := HS1.out; simp [sizeB,inB]; omega
 have HS2 : Hid (¬ (12 : Int) < n) := hs2
 clear hs2
 go_region_held3 (fun W' => Below W.heap.size W W') ((repeat (first|exact Qr _ _|assumption|refine Qd ?_|refine Qa ?_ _|refine Qt ?_|refine Qs ?_ _|refine Qo ?_ ?_ _ _)))
  (first | (go_at_call 69; refine (leastPoints_2 _).mono ?_; rintro e w' ⟨rfl,hb⟩))
 go_wp2
 go_loopw [58] (fun i wr => ∃ k : Nat,k ≤ n ∧ i = .int .i64 k ∧ (∀ j,j < k → inW (X j) (Y j) = true) ∧ Below W.heap.size W wr) (fun i _ => n - (intOf i).toNat)
 case atStart => exact ⟨0,by omega,rfl,by omega,by assumption⟩
 case round =>
  obtain ⟨k,hk,rfl,hA,hB⟩ := hrel
  have HA : Hid (∀ j,j < k → inW (X j) (Y j) = true) := hA
  have HB : Hid (Below w.heap.size w wr) := bl_then HB0.out hB
  have KB : Hid (Below W.heap.size W wr) := hB
  clear hA
  by_cases hlt : k < n
  ·rcases HP.out with hz | ⟨b,off,rfl,hbl,hpt⟩
   ·omega
   have hi : (k : Int) < (n : Int) := by omega
   have hi0 : (0 : Int) ≤ (k : Int) := by omega
   obtain ⟨dx,dy⟩ := hpt.below HB.out hbl k hlt
   clear c4 c5 hB hpt hd1 hd2
   cases hq : inW (X k) (Y k)
   ·have hz : Hid (featC id la 2 wi n X Y lab pr = 3) := by show _ = _; simp [featC,hr.out,e5.out,ptsIn_bad k hlt hq]
    go_wp2_with (go_at_call 102; refine (isInWorld_any _ _ _).mono ?_; rintro e w' ⟨rfl,hb⟩)
    go_ret
    exact ⟨ret_int hz.out.symm,by have HB' := HB.out; (repeat (first|exact Qr _ _|assumption|refine Qd ?_|refine Qa ?_ _|refine Qt ?_|refine Qs ?_ _|refine Qo ?_ ?_ _ _))⟩
   ·have HI : Hid (inW (X k) (Y k) = true) := hq
    go_wp2_with (go_at_call 102; refine (isInWorld_any _ _ _).mono ?_; rintro e w' ⟨rfl,hb⟩)
    go_roundw
    case rel => exact ⟨k + 1,by omega,by go_num,fun j hj => by
      by_cases e : j = k
      ·rw [e]; exact HI.out
      ·exact HA.out j (by omega),by have KB' := KB.out; (repeat (first|exact Qr _ _|assumption|refine Qd ?_|refine Qa ?_ _|refine Qt ?_|refine Qs ?_ _|refine Qo ?_ ?_ _ _))⟩
    case measure => simp [intOf]; omega
  ·have hz : Hid (featC id la 2 wi n X Y lab pr = if labB lab = true then 0 else 5) := by
    show _ = _
    have : ptsIn n X Y = true := decide_eq_true (fun i hi => HA.out i (by omega))
    simp [featC,hr.out,e5.out,this]
   have d5 := c5 wr hB
   clear c4 c5 hd1 hd2
   cases el : labB lab
   all_goals
    go_wp2_with (go_at_call 103; refine (isLabel_any _ _ hl).mono ?_; rintro e w' ⟨rfl,hb⟩)
    go_ret
    exact ⟨ret_int (by rw [hz.out]; simp [el]),bl_then HB.out hb⟩
theorem FeatureFault_3 (id la wi : Int) (a : Option Addr) (n cap : Nat) (X Y : Nat → Int) (lab : ByteArray) (pr : Int) (w : World) (hpt : IsPts w a n X Y) (hl : lab.size ≤ 1048576) (hn : n ≤ 1048576) :
  Calls Tryz.prog 62 #[.agg #[.int .i64 id, .int .i64 la, .int .i64 3, .int .i64 wi, .slice a n cap, .string lab, .int .i64 pr]] w fun e w' => e = .returned (.int .i64 (featC id la 3 wi n X Y lab pr)) ∧ Below w.heap.size w w' := by
 have HP : Hid (IsPts w a n X Y) := hpt
 clear hpt
 go_enter Tryz.func62,Tryz.ntmps62
 go_wp2_with fail
 generalize hW : (w.alloc _ : World) = W
 have hB0 : Below w.heap.size w W := by subst hW; (repeat (first|exact Qr _ _|assumption|refine Qd ?_|refine Qa ?_ _|refine Qt ?_|refine Qs ?_ _|refine Qo ?_ ?_ _ _))
 have c0 : ∀ W',Below W.heap.size W W' → W'.cell? ⟨w.heap.size,0,none⟩ = some (.int .i64 id) := fun W' h => by
  rw [h.cell (by subst hW; simp)]; subst hW; simp [go_sem]
 have c1 : ∀ W',Below W.heap.size W W' → W'.cell? ⟨w.heap.size,1,none⟩ = some (.int .i64 la) := fun W' h => by
  rw [h.cell (by subst hW; simp)]; subst hW; simp [go_sem]
 have c2 : ∀ W',Below W.heap.size W W' → W'.cell? ⟨w.heap.size,2,none⟩ = some (.int .i64 3) := fun W' h => by
  rw [h.cell (by subst hW; simp)]; subst hW; simp [go_sem]
 have c3 : ∀ W',Below W.heap.size W W' → W'.cell? ⟨w.heap.size,3,none⟩ = some (.int .i64 wi) := fun W' h => by
  rw [h.cell (by subst hW; simp)]; subst hW; simp [go_sem]
 have c4 : ∀ W',Below W.heap.size W W' → W'.cell? ⟨w.heap.size,4,none⟩ = some (.slice a n cap) := fun W' h => by
  rw [h.cell (by subst hW; simp)]; subst hW; simp [go_sem]
 have c5 : ∀ W',Below W.heap.size W W' → W'.cell? ⟨w.heap.size,5,none⟩ = some (.string lab) := fun W' h => by
  rw [h.cell (by subst hW; simp)]; subst hW; simp [go_sem]
 have c6 : ∀ W',Below W.heap.size W W' → W'.cell? ⟨w.heap.size,6,none⟩ = some (.int .i64 pr) := fun W' h => by
  rw [h.cell (by subst hW; simp)]; subst hW; simp [go_sem]
 clear hW
 have HB0 : Hid (Below w.heap.size w W) := hB0
 clear hB0
 refine (kindOf_3 _).mono ?_
 rintro e w1 ⟨rfl,hb1⟩
 have hB1 : Below W.heap.size W w1 := hb1
 clear hb1
 cases e0 : inB id 1 999
 ·have hz : Hid (featC id la 3 wi n X Y lab pr = 3) := by show _ = _; simp [featC,rngB,e0]
  go_wp2_with (go_at_call 42; refine (isWithin_eq _ _ _ _).mono ?_; rintro e w' ⟨rfl,rfl⟩)
  go_ret
  exact ⟨ret_int hz.out.symm,bl_then HB0.out hB1⟩
 cases e1 : inB la 0 9
 ·have hz : Hid (featC id la 3 wi n X Y lab pr = 3) := by show _ = _; simp [featC,rngB,e0,e1]
  go_wp2_with (go_at_call 42; refine (isWithin_eq _ _ _ _).mono ?_; rintro e w' ⟨rfl,rfl⟩)
  go_ret
  exact ⟨ret_int hz.out.symm,bl_then HB0.out hB1⟩
 cases e3 : inB wi 0 3
 ·have hz : Hid (featC id la 3 wi n X Y lab pr = 3) := by show _ = _; simp [featC,rngB,e0,e1,e3]
  go_wp2_with (go_at_call 42; refine (isWithin_eq _ _ _ _).mono ?_; rintro e w' ⟨rfl,rfl⟩)
  go_ret
  exact ⟨ret_int hz.out.symm,bl_then HB0.out hB1⟩
 cases e4 : inB pr 0 9
 ·have hz : Hid (featC id la 3 wi n X Y lab pr = 3) := by show _ = _; simp [featC,rngB,e0,e1,e3,e4]
  go_wp2_with (go_at_call 42; refine (isWithin_eq _ _ _ _).mono ?_; rintro e w' ⟨rfl,rfl⟩)
  go_ret
  exact ⟨ret_int hz.out.symm,bl_then HB0.out hB1⟩
 have hr : Hid (rngB id la 3 wi pr = true) := by show _ = _; simp only [rngB,e0,e1,e3,e4]; decide
 go_wp2_with (go_at_call 42; refine (isWithin_eq _ _ _ _).mono ?_; rintro e w' ⟨rfl,rfl⟩)
 refine (tellKind_3 _).mono ?_
 rintro e w2 ⟨rfl,hb2⟩
 have hB2 : Below W.heap.size W w2 := by (repeat (first|exact Qr _ _|assumption|refine Qd ?_|refine Qa ?_ _|refine Qt ?_|refine Qs ?_ _|refine Qo ?_ ?_ _ _))
 clear hb2 hB1 c0 c1 c2 c3 c6
 go_wp2_with fail
 by_cases hs1 : (n : Int) < 3
 ·have hd : decide ((n : Int) < 3) = true := decide_eq_true hs1
  have hz : Hid (featC id la 3 wi n X Y lab pr = 2) := by
   show _ = _
   have : sizeB 3 n = false := by simp [sizeB,inB]; omega
   simp [featC,hr.out,this]
  refine wp_region_noPanic ?_
  refine wp_region_held_drew (S := fun W' => Below W.heap.size W W') (by kernel_rfl) (by (repeat (first|exact Qr _ _|assumption|refine Qd ?_|refine Qa ?_ _|refine Qt ?_|refine Qs ?_ _|refine Qo ?_ ?_ _ _))) (fun hHeld => ?_)
  refine takeK (i := 0) (d := some 42) (v := ?v0) rfl rfl (Or.inl ⟨by rfl,?hy0⟩) (by assumption) ?_
  case hy0 => (intro w hSw; (try dsimp only at hSw); go_simp <;> with_reducible rfl)
  simp only [Act.put,Qx,Qy,Qz]
  refine takeK (i := 1) (d := some 43) (v := ?v1) rfl rfl (Or.inl ⟨by rfl,?hy1⟩) (by assumption) ?_
  case hy1 => (intro w hSw; (try dsimp only at hSw); go_simp <;> with_reducible rfl)
  simp only [Act.put,Qx,Qy,Qz]
  refine takeK (i := 2) (d := some 44) (v := ?v2) rfl rfl (Or.inl ⟨by rfl,?hy2⟩) (by assumption) ?_
  case hy2 => (intro w hSw; (try dsimp only at hSw); go_simp <;> with_reducible rfl)
  simp only [Act.put,Qx,Qy,Qz]
  refine takeK (i := 3) (d := some 45) (v := ?v3) rfl rfl (Or.inl ⟨by rfl,?hy3⟩) (by assumption) ?_
  case hy3 => (intro w hSw; (try dsimp only at hSw); go_simp <;> with_reducible rfl)
  simp only [Act.put,Qx,Qy,Qz]
  refine wpAnyH_ready (rs := [4]) (by kernel_rfl) (by simp) ?_
  refine AllReadyH.cons rfl (fun K hK => ?_) AllReadyH.nil
  go_simp
  refine (leastPoints_3 _).mono ?_
  rintro e w' ⟨rfl,hb⟩
  go_wp2_with fail
  refine hK.out _ _ (by (repeat (first|exact Qr _ _|assumption|refine Qd ?_|refine Qa ?_ _|refine Qt ?_|refine Qs ?_ _|refine Qo ?_ ?_ _ _))) (fun hHeld => ?_)
  clear hK K
  try simp only [Act.put,Qx,Qy,Qz]
  refine takeK (i := 5) (d := some 47) (v := ?v5) rfl rfl (Or.inl ⟨by rfl,?hy5⟩) (by assumption) ?_
  case hy5 => (intro w hSw; (try dsimp only at hSw); go_simp <;> with_reducible rfl)
  simp only [Act.put,Qx,Qy,Qz]
  refine takeK (i := 6) (d := some 48) (v := ?v6) rfl rfl (Or.inl ⟨by rfl,?hy6⟩) (by assumption) ?_
  case hy6 => (intro w hSw; (try dsimp only at hSw); go_simp <;> with_reducible rfl)
  simp only [Act.put,Qx,Qy,Qz]
  refine passK (i := 7) (d := some 49) rfl rfl (by rfl) (by assumption) ?_
  simp only [Act.put,Qx,Qy,Qz]
  refine passK (i := 8) (d := some 50) rfl rfl (by rfl) (by assumption) ?_
  simp only [Act.put,Qx,Qy,Qz]
  refine passK (i := 9) (d := some 51) rfl rfl (by rfl) (by assumption) ?_
  simp only [Act.put,Qx,Qy,Qz]
  refine passK (i := 10) (d := some 52) rfl rfl (by rfl) (by assumption) ?_
  simp only [Act.put,Qx,Qy,Qz]
  refine passK (i := 11) (d := some 53) rfl rfl (by rfl) (by assumption) ?_
  simp only [Act.put,Qx,Qy,Qz]
  refine takeK (i := 12) (d := some 54) (v := ?v12) rfl rfl (Or.inl ⟨by rfl,?hy12⟩) (by assumption) ?_
  case hy12 => (intro w hSw; (try dsimp only at hSw); go_simp <;> with_reducible rfl)
  simp only [Act.put,Qx,Qy,Qz]
  refine wpAnyH_done (by kernel_rfl) ?_ _
  refine NoPanic.normal ?_
  go_wp2
  go_ret
  exact ⟨ret_int hz.out.symm,bl_then HB0.out (by assumption)⟩
 have hd1 : decide ((n : Int) < 3) = false := decide_eq_false hs1
 have HS1 : Hid (¬ (n : Int) < 3) := hs1
 clear hs1
 by_cases hs2 : (12 : Int) < n
 ·have hd : decide ((12 : Int) < n) = true := decide_eq_true hs2
  have hz : Hid (featC id la 3 wi n X Y lab pr = 2) := by
   show _ = _
   have : sizeB 3 n = false := by simp [sizeB,inB]; omega
   simp [featC,hr.out,this]
  go_region_held3 (fun W' => Below W.heap.size W W') ((repeat (first|exact Qr _ _|assumption|refine Qd ?_|refine Qa ?_ _|refine Qt ?_|refine Qs ?_ _|refine Qo ?_ ?_ _ _)))
   (first | (go_at_call 69; refine (leastPoints_3 _).mono ?_; rintro e w' ⟨rfl,hb⟩))
  go_wp2
  go_ret
  exact ⟨ret_int hz.out.symm,bl_then HB0.out (by assumption)⟩
 have hd2 : decide ((12 : Int) < n) = false := decide_eq_false hs2
 have e5 : Hid (sizeB 3 n = true) := by show _ = _; have := HS1.out; simp [sizeB,inB]; omega
 have HS2 : Hid (¬ (12 : Int) < n) := hs2
 clear hs2
 go_region_held3 (fun W' => Below W.heap.size W W') ((repeat (first|exact Qr _ _|assumption|refine Qd ?_|refine Qa ?_ _|refine Qt ?_|refine Qs ?_ _|refine Qo ?_ ?_ _ _)))
  (first | (go_at_call 69; refine (leastPoints_3 _).mono ?_; rintro e w' ⟨rfl,hb⟩))
 go_wp2
 go_loopw [58] (fun i wr => ∃ k : Nat,k ≤ n ∧ i = .int .i64 k ∧ (∀ j,j < k → inW (X j) (Y j) = true) ∧ Below W.heap.size W wr) (fun i _ => n - (intOf i).toNat)
 case atStart => exact ⟨0,by omega,rfl,by omega,by assumption⟩
 case round =>
  obtain ⟨k,hk,rfl,hA,hB⟩ := hrel
  have HA : Hid (∀ j,j < k → inW (X j) (Y j) = true) := hA
  have HB : Hid (Below w.heap.size w wr) := bl_then HB0.out hB
  have KB : Hid (Below W.heap.size W wr) := hB
  clear hA
  by_cases hlt : k < n
  ·rcases HP.out with hz | ⟨b,off,rfl,hbl,hpt⟩
   ·omega
   have hi : (k : Int) < (n : Int) := by omega
   have hi0 : (0 : Int) ≤ (k : Int) := by omega
   obtain ⟨dx,dy⟩ := hpt.below HB.out hbl k hlt
   clear c4 c5 hB hpt hd1 hd2
   cases hq : inW (X k) (Y k)
   ·have hz : Hid (featC id la 3 wi n X Y lab pr = 3) := by show _ = _; simp [featC,hr.out,e5.out,ptsIn_bad k hlt hq]
    go_wp2_with (go_at_call 102; refine (isInWorld_any _ _ _).mono ?_; rintro e w' ⟨rfl,hb⟩)
    go_ret
    exact ⟨ret_int hz.out.symm,by have HB' := HB.out; (repeat (first|exact Qr _ _|assumption|refine Qd ?_|refine Qa ?_ _|refine Qt ?_|refine Qs ?_ _|refine Qo ?_ ?_ _ _))⟩
   ·have HI : Hid (inW (X k) (Y k) = true) := hq
    go_wp2_with (go_at_call 102; refine (isInWorld_any _ _ _).mono ?_; rintro e w' ⟨rfl,hb⟩)
    go_roundw
    case rel => exact ⟨k + 1,by omega,by go_num,fun j hj => by
      by_cases e : j = k
      ·rw [e]; exact HI.out
      ·exact HA.out j (by omega),by have KB' := KB.out; (repeat (first|exact Qr _ _|assumption|refine Qd ?_|refine Qa ?_ _|refine Qt ?_|refine Qs ?_ _|refine Qo ?_ ?_ _ _))⟩
    case measure => simp [intOf]; omega
  ·have hz : Hid (featC id la 3 wi n X Y lab pr = if labB lab = true then 0 else 5) := by
    show _ = _
    have : ptsIn n X Y = true := decide_eq_true (fun i hi => HA.out i (by omega))
    simp [featC,hr.out,e5.out,this]
   have d5 := c5 wr hB
   clear c4 c5 hd1 hd2
   cases el : labB lab
   all_goals
    go_wp2_with (go_at_call 103; refine (isLabel_any _ _ hl).mono ?_; rintro e w' ⟨rfl,hb⟩)
    go_ret
    exact ⟨ret_int (by rw [hz.out]; simp [el]),bl_then HB.out hb⟩
theorem FeatureFault_no (id la ki wi : Int) (a : Option Addr) (n cap : Nat) (X Y : Nat → Int) (lab : ByteArray) (pr : Int) (w : World) (hpt : IsPts w a n X Y) (hl : lab.size ≤ 1048576) (hn : n ≤ 1048576) (k1 : ki ≠ 1) (k2 : ki ≠ 2) (k3 : ki ≠ 3) :
  Calls Tryz.prog 62 #[.agg #[.int .i64 id, .int .i64 la, .int .i64 ki, .int .i64 wi, .slice a n cap, .string lab, .int .i64 pr]] w fun e w' => e = .returned (.int .i64 (featC id la ki wi n X Y lab pr)) ∧ Below w.heap.size w w' := by
 have HP : Hid (IsPts w a n X Y) := hpt
 clear hpt
 go_enter Tryz.func62,Tryz.ntmps62
 go_wp2_with fail
 generalize hW : (w.alloc _ : World) = W
 have hB0 : Below w.heap.size w W := by subst hW; (repeat (first|exact Qr _ _|assumption|refine Qd ?_|refine Qa ?_ _|refine Qt ?_|refine Qs ?_ _|refine Qo ?_ ?_ _ _))
 have c0 : ∀ W',Below W.heap.size W W' → W'.cell? ⟨w.heap.size,0,none⟩ = some (.int .i64 id) := fun W' h => by
  rw [h.cell (by subst hW; simp)]; subst hW; simp [go_sem]
 have c1 : ∀ W',Below W.heap.size W W' → W'.cell? ⟨w.heap.size,1,none⟩ = some (.int .i64 la) := fun W' h => by
  rw [h.cell (by subst hW; simp)]; subst hW; simp [go_sem]
 have c2 : ∀ W',Below W.heap.size W W' → W'.cell? ⟨w.heap.size,2,none⟩ = some (.int .i64 ki) := fun W' h => by
  rw [h.cell (by subst hW; simp)]; subst hW; simp [go_sem]
 have c3 : ∀ W',Below W.heap.size W W' → W'.cell? ⟨w.heap.size,3,none⟩ = some (.int .i64 wi) := fun W' h => by
  rw [h.cell (by subst hW; simp)]; subst hW; simp [go_sem]
 have c4 : ∀ W',Below W.heap.size W W' → W'.cell? ⟨w.heap.size,4,none⟩ = some (.slice a n cap) := fun W' h => by
  rw [h.cell (by subst hW; simp)]; subst hW; simp [go_sem]
 have c5 : ∀ W',Below W.heap.size W W' → W'.cell? ⟨w.heap.size,5,none⟩ = some (.string lab) := fun W' h => by
  rw [h.cell (by subst hW; simp)]; subst hW; simp [go_sem]
 have c6 : ∀ W',Below W.heap.size W W' → W'.cell? ⟨w.heap.size,6,none⟩ = some (.int .i64 pr) := fun W' h => by
  rw [h.cell (by subst hW; simp)]; subst hW; simp [go_sem]
 clear hW
 have HB0 : Hid (Below w.heap.size w W) := hB0
 clear hB0
 have hz : Hid (featC id la ki wi n X Y lab pr = 3) := by
  show _ = _
  have : inB ki 1 3 = false := by simp [inB]; omega
  simp [featC,rngB,this]
 refine (kindOf_no ki _ k1 k2 k3).mono ?_
 rintro e w1 ⟨rfl,hb1⟩
 have hB1 : Below W.heap.size W w1 := hb1
 clear hb1 k1 k2 k3
 go_wp2
 go_ret
 exact ⟨ret_int hz.out.symm,bl_then HB0.out hB1⟩
theorem FeatureFault_any (id la ki wi : Int) (a : Option Addr) (n cap : Nat) (X Y : Nat → Int) (lab : ByteArray) (pr : Int) (w : World) (hpt : IsPts w a n X Y) (hl : lab.size ≤ 1048576) (hn : n ≤ 1048576) :
  Calls Tryz.prog 62 #[.agg #[.int .i64 id, .int .i64 la, .int .i64 ki, .int .i64 wi, .slice a n cap, .string lab, .int .i64 pr]] w fun e w' => e = .returned (.int .i64 (featC id la ki wi n X Y lab pr)) ∧ Below w.heap.size w w' := by
 by_cases k1 : ki = 1
 ·subst k1; exact FeatureFault_1 id la wi a n cap X Y lab pr w hpt hl hn
 by_cases k2 : ki = 2
 ·subst k2; exact FeatureFault_2 id la wi a n cap X Y lab pr w hpt hl hn
 by_cases k3 : ki = 3
 ·subst k3; exact FeatureFault_3 id la wi a n cap X Y lab pr w hpt hl hn
 exact FeatureFault_no id la ki wi a n cap X Y lab pr w hpt hl hn k1 k2 k3
theorem impl_CentreOf_any (z x y : Int) (w : World) : Calls Tryz.prog 27 #[.int .i64 z, .int .i64 x, .int .i64 y] w fun e w' => e = .returned (centV z x y) ∧ Below w.heap.size w w' := by
 go_enter Tryz.func27,Tryz.ntmps27
 go_wp2_with fail
 generalize hW : (w.alloc _ : World) = W
 have HB0 : Hid (Below w.heap.size w W) := by show Below _ _ _; subst hW; (repeat (first|exact Qr _ _|assumption|refine Qd ?_|refine Qa ?_ _|refine Qt ?_|refine Qs ?_ _|refine Qo ?_ ?_ _ _))
 have HT : Hid (There W w.heap.size 3) := by
  show There _ _ _
  subst hW
  exact there3 w (.int .i64 0) (.int .i64 0) (.int .i64 0) 69
 have hsz : w.heap.size < W.heap.size := by subst hW; simp
 clear hW
 refine (isPixel_any _ _ _ _).mono ?_
 rintro e w1 ⟨rfl,hb1⟩
 have HT1 : Hid (There w1 w.heap.size 3) := HT.out.below hb1
 have HB1 : Hid (Below w.heap.size w w1) := bl_then HB0.out hb1
 have hsz1 : w.heap.size < w1.heap.size := Nat.lt_of_lt_of_le hsz hb1.size
 clear hb1 HT HB0
 cases h : pixB z x y
 ·have hT' := HT1.out
  have t0 := hT'.cell 0 (by omega)
  have t1 := hT'.cell 1 (by omega)
  have t2 := hT'.cell 2 (by omega)
  have f0 := (hT' 0 (by omega)).2
  have f1 := (hT' 1 (by omega)).2
  have f2 := (hT' 2 (by omega)).2
  clear hT'
  go_wp2_with fail
  obtain ⟨q0,q1,q2⟩ := set3_at (a := .int .i64 3) (b := .int .i64 0) (c := .int .i64 0) HT1.out
  refine bodyPost_ret (v := .agg #[.int .i64 3, .int .i64 0, .int .i64 0]) (by simp [results,Tryz.results27,go_sem,q0,q1,q2]) rfl ⟨by simp [centV,h],?_⟩
  have HB := HB1.out
  (repeat (first|exact Qr _ _|assumption|refine Qd ?_|refine Qa ?_ _|refine Qt ?_|refine Qs ?_ _|refine Qo ?_ ?_ _ _))
 ·have hz := pixB_zoom h
  have hb := pixB_in h
  have s1 := fun w => impl_UnitAt_any z w
  have hv : unitV z = .agg #[.int .i64 0, .int .i64 (unitI z)] := by simp [unitV,hz]
  simp only [hv] at s1
  have i1 : ∀ u w,(Instr.field 43 (.agg #[.int .i64 0, .int .i64 u]) 1).run Tryz.prog w = .ok (.int .i64 u) w := fun _ _ => by kernel_rfl
  have hc : Hid (centV z x y = .agg #[.int .i64 0, .int .i64 (centI z x), .int .i64 (centI z y)]) := by show _ = _; simp [centV,h]
  have hcx : centI z x = (2 * x + 1) * unitI z := rfl
  have hcy : centI z y = (2 * y + 1) * unitI z := rfl
  have hbd : unitI z = 128 ∨ unitI z = 64 ∨ unitI z = 32 ∨ unitI z = 16 := by rcases zoomB_cases hz with rfl | rfl | rfl | rfl <;> simp [unitI]
  have hpb := (pixI_bd hz).2
  go_wp2_with fail
  refine (s1 _).mono ?_
  rintro e w2 ⟨rfl,hb2⟩
  generalize unitI z = u at *
  generalize pixI z = m at *
  have hT' := HT1.out.below hb2
  have HT2 : Hid (There w2 w.heap.size 3) := hT'
  have t0 := hT'.cell 0 (by omega)
  have t1 := hT'.cell 1 (by omega)
  have t2 := hT'.cell 2 (by omega)
  have f0 := (hT' 0 (by omega)).2
  have f1 := (hT' 1 (by omega)).2
  have f2 := (hT' 2 (by omega)).2
  have HB2 : Hid (Below w.heap.size w w2) := bl_then HB1.out hb2
  have hsz2 : w.heap.size < w2.heap.size := Nat.lt_of_lt_of_le hsz1 hb2.size
  clear hT' hb2
  rcases hbd with rfl | rfl | rfl | rfl
  all_goals
   go_wp2_with fail
   obtain ⟨q0,q1,q2⟩ := set3_at (a := .int .i64 0) (b := .int .i64 (centI z x)) (c := .int .i64 (centI z y)) HT2.out
   rw [hcx,hcy] at q0 q1 q2
   refine bodyPost_ret (v := .agg #[.int .i64 0, .int .i64 (centI z x), .int .i64 (centI z y)]) (by simp [results,Tryz.results27,go_sem,q0,q1,q2,hcx,hcy]) rfl ⟨by rw [hc.out],?_⟩
   have HB := HB2.out
   (repeat (first|exact Qr _ _|assumption|refine Qd ?_|refine Qa ?_ _|refine Qt ?_|refine Qs ?_ _|refine Qo ?_ ?_ _ _))

theorem mnTo_le (X : Nat → Int) : ∀ n i,i < n → mnTo X n ≤ X i
 | 0,i,h => absurd h (by omega)
 | n + 1,i,h => by
  rw [mnTo]
  unfold mnI
  by_cases e : i = n
  ·subst e; split <;> omega
  ·have := mnTo_le X n i (by omega)
   split <;> omega
theorem le_mxTo (X : Nat → Int) : ∀ n i,i < n → X i ≤ mxTo X n
 | 0,i,h => absurd h (by omega)
 | n + 1,i,h => by
  rw [mxTo]
  unfold mxI
  by_cases e : i = n
  ·subst e; split <;> omega
  ·have := le_mxTo X n i (by omega)
   split <;> omega
theorem cross_left {px py ax ay bx by' : Int} (h1 : px < ax) (h2 : px < bx) (h3 : ay ≤ py) (h4 : py < by') : 0 < crossI ax ay bx by' px py := by
 rw [cross_as]
 have p1 : 0 ≤ (py - ay) * (bx - px) := Int.mul_nonneg (by omega) (by omega)
 have p2 : 0 < (by' - py) * (ax - px) := Int.mul_pos (by omega) (by omega)
 omega
theorem cross_right {px py ax ay bx by' : Int} (h1 : ax < px) (h2 : bx < px) (h3 : ay ≤ py) (h4 : py < by') : crossI ax ay bx by' px py < 0 := by
 rw [cross_as]
 have p1 : 0 ≤ (py - ay) * (px - bx) := Int.mul_nonneg (by omega) (by omega)
 have p2 : 0 < (by' - py) * (px - ax) := Int.mul_pos (by omega) (by omega)
 have e1 : (py - ay) * (bx - px) = -((py - ay) * (px - bx)) := by rw [← Int.mul_neg]; congr 1; omega
 have e2 : (by' - py) * (ax - px) = -((by' - py) * (px - ax)) := by rw [← Int.mul_neg]; congr 1; omega
 omega
theorem side_left {px py ax ay bx by' : Int} (h1 : px < ax) (h2 : px < bx) : sideB px py ax ay bx by' = (decide (py < ay) != decide (py < by')) := by
 rcases Int.lt_or_le by' ay with h | h
 ·rw [side_down h]
  by_cases h3 : by' ≤ py
  ·by_cases h4 : py < ay
   ·have hc := cross_left h2 h1 h3 h4
    have h5 : ¬ py < by' := by omega
    simp [h3,h4,h5,hc]
   ·have h5 : ¬ py < by' := by omega
    simp [h4,h5]
  ·have h5 : py < by' := by omega
   have h6 : py < ay := by omega
   simp [h3,h5,h6]
 ·rw [side_up h]
  by_cases h3 : ay ≤ py
  ·by_cases h4 : py < by'
   ·have hc := cross_left h1 h2 h3 h4
    have h5 : ¬ py < ay := by omega
    simp [h3,h4,h5,hc]
   ·have h5 : ¬ py < ay := by omega
    simp [h4,h5]
  ·have h5 : py < ay := by omega
   have h6 : py < by' := by omega
   simp [h3,h5,h6]
theorem side_right {px py ax ay bx by' : Int} (h1 : ax < px) (h2 : bx < px) : sideB px py ax ay bx by' = false := by
 rcases Int.lt_or_le by' ay with h | h
 ·rw [side_down h]
  by_cases h3 : by' ≤ py
  ·by_cases h4 : py < ay
   ·have hc := cross_right h2 h1 h3 h4
    have h5 : ¬ 0 < crossI bx by' ax ay px py := by omega
    simp [h5]
   ·simp [h4]
  ·simp [h3]
 ·rw [side_up h]
  by_cases h3 : ay ≤ py
  ·by_cases h4 : py < by'
   ·have hc := cross_right h1 h2 h3 h4
    have h5 : ¬ 0 < crossI ax ay bx by' px py := by omega
    simp [h5]
   ·simp [h4]
  ·simp [h3]
theorem side_apart {px py ax ay bx by' : Int} (h : decide (py < ay) = decide (py < by')) : sideB px py ax ay bx by' = false := by
 unfold sideB
 simp [h]
theorem inside_box {px py : Int} {n : Nat} {X Y : Nat → Int} (h : insideB px py n X Y = true) : mnTo X n ≤ px ∧ px ≤ mxTo X n ∧ mnTo Y n ≤ py ∧ py ≤ mxTo Y n := by
 unfold insideB at h
 simp only [Bool.and_eq_true,decide_eq_true_eq] at h
 obtain ⟨_,h3,_,_,ho⟩ := h
 have hn : 0 < n := by omega
 have hm : ∀ i,i < n → (i + 1) % n < n := fun i _ => Nat.mod_lt _ hn
 have no : ∀ f : Nat → Bool,(∀ i,i < n → sideAt px py n X Y i = f i) → oddTo f n = false → False := fun f hf h0 => by
  rw [oddTo_congr n hf,h0] at ho
  cases ho
 refine ⟨?_,?_,?_,?_⟩
 ·refine Int.not_lt.1 fun hc => no (fun i => decide (py < Y i) != decide (py < Y ((i + 1) % n))) (fun i hi => ?_) (oddTo_round (fun i => decide (py < Y i)) n hn)
  have a1 := mnTo_le X n i hi
  have a2 := mnTo_le X n _ (hm i hi)
  exact side_left (by omega) (by omega)
 ·refine Int.not_lt.1 fun hc => no (fun _ => false) (fun i hi => ?_) (oddTo_none n fun _ _ => rfl)
  have a1 := le_mxTo X n i hi
  have a2 := le_mxTo X n _ (hm i hi)
  exact side_right (by omega) (by omega)
 ·refine Int.not_lt.1 fun hc => no (fun _ => false) (fun i hi => ?_) (oddTo_none n fun _ _ => rfl)
  have a1 := mnTo_le Y n i hi
  have a2 := mnTo_le Y n _ (hm i hi)
  exact side_apart (by rw [decide_eq_true (show py < Y i by omega),decide_eq_true (show py < Y ((i + 1) % n) by omega)])
 ·refine Int.not_lt.1 fun hc => no (fun _ => false) (fun i hi => ?_) (oddTo_none n fun _ _ => rfl)
  have a1 := le_mxTo Y n i hi
  have a2 := le_mxTo Y n _ (hm i hi)
  exact side_apart (by rw [decide_eq_false (show ¬ py < Y i by omega),decide_eq_false (show ¬ py < Y ((i + 1) % n) by omega)])
end Go.Proofs.YtfkonhagjahgnaaGreat
