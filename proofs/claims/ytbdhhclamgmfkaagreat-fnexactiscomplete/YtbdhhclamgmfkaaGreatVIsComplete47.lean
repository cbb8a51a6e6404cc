/- Several texts in one. -/
import Derived.Test.YtbdhhclamgmfkaaGreatVIsComplete46
import Derived.Test.YtbdhhclamgmfkaaGreatVIsComplete28
import Derived.Test.YtbdhhclamgmfkaaGreatVIsComplete34
import Derived.Test.YtbdhhclamgmfkaaGreatVIsComplete26

/- The looker of a viewer; ViewerFault of the program. -/

namespace Go.Proofs.YtbdhhclamgmfkaaGreat
open Go.RowKit
set_option linter.unusedSimpArgs false
set_option linter.unusedVariables false
set_option maxRecDepth 100000

/-- A looker: ten cells, and its shelf. -/
def LkA (w : World) (B p : Nat) (z x y wd ht now s : Int) (n : Nat) (A : Nat → Kp) (ra : Option Addr) (rn rc : Nat) (bad : Int) : Prop := B ≤ p ∧ ∃ sp, Blk w p [.int .i64 z, .int .i64 x, .int .i64 y, .int .i64 wd, .int .i64 ht, .int .i64 now, .pointer (some ⟨sp, 0, none⟩), .slice ra rn rc, .int .i64 bad, .slice none 0 0] ∧ ShK w B sp s n A ∧ sp ≠ p
theorem or2_zero {a b : Int} (h : or2 a b = 0) : a = 0 ∧ b = 0 := by
  unfold or2 at h
  split at h
  · rename_i h0; exact ⟨h0, h⟩
  · rename_i h0; exact absurd h h0
theorem or3_zero {a b c : Int} (h : or3 a b c = 0) : a = 0 ∧ b = 0 ∧ c = 0 := by
  unfold or3 at h
  by_cases h1 : a = 0
  · rw [if_pos h1] at h
    by_cases h2 : b = 0
    · rw [if_pos h2] at h; exact ⟨h1, h2, h⟩
    · rw [if_neg h2] at h; exact absurd h h2
  · rw [if_neg h1] at h; exact absurd h h1
/-- The first two codes of a viewer. -/
theorem viewC_first {z x y wd ht now s : Int} {n : Nat} {K : Nat → Kp} {rn : Nat} {E : Nat → Req} {bad : Int} (h : or2 (camC z x y wd ht) (cntC now bad) ≠ 0) : viewC z x y wd ht now s n K rn E bad = or2 (camC z x y wd ht) (cntC now bad) := by
  unfold viewC or2 at *
  by_cases h1 : camC z x y wd ht = 0
  · rw [if_pos h1, if_pos h1]
    rw [if_pos h1] at h
    unfold cntC at *
    by_cases h2 : inV now bad = true
    · rw [if_pos h2] at h; exact absurd rfl h
    · rw [if_neg h2, if_neg h2]
  · rw [if_neg h1, if_neg h1]
theorem viewC_second {z x y wd ht now s : Int} {n : Nat} {K : Nat → Kp} {rn : Nat} {E : Nat → Req} {bad : Int} (h : or2 (camC z x y wd ht) (cntC now bad) = 0) (h2 : or3 (cacheC s n K) (if s < 4 then 3 else 0) (reqsC rn E) ≠ 0) : viewC z x y wd ht now s n K rn E bad = or3 (cacheC s n K) (if s < 4 then 3 else 0) (reqsC rn E) := by
  obtain ⟨h0, h1⟩ := or2_zero h
  have hi : inV now bad = true := by
    unfold cntC at h1
    by_cases h : inV now bad = true
    · exact h
    · rw [if_neg h] at h1; cases h1
  unfold viewC or3 at *
  rw [if_pos h0, if_pos hi]
  by_cases h3 : cacheC s n K = 0
  · rw [if_pos h3, if_pos h3]
    rw [if_pos h3] at h2
    by_cases h4 : s < 4
    · simp [h4]
    · simp [h4] at h2 ⊢
      intro h; exact absurd h h2
  · rw [if_neg h3, if_neg h3]
theorem viewC_third {z x y wd ht now s : Int} {n : Nat} {K : Nat → Kp} {rn : Nat} {E : Nat → Req} {bad : Int} (h : or2 (camC z x y wd ht) (cntC now bad) = 0) (h2 : or3 (cacheC s n K) (if s < 4 then 3 else 0) (reqsC rn E) = 0) : viewC z x y wd ht now s n K rn E bad = scanC (strC z x y wd ht n K E) 0 rn := by
  obtain ⟨h0, h1⟩ := or2_zero h
  obtain ⟨h3, h4, h5⟩ := or3_zero h2
  have hi : inV now bad = true := by
    unfold cntC at h1
    by_cases h : inV now bad = true
    · exact h
    · rw [if_neg h] at h1; cases h1
  have h4' : ¬ s < 4 := fun h => by rw [if_pos h] at h4; cases h4
  unfold viewC
  rw [if_pos h0, if_pos hi, if_pos h3, if_neg h4', if_pos h5]
set_option maxHeartbeats 8000000 in
theorem lookerOf_any (z x y wd ht now s : Int) (b n cap : Nat) (A : Nat → Kp) (ra : Option Addr) (rn rc : Nat) (E : Nat → Req) (bad VC : Int) (w : World) (hVC : viewC z x y wd ht now s n A rn E bad = VC) (ha : KoAt w b n A) (hs : SmallKs n A) (hcap : ∀ i, i < n → (A i).fn ≤ (A i).fc) (hnc : n ≤ cap) (hr : IsWs w ra rn E) (hrn : rn ≤ 1048576) (hrc : rn ≤ rc) :
    Calls Tryz.prog 29 #[vwV z x y wd ht now s (.slice (some ⟨b, 0, none⟩) n cap) (.slice ra rn rc) bad] w fun e w' => ∃ p, e = .returned (.tuple #[.pointer (some ⟨p, 0, none⟩), .int .i64 VC]) ∧ Below w.heap.size w w' ∧ (VC = 0 → LkA w' w.heap.size p z x y wd ht now s n A ra rn rc bad) := by
  have HVC : Hid (viewC z x y wd ht now s n A rn E bad = VC) := hVC
  have HR : Hid (IsWs w ra rn E) := hr
  have HSh : Hid (∀ W, Below w.heap.size w W → Calls Tryz.prog 57 #[caV s (.slice (some ⟨b, 0, none⟩) n cap)] W fun e w' => ∃ p, e = .returned (.tuple #[.pointer (some ⟨p, 0, none⟩), .int .i64 (cacheC s n A)]) ∧ Below W.heap.size W w' ∧ (cacheC s n A = 0 → ShK w' W.heap.size p s n A)) := fun W h => shelfOf_any s b n cap A W (ha.below h) hs hcap hnc
  have HRq : Hid (∀ W, Below w.heap.size w W → Calls Tryz.prog 59 #[.slice ra rn rc] W fun e w' => e = .returned (.int .i64 (reqsC rn E)) ∧ Below W.heap.size W w') := fun W h => impl_RequestsFault_any ra rn rc E W (HR.out.below h) hrn hrc
  clear hVC ha hs hcap hnc hr
  go_enter Tryz.func29, Tryz.ntmps29
  go_wp2_with fail
  generalize hW : ((w.alloc _).alloc _ : World) = W
  have HB0 : Hid (Below w.heap.size w W) := by show Below _ _ _; subst hW; (repeat (first | exact Below.refl _ _ | assumption | refine Below.drew ?_ | refine bl_alloc ?_ _ | refine bl_then ?_ (by assumption) | refine Below.setCell ?_ (by first | omega | (simp; done) | (simp; omega)) _ | refine bl_store ?_ ?_ _ _))
  have HV : Hid (Blk W w.heap.size [.int .i64 z, .int .i64 x, .int .i64 y, .int .i64 wd, .int .i64 ht, .int .i64 now, .int .i64 s, .slice (some ⟨b, 0, none⟩) n cap, .slice ra rn rc, .int .i64 bad]) := by show Blk _ _ _; subst hW; exact (Blk.new w _ _).alloc (by simp) _
  have HL : Hid (Blk W (w.heap.size + 1) [.int .i64 z, .int .i64 x, .int .i64 y, .int .i64 wd, .int .i64 ht, .int .i64 now, .pointer none, .slice ra rn rc, .int .i64 bad, .slice none 0 0]) := by
    show Blk _ _ _; subst hW
    have := Blk.new (w.alloc (.cells #[.int .i64 z, .int .i64 x, .int .i64 y, .int .i64 wd, .int .i64 ht, .int .i64 now, .int .i64 s, .slice (some ⟨b, 0, none⟩) n cap, .slice ra rn rc, .int .i64 bad] 41)) [.int .i64 z, .int .i64 x, .int .i64 y, .int .i64 wd, .int .i64 ht, .int .i64 now, .pointer none, .slice ra rn rc, .int .i64 bad, .slice none 0 0] 99
    simpa using this
  have hvl : w.heap.size < W.heap.size := HV.out.lt
  have hll : w.heap.size + 1 < W.heap.size := HL.out.lt
  clear hW
  refine (camFault_any z x y wd ht W).mono ?_
  rintro e w1 ⟨rfl, hb1⟩
  have HB1 : Hid (Below W.heap.size W w1) := hb1
  have HCt : Hid (Calls Tryz.prog 56 #[.pointer (some ⟨w.heap.size + 1, 0, none⟩)] w1 fun e w' => e = .returned (.int .i64 (cntC now bad)) ∧ Below w1.heap.size w1 w') := countsFault_any _ now bad w1 ((HL.out.below hll hb1).cell 5 rfl) ((HL.out.below hll hb1).cell 8 rfl)
  clear hb1
  go_wp2_with fail
  refine Calls.mono HCt.out ?_
  rintro e w2 ⟨rfl, hb2⟩
  have HB2 : Hid (Below W.heap.size W w2) := bl_then HB1.out hb2
  clear hb2 HCt HB1
  go_wp2_with fail
  generalize hw3 : (w2.alloc _ : World) = w3
  have HB3 : Hid (Below W.heap.size W w3) := by show Below _ _ _; subst hw3; exact bl_then HB2.out (bl_alloc (Below.refl _ _) _)
  have HOr : Hid (Calls Tryz.prog 54 #[.slice (some ⟨w2.heap.size, 0, none⟩) 2 2] w3 fun e w' => e = .returned (.int .i64 (or2 (camC z x y wd ht) (cntC now bad))) ∧ w' = w3) := by
    show Calls _ _ _ _ _
    subst hw3
    exact cmpOr2_any _ _ _ _ _ (by simp [go_sem]) (by simp [go_sem])
  clear hw3
  refine Calls.mono HOr.out ?_
  rintro e w4 ⟨rfl, h4⟩
  subst w4
  clear HOr HB2
  by_cases hor : or2 (camC z x y wd ht) (cntC now bad) = 0
  case neg =>
    have hq : Hid (VC = or2 (camC z x y wd ht) (cntC now bad)) := HVC.out.symm.trans (viewC_first hor)
    have hcb : (or2 (camC z x y wd ht) (cntC now bad) == 0) = false := by simpa using hor
    clear HVC HSh HRq
    generalize or2 (camC z x y wd ht) (cntC now bad) = oc at *
    go_wp2_with fail
    refine bodyPost_ret (v := .tuple #[.pointer (some ⟨w.heap.size + 1, 0, none⟩), .int .i64 oc]) (by simp [results, Tryz.results29, go_sem]) rfl ?_
    exact ⟨_, by rw [hq.out], bl_then HB0.out HB3.out, fun h => absurd (hq.out.symm.trans h) hor⟩
  have HOR : Hid (or2 (camC z x y wd ht) (cntC now bad) = 0) := hor
  rw [hor]
  have c6 := (HV.out.below hvl HB3.out).cell 6 rfl
  have c7 := (HV.out.below hvl HB3.out).cell 7 rfl
  clear hor
  go_wp2_with fail
  refine Calls.mono (HSh.out _ (bl_then HB0.out HB3.out)) ?_
  rintro e w5 ⟨sp, rfl, hb5, hK5⟩
  have HK5 : Hid (cacheC s n A = 0 → ShK w5 w3.heap.size sp s n A) := hK5
  have HB5 : Hid (Below W.heap.size W w5) := bl_then HB3.out hb5
  have hw35 : w.heap.size + 1 < w3.heap.size := Nat.lt_of_lt_of_le hll HB3.out.size
  have HL5 : Hid (Blk w5 (w.heap.size + 1) [.int .i64 z, .int .i64 x, .int .i64 y, .int .i64 wd, .int .i64 ht, .int .i64 now, .pointer none, .slice ra rn rc, .int .i64 bad, .slice none 0 0]) := HL.out.below hll HB5.out
  have HV5 : Hid (Blk w5 w.heap.size [.int .i64 z, .int .i64 x, .int .i64 y, .int .i64 wd, .int .i64 ht, .int .i64 now, .int .i64 s, .slice (some ⟨b, 0, none⟩) n cap, .slice ra rn rc, .int .i64 bad]) := HV.out.below hvl HB5.out
  have t6 := HL5.out.cell 6 rfl
  have f6 := HL5.out.free 6 rfl
  clear hb5 hK5 c6 c7 HSh HL HV HB3
  go_wp2_with fail
  generalize hw6 : (World.setCell _ _ _ : World) = w6
  have HG6 : Hid (w5.grownBy w6 (some (w.heap.size + 1))) := by show World.grownBy _ _ _; subst hw6; exact grown_set (grown_refl _ _) 6 _
  have HL6 : Hid (Blk w6 (w.heap.size + 1) [.int .i64 z, .int .i64 x, .int .i64 y, .int .i64 wd, .int .i64 ht, .int .i64 now, .pointer (some ⟨sp, 0, none⟩), .slice ra rn rc, .int .i64 bad, .slice none 0 0]) := by show Blk _ _ _; subst hw6; exact HL5.out.set 6 _
  have HV6 : Hid (Blk w6 w.heap.size [.int .i64 z, .int .i64 x, .int .i64 y, .int .i64 wd, .int .i64 ht, .int .i64 now, .int .i64 s, .slice (some ⟨b, 0, none⟩) n cap, .slice ra rn rc, .int .i64 bad]) := by show Blk _ _ _; subst hw6; exact HV5.out.other (by omega)
  have HB6 : Hid (Below w.heap.size w w6) := by show Below _ _ _; subst hw6; exact (bl_then HB0.out HB5.out).setCell (Nat.le_succ _) _
  clear hw6 t6 f6 HL5 HV5
  have HK6 : Hid (cacheC s n A = 0 → ShK w6 w.heap.size sp s n A ∧ sp ≠ w.heap.size + 1) := fun h => by
    obtain ⟨mb, h1, h2, h3, h4, h5⟩ := HK5.out h
    have e1 : sp ≠ w.heap.size + 1 := by omega
    exact ⟨⟨mb, by omega, by omega, ⟨gr_cell HG6.out h3.1 e1, gr_cell HG6.out h3.2.1 e1, gr_cell HG6.out h3.2.2 e1⟩, h4.grown HG6.out e1, h5.kept HG6.out (by simp; omega)⟩, e1⟩
  have hvl6 : w.heap.size < w6.heap.size := HV6.out.lt
  have hll6 : w.heap.size + 1 < w6.heap.size := HL6.out.lt
  clear HK5 HG6 HB5 HB0 hw35 hvl hll
  have c6 : ∀ W', Below w6.heap.size w6 W' → W'.cell? ⟨w.heap.size, 6, none⟩ = some (.int .i64 s) := fun W' h => (HV6.out.below hvl6 h).cell 6 rfl
  have c7 : ∀ W', Below w6.heap.size w6 W' → W'.cell? ⟨w.heap.size + 1, 7, none⟩ = some (.slice ra rn rc) := fun W' h => (HL6.out.below hll6 h).cell 7 rfl
  have HRo : Hid (∀ W', Calls Tryz.prog 58 #[.int .i64 s] W' fun e w' => e = .returned (.int .i64 (if s < 4 then 3 else 0)) ∧ w' = W') := fun W' => roomFault_any s W'
  have HO3 : Hid (∀ (W' : World) (bb : Nat) (u1 u2 u3 : Int), W'.cell? ⟨bb, 0, none⟩ = some (.int .i64 u1) → W'.cell? ⟨bb, 1, none⟩ = some (.int .i64 u2) → W'.cell? ⟨bb, 2, none⟩ = some (.int .i64 u3) → Calls Tryz.prog 54 #[.slice (some ⟨bb, 0, none⟩) 3 3] W' fun e w' => e = .returned (.int .i64 (or3 u1 u2 u3)) ∧ w' = W') := fun W' bb u1 u2 u3 h0 h1 h2 => cmpOr3_any bb 3 u1 u2 u3 W' h0 h1 h2
  have HSt : Hid (∀ W', Below w6.heap.size w6 W' → cacheC s n A = 0 → reqsC rn E = 0 → Calls Tryz.prog 60 #[.pointer (some ⟨w.heap.size + 1, 0, none⟩)] W' fun e w' => e = .returned (.int .i64 (scanC (strC z x y wd ht n A E) 0 rn)) ∧ Below W'.heap.size W' w') := fun W' h h0 hq => strayFault_any w.heap.size (w.heap.size + 1) sp z x y wd ht now s n A ra rn rc E bad W' (HL6.out.below hll6 h) ((HK6.out h0).1.below h) h0 (HR.out.below (bl_then HB6.out h)) hrn hrc hq
  generalize hRM : (if s < 4 then (3 : Int) else 0) = RM at *
  have HRM : Hid ((if s < 4 then (3 : Int) else 0) = RM) := hRM
  clear hRM
  refine wp_region_noPanic ?_
  refine wp_region_held_drew (S := fun W' => Below w6.heap.size w6 W') (by kernel_rfl) (by have := Below.refl w6.heap.size w6; (repeat (first | exact Below.refl _ _ | assumption | refine Below.drew ?_ | refine bl_alloc ?_ _ | refine bl_then ?_ (by assumption) | refine Below.setCell ?_ (by first | omega | (simp; done) | (simp; omega)) _ | refine bl_store ?_ ?_ _ _))) (fun hHeld => ?_)
  have hX0 : Below w6.heap.size w6 w6.drew := hHeld
  refine takeD (i := 0) (d := some 41) (v := ?va0) rfl rfl (by kernel_rfl) (by kernel_rfl) (by kernel_rfl) (fun _ _ _ h => h) (Or.inl ⟨by rfl, ?hya0⟩) (by assumption) ?_
  case hya0 => (intro w hSw; (try dsimp only at hSw); go_simp <;> with_reducible rfl)
  try simp only [Act.put, List.setIfInBounds_toArray, List.set_cons_zero, List.set_cons_succ]
  refine takeD (i := 1) (d := some 42) (v := ?va1) rfl rfl (by kernel_rfl) (by kernel_rfl) (by kernel_rfl) (fun _ _ _ h => h) (Or.inl ⟨by rfl, ?hya1⟩) (by assumption) ?_
  case hya1 => (intro w hSw; (try dsimp only at hSw); go_simp <;> with_reducible rfl)
  try simp only [Act.put, List.setIfInBounds_toArray, List.set_cons_zero, List.set_cons_succ]
  refine takeD (i := 2) (d := some 43) (v := ?va2) rfl rfl (by kernel_rfl) (by kernel_rfl) (by kernel_rfl) (fun _ _ _ h => h) (Or.inl ⟨by rfl, ?hya2⟩) (by assumption) ?_
  case hya2 => (intro w hSw; (try dsimp only at hSw); go_simp <;> with_reducible rfl)
  try simp only [Act.put, List.setIfInBounds_toArray, List.set_cons_zero, List.set_cons_succ]
  refine takeD (i := 3) (d := some 44) (v := ?va3) rfl rfl (by kernel_rfl) (by kernel_rfl) (by kernel_rfl) (fun _ _ _ h => h) (Or.inl ⟨by rfl, ?hya3⟩) (by assumption) ?_
  case hya3 => (intro w hSw; (try dsimp only at hSw); go_simp <;> with_reducible rfl)
  try simp only [Act.put, List.setIfInBounds_toArray, List.set_cons_zero, List.set_cons_succ]
  refine takeD (i := 5) (d := some 46) (v := ?va5) rfl rfl (by kernel_rfl) (by kernel_rfl) (by kernel_rfl) (fun _ _ _ h => h) (Or.inl ⟨by rfl, ?hya5⟩) (by assumption) ?_
  case hya5 => (intro w hSw; (try dsimp only at hSw); go_simp <;> with_reducible rfl)
  try simp only [Act.put, List.setIfInBounds_toArray, List.set_cons_zero, List.set_cons_succ]
  refine takeD (i := 6) (d := some 47) (v := ?va6) rfl rfl (by kernel_rfl) (by kernel_rfl) (by kernel_rfl) (fun _ _ _ h => h) (Or.inl ⟨by rfl, ?hya6⟩) (by assumption) ?_
  case hya6 => (intro w hSw; (try dsimp only at hSw); go_simp <;> with_reducible rfl)
  try simp only [Act.put, List.setIfInBounds_toArray, List.set_cons_zero, List.set_cons_succ]
  refine takeD (i := 7) (d := some 48) (v := ?va7) rfl rfl (by kernel_rfl) (by kernel_rfl) (by kernel_rfl) (fun _ _ _ h => h) (Or.inl ⟨by rfl, ?hya7⟩) (by assumption) ?_
  case hya7 => (intro w hSw; (try dsimp only at hSw); go_simp <;> with_reducible rfl)
  try simp only [Act.put, List.setIfInBounds_toArray, List.set_cons_zero, List.set_cons_succ]
  refine takeD (i := 8) (d := some 49) (v := ?va8) rfl rfl (by kernel_rfl) (by kernel_rfl) (by kernel_rfl) (fun _ _ _ h => h) (Or.inl ⟨by rfl, ?hya8⟩) (by assumption) ?_
  case hya8 => (intro w hSw; (try dsimp only at hSw); go_simp <;> with_reducible rfl)
  try simp only [Act.put, List.setIfInBounds_toArray, List.set_cons_zero, List.set_cons_succ]
  generalize w6.drew = wk0 at *
  refine wpAnyH_ready (rs := [4]) (by kernel_rfl) (by simp) ?_
  refine (AllReadyH.cons rfl (fun K hK => ?_) AllReadyH.nil)
  rw [if_pos (by rfl)]
  go_simp
  refine Calls.mono (HRo.out _) ?_
  rintro e wk1 ⟨rfl, hw⟩
  subst wk1
  go_wp2_with fail
  refine hK.out _ _ (by assumption) (fun hHeld => ?_)
  clear hK K
  try simp only [Act.put, List.setIfInBounds_toArray, List.set_cons_zero, List.set_cons_succ]
  refine wpAnyH_ready (rs := [9]) (by kernel_rfl) (by simp) ?_
  refine (AllReadyH.cons rfl (fun K hK => ?_) AllReadyH.nil)
  rw [if_pos (by rfl)]
  go_simp
  refine Calls.mono (HRq.out _ (bl_then HB6.out hX0)) ?_
  rintro e wk2 ⟨rfl, hb2⟩
  have hX2 : Below w6.heap.size w6 wk2 := bl_then hX0 hb2
  go_wp2_with fail
  refine hK.out _ _ (by assumption) (fun hHeld => ?_)
  clear hK K
  try simp only [Act.put, List.setIfInBounds_toArray, List.set_cons_zero, List.set_cons_succ]
  refine wpAnyH_ready (rs := [10]) (by kernel_rfl) (by simp) ?_
  refine (AllReadyH.cons rfl (fun K hK => ?_) AllReadyH.nil)
  rw [if_pos (by rfl)]
  go_simp
  generalize hwA : (World.alloc _ _ : World) = wk3
  have hb3 : Below wk2.heap.size wk2 wk3 := by subst hwA; (repeat (first | exact Below.refl _ _ | assumption | refine Below.drew ?_ | refine bl_alloc ?_ _ | refine bl_then ?_ (by assumption) | refine Below.setCell ?_ (by first | omega | (simp; done) | (simp; omega)) _ | refine bl_store ?_ ?_ _ _))
  have j0 : wk3.cell? ⟨wk2.heap.size, 0, none⟩ = some (.int .i64 (cacheC s n A)) := by subst hwA; simp [go_sem]
  have j1 : wk3.cell? ⟨wk2.heap.size, 1, none⟩ = some (.int .i64 RM) := by subst hwA; simp [go_sem]
  have j2 : wk3.cell? ⟨wk2.heap.size, 2, none⟩ = some (.int .i64 (reqsC rn E)) := by subst hwA; simp [go_sem]
  clear hwA
  have hX3 : Below w6.heap.size w6 wk3 := bl_then hX2 hb3
  refine hK.out _ _ hX3 (fun hHeld => ?_)
  clear hK K
  try simp only [Act.put, List.setIfInBounds_toArray, List.set_cons_zero, List.set_cons_succ]
  refine wpAnyH_ready (rs := [11]) (by kernel_rfl) (by simp) ?_
  refine (AllReadyH.cons rfl (fun K hK => ?_) AllReadyH.nil)
  rw [if_pos (by rfl)]
  go_simp
  refine Calls.mono (HO3.out _ _ _ _ _ j0 j1 j2) ?_
  rintro e wk4 ⟨rfl, hw⟩
  subst wk4
  go_wp2_with fail
  refine hK.out _ _ (by assumption) (fun hHeld => ?_)
  clear hK K
  try simp only [Act.put, List.setIfInBounds_toArray, List.set_cons_zero, List.set_cons_succ]
  refine takeD (i := 12) (d := some 7) (v := ?vb12) rfl rfl (by kernel_rfl) (by kernel_rfl) (by kernel_rfl) (fun _ _ _ h => h) (Or.inl ⟨by rfl, ?hyb12⟩) (by assumption) ?_
  case hyb12 => (intro w hSw; (try dsimp only at hSw); go_simp <;> with_reducible rfl)
  try simp only [Act.put, List.setIfInBounds_toArray, List.set_cons_zero, List.set_cons_succ]
  refine wpAnyH_done (by kernel_rfl) ?_ _
  refine NoPanic.normal ?_
  have HX3 : Hid (Below w6.heap.size w6 wk3) := hX3
  clear c6 c7 HRo HRq HO3 hX0 hb2 hX2 hb3 hX3 j0 j1 j2
  have HB7 : Hid (Below w.heap.size w wk3) := bl_then HB6.out HX3.out
  by_cases ho3 : or3 (cacheC s n A) RM (reqsC rn E) = 0
  case neg =>
    have hq : Hid (VC = or3 (cacheC s n A) RM (reqsC rn E)) := by
      show _ = _
      rw [← HVC.out, ← HRM.out]
      exact viewC_second HOR.out (by rw [HRM.out]; exact ho3)
    have hcb : (or3 (cacheC s n A) RM (reqsC rn E) == 0) = false := by simpa using ho3
    clear HVC HSt HK6
    generalize or3 (cacheC s n A) RM (reqsC rn E) = oc at *
    go_wp2_with fail
    refine bodyPost_ret (v := .tuple #[.pointer (some ⟨w.heap.size + 1, 0, none⟩), .int .i64 oc]) (by simp [results, Tryz.results29, go_sem]) rfl ?_
    exact ⟨_, by rw [hq.out], HB7.out, fun h => absurd (hq.out.symm.trans h) ho3⟩
  obtain ⟨h1, h2, h3⟩ := or3_zero ho3
  have hq : Hid (VC = scanC (strC z x y wd ht n A E) 0 rn) := by
    show _ = _
    rw [← HVC.out]
    exact viewC_third HOR.out (by rw [HRM.out]; exact ho3)
  have HSt2 := (show Hid _ from HSt.out wk3 HX3.out h1 h3)
  have HK7 : Hid (ShK wk3 w.heap.size sp s n A ∧ sp ≠ w.heap.size + 1) := ⟨(HK6.out h1).1.below HX3.out, (HK6.out h1).2⟩
  have HL7 : Hid (Blk wk3 (w.heap.size + 1) [.int .i64 z, .int .i64 x, .int .i64 y, .int .i64 wd, .int .i64 ht, .int .i64 now, .pointer (some ⟨sp, 0, none⟩), .slice ra rn rc, .int .i64 bad, .slice none 0 0]) := HL6.out.below hll6 HX3.out
  rw [ho3]
  clear HSt HK6 ho3 h1 h2 h3
  generalize scanC (strC z x y wd ht n A E) 0 rn = sc at *
  go_wp2_with fail
  refine Calls.mono HSt2.out ?_
  rintro e w8 ⟨rfl, hb8⟩
  go_wp2_with fail
  refine bodyPost_ret (v := .tuple #[.pointer (some ⟨w.heap.size + 1, 0, none⟩), .int .i64 sc]) (by simp [results, Tryz.results29, go_sem]) rfl ?_
  exact ⟨_, by rw [hq.out], bl_then HB7.out hb8, fun _ => ⟨Nat.le_succ _, sp, HL7.out.below HL7.out.lt hb8, HK7.out.1.below hb8, HK7.out.2⟩⟩
end Go.Proofs.YtbdhhclamgmfkaaGreat
/- Answers with a code and a list of requests: they are compared, marked, and the marks are found again. -/

namespace Go.Proofs.YtbdhhclamgmfkaaGreat
open Go.RowKit
set_option linter.unusedSimpArgs false
set_option linter.unusedVariables false
set_option maxRecDepth 100000

end Go.Proofs.YtbdhhclamgmfkaaGreat
/- Rows of requests and of their refs, in memory of their own; they are copied. -/

namespace Go.Proofs.YtbdhhclamgmfkaaGreat
open Go.RowKit
set_option linter.unusedSimpArgs false
set_option linter.unusedVariables false
set_option maxRecDepth 100000

/-- The i-th of a list. -/
def nw (l : List Req) (i : Nat) : Req := l.getD i ⟨0, 0, 0, 0, 0⟩
theorem ownsRow_belowW {base s n : Nat} {t : TypeId} {w w' : World} {v : Value} {xs : List Value} (h : w.ownsRow base t s v n xs) (hb : Below w.heap.size w w') : w'.ownsRow base t s v n xs := by
  obtain ⟨h1, h2 | ⟨g, cp, cur, hv, hg, hh, hr⟩⟩ := h
  · exact ⟨h1, .inl h2⟩
  · refine ⟨h1, .inr ⟨g, cp, cur, hv, hg, ?_, hr⟩⟩
    have hgl : g < w.heap.size := by
      rcases Nat.lt_or_ge g w.heap.size with h' | h'
      · exact h'
      · rw [Array.getElem?_eq_none h'] at hh; cases hh
    rw [hb.block g hgl]
    exact hh
theorem ownsRow_wideW {base B s n : Nat} {t : TypeId} {w : World} {v : Value} {xs : List Value} (h : w.ownsRow base t s v n xs) (hB : B ≤ base) : w.ownsRow B t s v n xs := by
  obtain ⟨h1, h2 | ⟨g, cp, cur, hv, hg, hk⟩⟩ := h
  · exact ⟨h1, .inl h2⟩
  · exact ⟨h1, .inr ⟨g, cp, cur, hv, by omega, hk⟩⟩
/-- The refs of requests. -/
def rfsOf (l : List Req) : Rfs := ⟨fun i => (nw l i).z, fun i => (nw l i).x, fun i => (nw l i).y⟩
theorem nw_app (l m : List Req) (i : Nat) (h : i < l.length) : nw (l ++ m) i = nw l i := by simp [nw, List.getElem?_append_left h]
theorem nw_last (l : List Req) (e : Req) : nw (l ++ [e]) l.length = e := by simp [nw]
theorem cellsR_congr {R R' : Rfs} : ∀ (n : Nat), (∀ i, i < n → R.z i = R'.z i ∧ R.x i = R'.x i ∧ R.y i = R'.y i) → cellsR R n = cellsR R' n
  | 0, _ => rfl
  | n + 1, h => by
    rw [cellsR_add, cellsR_add, cellsR_congr n (fun i hi => h i (by omega)), (h n (by omega)).1, (h n (by omega)).2.1, (h n (by omega)).2.2]
theorem cellsR_app (l : List Req) (e : Req) : cellsR (rfsOf (l ++ [e])) (l.length + 1) = cellsR (rfsOf l) l.length ++ [.int .i64 e.z, .int .i64 e.x, .int .i64 e.y] := by
  rw [cellsR_add, cellsR_congr (R := rfsOf (l ++ [e])) (R' := rfsOf l) l.length (fun i hi => by simp [rfsOf, nw_app l [e] i hi])]
  simp [rfsOf, nw_last]
/-- v is a row of its own with the refs of these. -/
def RowS (base : Nat) (w : World) (v : Value) (l : List Req) : Prop := w.ownsRow base 87 3 v l.length (cellsR (rfsOf l) l.length)
theorem RowS.no (base : Nat) (w : World) : RowS base w (.slice none 0 0) [] := World.ownsRow_nil _ _ _ _
theorem RowS.own {base : Nat} {w : World} {v : Value} {l : List Req} (h : RowS base w v l) : OwnT w base v l.length (rfsOf l) := RowT.own h
theorem RowS.below {base : Nat} {w w' : World} {v : Value} {l : List Req} (h : RowS base w v l) (hb : Below w.heap.size w w') : RowS base w' v l := ownsRow_belowW h hb
end Go.Proofs.YtbdhhclamgmfkaaGreat
/- Which of the tiles that are seen are not there: plain facts. -/

namespace Go.Proofs.YtbdhhclamgmfkaaGreat
open Go.RowKit
set_option linter.unusedSimpArgs false
set_option linter.unusedVariables false
set_option maxRecDepth 100000

/-- The refs that are seen have no fault. -/
theorem visR_ref {z x y wd ht : Int} (h : camB z x y wd ht = true) {i : Nat} (hi : i < visM z x y wd ht) : refB ((visR z x y wd).z i) ((visR z x y wd).x i) ((visR z x y wd).y i) = true := by
  have hz := camB_zoom h
  obtain ⟨⟨h1, h2⟩, h3, h4⟩ := camB_in h
  obtain ⟨a1, a2, a3⟩ := visN_bd (x := x) h1
  obtain ⟨b1, b2, b3⟩ := visN_bd (x := y) h2
  have e : visM z x y wd ht = visN y ht * visN x wd := by unfold visM; rw [if_pos h]
  rw [e] at hi
  have m1 : i % visN x wd < visN x wd := Nat.mod_lt _ (by omega)
  have m2 : i / visN x wd < visN y ht := Nat.div_lt_of_lt_mul (by rw [Nat.mul_comm]; exact hi)
  show refB z (x / 8 + (i % visN x wd : Nat)) (y / 8 + (i / visN x wd : Nat)) = true
  generalize i % visN x wd = u at *
  generalize i / visN x wd = v at *
  generalize visN x wd = NX at *
  generalize visN y ht = NY at *
  have hzz : z = 0 ∨ z = 1 ∨ z = 2 ∨ z = 3 := by
    simp [zoomB, inB] at hz
    omega
  rcases hzz with rfl | rfl | rfl | rfl <;> simp [pixI] at h3 h4 <;> simp [refB, zoomB, inB, lastI] <;> omega
/-- The first k of some refs that are not kept. -/
def misL (n : Nat) (A : Nat → Kp) (R : Rfs) : Nat → List Req
  | 0 => []
  | k + 1 => if 0 ≤ atK n A (R.z k) (R.x k) (R.y k) then misL n A R k else misL n A R k ++ [⟨R.z k, R.x k, R.y k, 0, 0⟩]
theorem misL_len (n : Nat) (A : Nat → Kp) (R : Rfs) : ∀ k, (misL n A R k).length ≤ k
  | 0 => Nat.le_refl _
  | k + 1 => by
    have := misL_len n A R k
    unfold misL
    split
    · omega
    · simp; omega
theorem misL_has {n : Nat} {A : Nat → Kp} {R : Rfs} {k : Nat} (h : 0 ≤ atK n A (R.z k) (R.x k) (R.y k)) : misL n A R (k + 1) = misL n A R k := by rw [misL, if_pos h]
theorem misL_not {n : Nat} {A : Nat → Kp} {R : Rfs} {k : Nat} (h : ¬ 0 ≤ atK n A (R.z k) (R.x k) (R.y k)) : misL n A R (k + 1) = misL n A R k ++ [⟨R.z k, R.x k, R.y k, 0, 0⟩] := by rw [misL, if_neg h]
end Go.Proofs.YtbdhhclamgmfkaaGreat
