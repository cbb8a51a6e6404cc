/- The fault of a viewer: the program. -/
import Derived.Test.YtbdhhclamgmfkaaGreatVMissingIn32
import Derived.Test.YtbdhhclamgmfkaaGreatVMissingIn37
import Derived.Test.YtbdhhclamgmfkaaGreatVMissingIn14
namespace Go.Proofs.YtbdhhclamgmfkaaGreat
open Go.RowKit
set_option linter.unusedSimpArgs false
set_option linter.unusedVariables false
set_option maxRecDepth 100000

/-- The code of the time and the count. -/
def cntC (now bad : Int) : Int := if inV now bad = true then 0 else 3
set_option maxHeartbeats 2000000 in
theorem countsFault_any (p : Nat) (now bad : Int) (w : World) (h5 : w.cell? ⟨p, 5, none⟩ = some (.int .i64 now)) (h8 : w.cell? ⟨p, 8, none⟩ = some (.int .i64 bad)) :
    Calls Tryz.prog 56 #[.pointer (some ⟨p, 0, none⟩)] w fun e w' => e = .returned (.int .i64 (cntC now bad)) ∧ Below w.heap.size w w' := by
  have HI : Hid (∀ W, Calls Tryz.prog 87 #[.int .i64 bad, .int .i64 0, .int .i64 9999] W fun e w' => e = .returned (.bool (inB bad 0 9999)) ∧ w' = W) := fun W => isWithin_any _ _ _ W
  have HT : Hid (∀ W, Calls Tryz.prog 88 #[.int .i64 now] W fun e w' => e = .returned (.int .i64 (timC now)) ∧ Below W.heap.size W w') := fun W => timeFault_any now W
  cases hb : inB bad 0 9999
  · have HE : Hid (cntC now bad = 3) := by show _ = _; simp [cntC, inV, hb]
    rw [hb] at HI
    go_enter Tryz.func56, Tryz.ntmps56
    go_wp2_with fail
    refine Calls.mono (HI.out _) ?_
    rintro e w2 ⟨rfl, h2⟩
    subst w2
    go_wp2
    go_ret
    exact ⟨ret_int HE.out.symm, Below.refl _ _⟩
  · have HE : Hid (cntC now bad = timC now) := by show _ = _; simp [cntC, inV, hb, timC]
    rw [hb] at HI
    clear hb
    generalize cntC now bad = CC at *
    generalize timC now = TC at *
    go_enter Tryz.func56, Tryz.ntmps56
    go_wp2_with fail
    refine Calls.mono (HI.out _) ?_
    rintro e w2 ⟨rfl, h2⟩
    subst w2
    go_wp2_with fail
    refine Calls.mono (HT.out _) ?_
    rintro e w3 ⟨rfl, hb3⟩
    go_wp2
    go_ret
    exact ⟨ret_int HE.out.symm, hb3⟩
theorem roomFault_any (s : Int) (w : World) : Calls Tryz.prog 58 #[.int .i64 s] w fun e w' => e = .returned (.int .i64 (if s < 4 then 3 else 0)) ∧ w' = w := by
  by_cases h : s < 4
  · rw [if_pos h]
    go_enter Tryz.func58, Tryz.ntmps58
    go_wp2
    go_ret
    exact ⟨rfl, rfl⟩
  · rw [if_neg h]
    go_enter Tryz.func58, Tryz.ntmps58
    go_wp2
    go_ret
    exact ⟨rfl, rfl⟩
theorem reqsC_zero {n : Nat} {E : Nat → Req} (h : reqsC n E = 0) : ∀ j, j < n → refB (E j).z (E j).x (E j).y = true := by
  unfold reqsC at h
  split at h
  · cases h
  · intro j hj
    cases hr : reqB (E j)
    · exfalso
      obtain ⟨i, hi, hne, hall⟩ : ∃ i, i ≤ j ∧ rCode E i ≠ 0 ∧ ∀ l, l < i → rCode E l = 0 := by
        have : ∀ m, (∃ i, i ≤ m ∧ rCode E i ≠ 0) → ∃ i, i ≤ m ∧ rCode E i ≠ 0 ∧ ∀ l, l < i → rCode E l = 0 := by
          intro m
          induction m with
          | zero => rintro ⟨i, hi, h⟩; exact ⟨i, hi, h, fun l hl => by omega⟩
          | succ m ih =>
            rintro ⟨i, hi, h⟩
            by_cases hx : ∃ i, i ≤ m ∧ rCode E i ≠ 0
            · obtain ⟨i, h1, h2⟩ := ih hx; exact ⟨i, by omega, h2⟩
            · refine ⟨i, hi, h, fun l hl => ?_⟩
              by_cases e : rCode E l = 0
              · exact e
              · exact absurd ⟨l, by omega, e⟩ hx
        exact this j ⟨j, Nat.le_refl _, by rw [rCode_bad hr]; decide⟩
      rw [scan_first (rCode E) n 0 i (fun l _ hl => hall l hl) (by omega) (by omega) hne] at h
      exact hne h
    · unfold reqB at hr
      simp at hr
      exact hr.1
set_option maxHeartbeats 8000000 in
theorem strayFault_any (B p sp : Nat) (z x y wd ht now s : Int) (n : Nat) (A : Nat → Kp) (ra : Option Addr) (rn rc : Nat) (E : Nat → Req) (bad : Int) (w : World) (hV : Blk w p [.int .i64 z, .int .i64 x, .int .i64 y, .int .i64 wd, .int .i64 ht, .int .i64 now, .pointer (some ⟨sp, 0, none⟩), .slice ra rn rc, .int .i64 bad, .slice none 0 0]) (hK : ShK w B sp s n A) (h0 : cacheC s n A = 0) (hr : IsWs w ra rn E) (hrn : rn ≤ 1048576) (hrc : rn ≤ rc) (hq : reqsC rn E = 0) :
    Calls Tryz.prog 60 #[.pointer (some ⟨p, 0, none⟩)] w fun e w' => e = .returned (.int .i64 (scanC (strC z x y wd ht n A E) 0 rn)) ∧ Below w.heap.size w w' := by
  have HV : Hid (Blk w p [.int .i64 z, .int .i64 x, .int .i64 y, .int .i64 wd, .int .i64 ht, .int .i64 now, .pointer (some ⟨sp, 0, none⟩), .slice ra rn rc, .int .i64 bad, .slice none 0 0]) := hV
  have HK : Hid (ShK w B sp s n A) := hK
  have HR : Hid (IsWs w ra rn E) := hr
  have hpl : p < w.heap.size := hV.lt
  have HZ0 : Hid (∀ j, j < n → kC A j = 0) := cacheC_zero h0
  have HRB : Hid (∀ j, j < rn → refB (E j).z (E j).x (E j).y = true) := reqsC_zero hq
  have c7 := hV.cell 7 rfl
  clear hV hK hr h0 hq
  obtain ⟨VC, hVC⟩ : ∃ VC, scanC (strC z x y wd ht n A E) 0 rn = VC := ⟨_, rfl⟩
  rw [hVC]
  have HVC5 : Hid (VC = scanC (strC z x y wd ht n A E) 0 rn) := hVC.symm
  clear hVC
  go_enter Tryz.func60, Tryz.ntmps60
  go_wp2_with fail
  go_loopw [10] (fun v wr => ∃ k : Nat, k ≤ rn ∧ v = .int .i64 k ∧ (∀ j, j < k → strC z x y wd ht n A E j = 0) ∧ Below w.heap.size w wr) (fun v _ => rn - (intOf v).toNat)
  case atStart => exact ⟨0, by omega, rfl, by omega, Below.refl _ _⟩
  case round =>
    obtain ⟨k, hk, rfl, hA, hB⟩ := hrel
    have HB : Hid (Below w.heap.size w wr) := hB
    have HZ : Hid (∀ j, j < k → strC z x y wd ht n A E j = 0) := hA
    clear hA hB c7
    by_cases hlt : k < rn
    · have HLT : Hid (k < rn) := hlt
      have first : Hid (strC z x y wd ht n A E k = 8 → VC = 8) := fun hc => by
        rw [HVC5.out, scan_first _ rn 0 k (fun j _ hj => HZ.out j hj) (by omega) (by have := HLT.out; omega) (by rw [hc]; decide), hc]
      have HOK : Hid (strC z x y wd ht n A E k = 0 → ∀ j, j < k + 1 → strC z x y wd ht n A E j = 0) := fun h0 j hj => by
        by_cases e : j = k
        · rw [e]; exact h0
        · exact HZ.out j (by omega)
      rcases HR.out with hz | ⟨rb, ro, rfl, hrl, hW⟩
      · omega
      obtain ⟨e0, e1, e2, e3, e4⟩ := (hW.below HB.out hrl) k hlt
      have hi : (k : Int) < (rn : Int) := by omega
      have hi0 : (0 : Int) ≤ (k : Int) := by omega
      obtain ⟨iz, ix, iy⟩ := ref_I64 (HRB.out k hlt)
      have HSe : Hid (∀ W', Calls Tryz.prog 94 #[camV z x y wd ht, refV (E k).z (E k).x (E k).y] W' fun e w' => e = .returned (.bool (seenB z x y wd ht (E k).z (E k).x (E k).y)) ∧ Below W'.heap.size W' w') := fun W' => impl_IsSeen_any z x y wd ht _ _ _ W'
      have HAt : Hid (∀ W', Below w.heap.size w W' → Calls Tryz.prog 62 #[.pointer (some ⟨sp, 0, none⟩), refV (E k).z (E k).x (E k).y] W' fun e w' => e = .returned (.bool (decide (0 ≤ atK n A (E k).z (E k).x (E k).y))) ∧ Below W'.heap.size W' w') := fun W' h => by
        obtain ⟨mb, _, _, h3, h4, h5⟩ := HK.out.below h
        have := shelfHas_any sp mb n s (n : Int) (shD A n) (E k).z (E k).x (E k).y W' h3 h5 iz ix iy
        rw [shD_has iz ix iy n (Rgt_of HZ0.out)] at this
        exact this
      have hSt : strC z x y wd ht n A E k = if seenB z x y wd ht (E k).z (E k).x (E k).y = true then (if 0 ≤ atK n A (E k).z (E k).x (E k).y then 8 else 0) else 8 := rfl
      have HSt := (show Hid _ from hSt)
      clear hSt hW iz ix iy
      generalize strC z x y wd ht n A E k = ST at *
      generalize (E k).z = rz at *
      generalize (E k).x = rx at *
      generalize (E k).y = ry at *
      generalize (E k).du = rd at *
      generalize (E k).tr = rt at *
      generalize atK n A rz rx ry = AT at *
      generalize seenB z x y wd ht rz rx ry = SN at *
      go_wp2_with fail
      generalize hU : (wr.alloc _ : World) = U
      have HBU : Hid (Below w.heap.size w U) := by show Below _ _ _; subst hU; exact bl_then HB.out (bl_alloc (Below.refl _ _) _)
      have HRU : Hid (RK U wr.heap.size rz rx ry) := by show RK _ _ _ _ _; subst hU; refine ⟨?_, ?_, ?_⟩ <;> simp [go_sem]
      clear hU e0 e1 e2 e3 e4
      have hl0 : ∀ W', Below U.heap.size U W' → Blk W' p [.int .i64 z, .int .i64 x, .int .i64 y, .int .i64 wd, .int .i64 ht, .int .i64 now, .pointer (some ⟨sp, 0, none⟩), .slice (some ⟨rb, ro, none⟩) rn rc, .int .i64 bad, .slice none 0 0] := fun W' h => HV.out.below hpl (bl_then HBU.out h)
      have c0 : ∀ W', Below U.heap.size U W' → W'.cell? ⟨p, 0, none⟩ = _ := fun W' h => (hl0 W' h).cell 0 rfl
      have c1 : ∀ W', Below U.heap.size U W' → W'.cell? ⟨p, 1, none⟩ = _ := fun W' h => (hl0 W' h).cell 1 rfl
      have c2 : ∀ W', Below U.heap.size U W' → W'.cell? ⟨p, 2, none⟩ = _ := fun W' h => (hl0 W' h).cell 2 rfl
      have c3 : ∀ W', Below U.heap.size U W' → W'.cell? ⟨p, 3, none⟩ = _ := fun W' h => (hl0 W' h).cell 3 rfl
      have c4 : ∀ W', Below U.heap.size U W' → W'.cell? ⟨p, 4, none⟩ = _ := fun W' h => (hl0 W' h).cell 4 rfl
      have c6 : ∀ W', Below U.heap.size U W' → W'.cell? ⟨p, 6, none⟩ = some (.pointer (some ⟨sp, 0, none⟩)) := fun W' h => (hl0 W' h).cell 6 rfl
      have r0 : ∀ W', Below U.heap.size U W' → W'.cell? ⟨wr.heap.size, 0, none⟩ = some (.int .i64 rz) := fun W' h => (HRU.out.below h).1
      have r1 : ∀ W', Below U.heap.size U W' → W'.cell? ⟨wr.heap.size, 1, none⟩ = some (.int .i64 rx) := fun W' h => (HRU.out.below h).2.1
      have r2 : ∀ W', Below U.heap.size U W' → W'.cell? ⟨wr.heap.size, 2, none⟩ = some (.int .i64 ry) := fun W' h => (HRU.out.below h).2.2
      clear hl0
      refine wp_region_noPanic ?_
      refine wp_region_held_drew (S := fun W' => Below U.heap.size U W') (by kernel_rfl) (by have := Below.refl U.heap.size U; (repeat (first | exact Below.refl _ _ | assumption | refine Below.drew ?_ | refine bl_alloc ?_ _ | refine bl_then ?_ (by assumption) | refine Below.setCell ?_ (by first | omega | (simp; done) | (simp; omega)) _ | refine bl_store ?_ ?_ _ _))) (fun hHeld => ?_)
      have hX0 : Below U.heap.size U U.drew := hHeld
      refine takeD (i := 0) (d := some 14) (v := ?va0) rfl rfl (by kernel_rfl) (by kernel_rfl) (by kernel_rfl) (fun _ _ _ h => h) (Or.inl ⟨by rfl, ?hya0⟩) (by assumption) ?_
      case hya0 => (intro w hSw; (try dsimp only at hSw); go_simp <;> with_reducible rfl)
      try simp only [Act.put, List.setIfInBounds_toArray, List.set_cons_zero, List.set_cons_succ]
      refine takeD (i := 1) (d := some 15) (v := ?va1) rfl rfl (by kernel_rfl) (by kernel_rfl) (by kernel_rfl) (fun _ _ _ h => h) (Or.inl ⟨by rfl, ?hya1⟩) (by assumption) ?_
      case hya1 => (intro w hSw; (try dsimp only at hSw); go_simp <;> with_reducible rfl)
      try simp only [Act.put, List.setIfInBounds_toArray, List.set_cons_zero, List.set_cons_succ]
      refine takeD (i := 2) (d := some 16) (v := ?va2) rfl rfl (by kernel_rfl) (by kernel_rfl) (by kernel_rfl) (fun _ _ _ h => h) (Or.inl ⟨by rfl, ?hya2⟩) (by assumption) ?_
      case hya2 => (intro w hSw; (try dsimp only at hSw); go_simp <;> with_reducible rfl)
      try simp only [Act.put, List.setIfInBounds_toArray, List.set_cons_zero, List.set_cons_succ]
      refine takeD (i := 3) (d := some 17) (v := ?va3) rfl rfl (by kernel_rfl) (by kernel_rfl) (by kernel_rfl) (fun _ _ _ h => h) (Or.inl ⟨by rfl, ?hya3⟩) (by assumption) ?_
      case hya3 => (intro w hSw; (try dsimp only at hSw); go_simp <;> with_reducible rfl)
      try simp only [Act.put, List.setIfInBounds_toArray, List.set_cons_zero, List.set_cons_succ]
      refine takeD (i := 4) (d := some 18) (v := ?va4) rfl rfl (by kernel_rfl) (by kernel_rfl) (by kernel_rfl) (fun _ _ _ h => h) (Or.inl ⟨by rfl, ?hya4⟩) (by assumption) ?_
      case hya4 => (intro w hSw; (try dsimp only at hSw); go_simp <;> with_reducible rfl)
      try simp only [Act.put, List.setIfInBounds_toArray, List.set_cons_zero, List.set_cons_succ]
      refine takeD (i := 5) (d := some 19) (v := ?va5) rfl rfl (by kernel_rfl) (by kernel_rfl) (by kernel_rfl) (fun _ _ _ h => h) (Or.inl ⟨by rfl, ?hya5⟩) (by assumption) ?_
      case hya5 => (intro w hSw; (try dsimp only at hSw); go_simp <;> with_reducible rfl)
      try simp only [Act.put, List.setIfInBounds_toArray, List.set_cons_zero, List.set_cons_succ]
      generalize U.drew = wk0 at *
      refine wpAnyH_ready (rs := [6]) (by kernel_rfl) (by simp) ?_
      refine (AllReadyH.cons rfl (fun K hK => ?_) AllReadyH.nil)
      rw [if_pos (by rfl)]
      go_simp
      refine Calls.mono (HSe.out _) ?_
      rintro e wk1 ⟨rfl, hb1⟩
      have hX1 : Below U.heap.size U wk1 := bl_then hX0 hb1
      go_wp2_with fail
      refine hK.out _ _ (by assumption) (fun hHeld => ?_)
      clear hK K
      try simp only [Act.put, List.setIfInBounds_toArray, List.set_cons_zero, List.set_cons_succ]
      cases SN
      · have HE : Hid (VC = 8) := first.out (by rw [HSt.out]; rfl)
        refine takeD (i := 7) (d := some 21) (v := ?vb7) rfl rfl (by kernel_rfl) (by kernel_rfl) (by kernel_rfl) (fun _ _ _ h => h) (Or.inl ⟨by rfl, ?hyb7⟩) (by assumption) ?_
        case hyb7 => (intro w hSw; (try dsimp only at hSw); go_simp <;> with_reducible rfl)
        try simp only [Act.put, List.setIfInBounds_toArray, List.set_cons_zero, List.set_cons_succ]
        refine takeD (i := 8) (d := some 22) (v := ?vb8) rfl rfl (by kernel_rfl) (by kernel_rfl) (by kernel_rfl) (fun _ _ _ h => h) (Or.inl ⟨by rfl, ?hyb8⟩) (by assumption) ?_
        case hyb8 => (intro w hSw; (try dsimp only at hSw); go_simp <;> with_reducible rfl)
        try simp only [Act.put, List.setIfInBounds_toArray, List.set_cons_zero, List.set_cons_succ]
        refine passD (i := 9) (d := some 23) rfl rfl (by kernel_rfl) (by kernel_rfl) (by kernel_rfl) (fun _ _ _ h => h) (by rfl) (by assumption) ?_
        try simp only [Act.put, List.setIfInBounds_toArray, List.set_cons_zero, List.set_cons_succ]
        refine passD (i := 10) (d := some 24) rfl rfl (by kernel_rfl) (by kernel_rfl) (by kernel_rfl) (fun _ _ _ h => h) (by rfl) (by assumption) ?_
        try simp only [Act.put, List.setIfInBounds_toArray, List.set_cons_zero, List.set_cons_succ]
        refine passD (i := 11) (d := some 25) rfl rfl (by kernel_rfl) (by kernel_rfl) (by kernel_rfl) (fun _ _ _ h => h) (by rfl) (by assumption) ?_
        try simp only [Act.put, List.setIfInBounds_toArray, List.set_cons_zero, List.set_cons_succ]
        refine passD (i := 12) (d := some 26) rfl rfl (by kernel_rfl) (by kernel_rfl) (by kernel_rfl) (fun _ _ _ h => h) (by rfl) (by assumption) ?_
        try simp only [Act.put, List.setIfInBounds_toArray, List.set_cons_zero, List.set_cons_succ]
        refine passD (i := 13) (d := some 27) rfl rfl (by kernel_rfl) (by kernel_rfl) (by kernel_rfl) (fun _ _ _ h => h) (by rfl) (by assumption) ?_
        try simp only [Act.put, List.setIfInBounds_toArray, List.set_cons_zero, List.set_cons_succ]
        refine passD (i := 14) (d := some 28) rfl rfl (by kernel_rfl) (by kernel_rfl) (by kernel_rfl) (fun _ _ _ h => h) (by rfl) (by assumption) ?_
        try simp only [Act.put, List.setIfInBounds_toArray, List.set_cons_zero, List.set_cons_succ]
        refine passD (i := 15) (d := some 29) rfl rfl (by kernel_rfl) (by kernel_rfl) (by kernel_rfl) (fun _ _ _ h => h) (by rfl) (by assumption) ?_
        try simp only [Act.put, List.setIfInBounds_toArray, List.set_cons_zero, List.set_cons_succ]
        refine takeD (i := 16) (d := some 30) (v := ?vb16) rfl rfl (by kernel_rfl) (by kernel_rfl) (by kernel_rfl) (fun _ _ _ h => h) (Or.inl ⟨by rfl, ?hyb16⟩) (by assumption) ?_
        case hyb16 => (intro w hSw; (try dsimp only at hSw); go_simp <;> with_reducible rfl)
        try simp only [Act.put, List.setIfInBounds_toArray, List.set_cons_zero, List.set_cons_succ]
        refine wpAnyH_done (by kernel_rfl) ?_ _
        refine NoPanic.normal ?_
        have HB9 : Hid (Below w.heap.size w wk1) := bl_then HBU.out hX1
        clear c0 c1 c2 c3 c4 c6 r0 r1 r2 hX0 hb1 hX1
        go_wp2
        go_ret
        exact ⟨ret_int HE.out.symm, HB9.out⟩
      · have HSt2 : Hid (ST = if 0 ≤ AT then 8 else 0) := by show _ = _; rw [HSt.out]; rfl
        refine takeD (i := 7) (d := some 21) (v := ?vc7) rfl rfl (by kernel_rfl) (by kernel_rfl) (by kernel_rfl) (fun _ _ _ h => h) (Or.inl ⟨by rfl, ?hyc7⟩) (by assumption) ?_
        case hyc7 => (intro w hSw; (try dsimp only at hSw); go_simp <;> with_reducible rfl)
        try simp only [Act.put, List.setIfInBounds_toArray, List.set_cons_zero, List.set_cons_succ]
        refine takeD (i := 8) (d := some 22) (v := ?vc8) rfl rfl (by kernel_rfl) (by kernel_rfl) (by kernel_rfl) (fun _ _ _ h => h) (Or.inl ⟨by rfl, ?hyc8⟩) (by assumption) ?_
        case hyc8 => (intro w hSw; (try dsimp only at hSw); go_simp <;> with_reducible rfl)
        try simp only [Act.put, List.setIfInBounds_toArray, List.set_cons_zero, List.set_cons_succ]
        refine takeD (i := 9) (d := some 23) (v := ?vc9) rfl rfl (by kernel_rfl) (by kernel_rfl) (by kernel_rfl) (fun _ _ _ h => h) (Or.inl ⟨by rfl, ?hyc9⟩) (by assumption) ?_
        case hyc9 => (intro w hSw; (try dsimp only at hSw); go_simp <;> with_reducible rfl)
        try simp only [Act.put, List.setIfInBounds_toArray, List.set_cons_zero, List.set_cons_succ]
        refine takeD (i := 10) (d := some 24) (v := ?vc10) rfl rfl (by kernel_rfl) (by kernel_rfl) (by kernel_rfl) (fun _ _ _ h => h) (Or.inl ⟨by rfl, ?hyc10⟩) (by assumption) ?_
        case hyc10 => (intro w hSw; (try dsimp only at hSw); go_simp <;> with_reducible rfl)
        try simp only [Act.put, List.setIfInBounds_toArray, List.set_cons_zero, List.set_cons_succ]
        refine takeD (i := 11) (d := some 25) (v := ?vc11) rfl rfl (by kernel_rfl) (by kernel_rfl) (by kernel_rfl) (fun _ _ _ h => h) (Or.inl ⟨by rfl, ?hyc11⟩) (by assumption) ?_
        case hyc11 => (intro w hSw; (try dsimp only at hSw); go_simp <;> with_reducible rfl)
        try simp only [Act.put, List.setIfInBounds_toArray, List.set_cons_zero, List.set_cons_succ]
        refine takeD (i := 12) (d := some 26) (v := ?vc12) rfl rfl (by kernel_rfl) (by kernel_rfl) (by kernel_rfl) (fun _ _ _ h => h) (Or.inl ⟨by rfl, ?hyc12⟩) (by assumption) ?_
        case hyc12 => (intro w hSw; (try dsimp only at hSw); go_simp <;> with_reducible rfl)
        try simp only [Act.put, List.setIfInBounds_toArray, List.set_cons_zero, List.set_cons_succ]
        refine takeD (i := 13) (d := some 27) (v := ?vc13) rfl rfl (by kernel_rfl) (by kernel_rfl) (by kernel_rfl) (fun _ _ _ h => h) (Or.inl ⟨by rfl, ?hyc13⟩) (by assumption) ?_
        case hyc13 => (intro w hSw; (try dsimp only at hSw); go_simp <;> with_reducible rfl)
        try simp only [Act.put, List.setIfInBounds_toArray, List.set_cons_zero, List.set_cons_succ]
        refine takeD (i := 14) (d := some 28) (v := ?vc14) rfl rfl (by kernel_rfl) (by kernel_rfl) (by kernel_rfl) (fun _ _ _ h => h) (Or.inl ⟨by rfl, ?hyc14⟩) (by assumption) ?_
        case hyc14 => (intro w hSw; (try dsimp only at hSw); go_simp <;> with_reducible rfl)
        try simp only [Act.put, List.setIfInBounds_toArray, List.set_cons_zero, List.set_cons_succ]
        refine wpAnyH_ready (rs := [15]) (by kernel_rfl) (by simp) ?_
        refine (AllReadyH.cons rfl (fun K hK => ?_) AllReadyH.nil)
        rw [if_pos (by rfl)]
        go_simp
        refine Calls.mono (HAt.out _ (bl_then HBU.out hX1)) ?_
        rintro e wk2 ⟨rfl, hb2⟩
        have hX2 : Below U.heap.size U wk2 := bl_then hX1 hb2
        go_wp2_with fail
        refine hK.out _ _ (by assumption) (fun hHeld => ?_)
        clear hK K
        try simp only [Act.put, List.setIfInBounds_toArray, List.set_cons_zero, List.set_cons_succ]
        have HB9 : Hid (Below w.heap.size w wk2) := bl_then HBU.out hX2
        by_cases hat : 0 ≤ AT
        · have HE : Hid (VC = 8) := first.out (by rw [HSt2.out, if_pos hat])
          have hdec : decide (0 ≤ AT) = true := decide_eq_true hat
          refine takeD (i := 16) (d := some 30) (v := ?ve16) rfl rfl (by kernel_rfl) (by kernel_rfl) (by kernel_rfl) (fun _ _ _ h => h) (Or.inl ⟨by rfl, ?hye16⟩) (by assumption) ?_
          case hye16 => (intro w hSw; (try dsimp only at hSw); go_simp <;> with_reducible rfl)
          try simp only [Act.put, List.setIfInBounds_toArray, List.set_cons_zero, List.set_cons_succ]
          refine wpAnyH_done (by kernel_rfl) ?_ _
          refine NoPanic.normal ?_
          clear c0 c1 c2 c3 c4 c6 r0 r1 r2 hX0 hb1 hX1 hb2 hX2
          go_wp2
          go_ret
          exact ⟨ret_int HE.out.symm, HB9.out⟩
        · have HE : Hid (ST = 0) := by show _ = _; rw [HSt2.out, if_neg hat]
          have hdec : decide (0 ≤ AT) = false := decide_eq_false hat
          refine takeD (i := 16) (d := some 30) (v := ?vg16) rfl rfl (by kernel_rfl) (by kernel_rfl) (by kernel_rfl) (fun _ _ _ h => h) (Or.inl ⟨by rfl, ?hyg16⟩) (by assumption) ?_
          case hyg16 => (intro w hSw; (try dsimp only at hSw); go_simp <;> with_reducible rfl)
          try simp only [Act.put, List.setIfInBounds_toArray, List.set_cons_zero, List.set_cons_succ]
          refine wpAnyH_done (by kernel_rfl) ?_ _
          refine NoPanic.normal ?_
          clear c0 c1 c2 c3 c4 c6 r0 r1 r2 hX0 hb1 hX1 hb2 hX2
          go_wp2_with fail
          go_roundw
          case rel => exact ⟨k + 1, by have := HLT.out; omega, by go_num, HOK.out HE.out, HB9.out⟩
          case measure => have := HLT.out; simp [intOf]; omega
    · have HE : Hid (VC = 0) := by
        show _ = _
        rw [HVC5.out]
        exact scan_none _ _ _ (fun j _ hj => HZ.out j (by omega))
      obtain rfl : rn = k := by omega
      go_wp2
      go_ret
      exact ⟨ret_int HE.out.symm, HB.out⟩
end Go.Proofs.YtbdhhclamgmfkaaGreat
