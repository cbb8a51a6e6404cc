/- The tiles that are seen and not there: the program. -/
import Derived.Test.YtbdhhclamgmfkaaGreatVIsComplete47
import Derived.Test.YtbdhhclamgmfkaaGreatVIsComplete35
namespace Go.Proofs.YtbdhhclamgmfkaaGreat
open Go.RowKit
set_option linter.unusedSimpArgs false
set_option linter.unusedVariables false
set_option maxRecDepth 100000

set_option maxHeartbeats 8000000 in
theorem missing_any (B p : Nat) (z x y wd ht now s : Int) (n : Nat) (A : Nat → Kp) (ra : Option Addr) (rn rc : Nat) (bad : Int) (w : World) (hL : LkA w B p z x y wd ht now s n A ra rn rc bad) (hc : camB z x y wd ht = true) (h0 : ∀ j, j < n → kC A j = 0) :
    Calls Tryz.prog 30 #[.pointer (some ⟨p, 0, none⟩)] w fun e w' => ∃ v, e = .returned v ∧ RowS w.heap.size w' v (misL n A (visR z x y wd) (visM z x y wd ht)) ∧ Below w.heap.size w w' := by
  obtain ⟨i0, hi, hz0, hz1, hz2⟩ := info_parts info_rf
  obtain ⟨hB, sp, hV, hK, hne⟩ := hL
  have HV : Hid (Blk w p [.int .i64 z, .int .i64 x, .int .i64 y, .int .i64 wd, .int .i64 ht, .int .i64 now, .pointer (some ⟨sp, 0, none⟩), .slice ra rn rc, .int .i64 bad, .slice none 0 0]) := hV
  have HK : Hid (ShK w B sp s n A) := hK
  have hpl : p < w.heap.size := hV.lt
  have HZ0 : Hid (∀ j, j < n → kC A j = 0) := h0
  have HVi : Hid (∀ W, Calls Tryz.prog 61 #[camV z x y wd ht] W fun e w' => ∃ v, e = .returned (.agg #[.int .i64 0, v]) ∧ OwnT w' W.heap.size v (visM z x y wd ht) (visR z x y wd) ∧ Below W.heap.size W w') := fun W => by
    have := impl_VisibleRefs_any z x y wd ht W
    have e1 : camC z x y wd ht = 0 := by unfold camC; rw [if_pos hc]
    rw [e1] at this; exact this
  have HRB : Hid (∀ i, i < visM z x y wd ht → refB ((visR z x y wd).z i) ((visR z x y wd).x i) ((visR z x y wd).y i) = true) := fun i hi => visR_ref hc hi
  have hm4 : visM z x y wd ht ≤ 4 := visM_le _ _ _ _ _
  have c0 := hV.cell 0 rfl
  have c1 := hV.cell 1 rfl
  have c2 := hV.cell 2 rfl
  have c3 := hV.cell 3 rfl
  have c4 := hV.cell 4 rfl
  clear hV hK h0 hc hB hne
  generalize visM z x y wd ht = m at *
  generalize visR z x y wd = R at *
  go_enter Tryz.func30, Tryz.ntmps30
  go_wp2_with fail
  refine Calls.mono (HVi.out _) ?_
  rintro e w1 ⟨v, rfl, hO, hb1⟩
  obtain ⟨a0, cap0, hv, hc0, hI⟩ := hO.pts
  subst hv
  have HI : Hid (IsRs w1 a0 m R) := hI
  have HB1 : Hid (Below w.heap.size w w1) := hb1
  clear hO hI hb1 HVi c0 c1 c2 c3 c4
  have i1 : ∀ w, (Instr.field 33 (.agg #[.int .i64 0, .slice a0 m cap0]) 1).run Tryz.prog w = .ok (.slice a0 m cap0) w := fun _ => by kernel_rfl
  go_wp2_with fail
  go_loopw [3, 13] (fun v i wr => ∃ k : Nat, k ≤ m ∧ i = .int .i64 (k : Int) ∧ RowS w1.heap.size wr v (misL n A R k) ∧ Below w1.heap.size w1 wr) (fun _ i _ => m - (intOf i).toNat)
  case atStart => exact ⟨0, by omega, rfl, RowS.no _ _, Below.refl _ _⟩
  case round =>
    obtain ⟨k, hk, rfl, hO, hB⟩ := hrel
    have HO : Hid (RowS w1.heap.size wr u3 (misL n A R k)) := hO
    have HB : Hid (Below w1.heap.size w1 wr) := hB
    have HBw : Hid (Below w.heap.size w wr) := bl_then HB1.out hB
    clear hO hB
    by_cases hlt : k < m
    · rcases HI.out with h0 | ⟨b, off, rfl, hb, hpt⟩
      · omega
      obtain ⟨q0, q1, q2⟩ := (hpt.below HB.out hb) k hlt
      have hik : (k : Int) < (m : Int) := by omega
      have hi0 : (0 : Int) ≤ (k : Int) := by omega
      have hkl : k < m := hlt
      obtain ⟨iz, ix, iy⟩ := ref_I64 (HRB.out k hlt)
      have HAt : Hid (∀ W', Below w.heap.size w W' → Calls Tryz.prog 62 #[.pointer (some ⟨sp, 0, none⟩), refV (R.z k) (R.x k) (R.y k)] W' fun e w' => e = .returned (.bool (decide (0 ≤ atK n A (R.z k) (R.x k) (R.y k)))) ∧ Below W'.heap.size W' w') := fun W' h => by
        obtain ⟨mb, _, _, h3, h4, h5⟩ := HK.out.below h
        have := shelfHas_any sp mb n s (n : Int) (shD A n) (R.z k) (R.x k) (R.y k) W' h3 h5 iz ix iy
        rw [shD_has iz ix iy n (Rgt_of HZ0.out)] at this
        exact this
      have HLe := (show Hid _ from misL_len n A R k)
      have HY := (show Hid _ from @misL_has n A R k)
      have HN := (show Hid _ from @misL_not n A R k)
      clear iz ix iy hpt
      generalize R.z k = rz at *
      generalize R.x k = rx at *
      generalize R.y k = ry at *
      generalize atK n A rz rx ry = AT at *
      go_wp2_with fail
      generalize hU : (wr.alloc _ : World) = U
      have HBr : Hid (Below wr.heap.size wr U) := by show Below _ _ _; subst hU; (repeat (first | exact Below.refl _ _ | assumption | refine Below.drew ?_ | refine bl_alloc ?_ _ | refine bl_then ?_ (by assumption) | refine Below.setCell ?_ (by first | omega | (simp; done) | (simp; omega)) _ | refine bl_store ?_ ?_ _ _))
      have HBU : Hid (Below w.heap.size w U) := bl_then HBw.out HBr.out
      have HRU : Hid (RK U wr.heap.size rz rx ry) := by show RK _ _ _ _ _; subst hU; refine ⟨?_, ?_, ?_⟩ <;> simp [go_sem]
      have hrl : wr.heap.size < U.heap.size := World.block_lt_of_cell? _ _ HRU.out.1
      clear hU q0 q1 q2
      have c6 : ∀ W', Below U.heap.size U W' → W'.cell? ⟨p, 6, none⟩ = some (.pointer (some ⟨sp, 0, none⟩)) := fun W' h => (HV.out.below hpl (bl_then HBU.out h)).cell 6 rfl
      have r0 : ∀ W', Below U.heap.size U W' → W'.cell? ⟨wr.heap.size, 0, none⟩ = some (.int .i64 rz) := fun W' h => (HRU.out.below h).1
      have r1 : ∀ W', Below U.heap.size U W' → W'.cell? ⟨wr.heap.size, 1, none⟩ = some (.int .i64 rx) := fun W' h => (HRU.out.below h).2.1
      have r2 : ∀ W', Below U.heap.size U W' → W'.cell? ⟨wr.heap.size, 2, none⟩ = some (.int .i64 ry) := fun W' h => (HRU.out.below h).2.2
      refine wp_region_noPanic ?_
      refine wp_region_held_drew (S := fun W' => Below U.heap.size U W') (by kernel_rfl) (by have := Below.refl U.heap.size U; (repeat (first | exact Below.refl _ _ | assumption | refine Below.drew ?_ | refine bl_alloc ?_ _ | refine bl_then ?_ (by assumption) | refine Below.setCell ?_ (by first | omega | (simp; done) | (simp; omega)) _ | refine bl_store ?_ ?_ _ _))) (fun hHeld => ?_)
      have hX0a : Below U.heap.size U U.drew := hHeld
      refine takeD (i := 0) (d := some 17) (v := ?va0) rfl rfl (by kernel_rfl) (by kernel_rfl) (by kernel_rfl) (fun _ _ _ h => h) (Or.inl ⟨by rfl, ?hya0⟩) (by assumption) ?_
      case hya0 => (intro w hSw; (try dsimp only at hSw); go_simp <;> with_reducible rfl)
      try simp only [Act.put, List.setIfInBounds_toArray, List.set_cons_zero, List.set_cons_succ]
      refine takeD (i := 1) (d := some 18) (v := ?va1) rfl rfl (by kernel_rfl) (by kernel_rfl) (by kernel_rfl) (fun _ _ _ h => h) (Or.inl ⟨by rfl, ?hya1⟩) (by assumption) ?_
      case hya1 => (intro w hSw; (try dsimp only at hSw); go_simp <;> with_reducible rfl)
      try simp only [Act.put, List.setIfInBounds_toArray, List.set_cons_zero, List.set_cons_succ]
      refine takeD (i := 2) (d := some 19) (v := ?va2) rfl rfl (by kernel_rfl) (by kernel_rfl) (by kernel_rfl) (fun _ _ _ h => h) (Or.inl ⟨by rfl, ?hya2⟩) (by assumption) ?_
      case hya2 => (intro w hSw; (try dsimp only at hSw); go_simp <;> with_reducible rfl)
      try simp only [Act.put, List.setIfInBounds_toArray, List.set_cons_zero, List.set_cons_succ]
      refine takeD (i := 3) (d := some 20) (v := ?va3) rfl rfl (by kernel_rfl) (by kernel_rfl) (by kernel_rfl) (fun _ _ _ h => h) (Or.inl ⟨by rfl, ?hya3⟩) (by assumption) ?_
      case hya3 => (intro w hSw; (try dsimp only at hSw); go_simp <;> with_reducible rfl)
      try simp only [Act.put, List.setIfInBounds_toArray, List.set_cons_zero, List.set_cons_succ]
      refine takeD (i := 4) (d := some 21) (v := ?va4) rfl rfl (by kernel_rfl) (by kernel_rfl) (by kernel_rfl) (fun _ _ _ h => h) (Or.inl ⟨by rfl, ?hya4⟩) (by assumption) ?_
      case hya4 => (intro w hSw; (try dsimp only at hSw); go_simp <;> with_reducible rfl)
      try simp only [Act.put, List.setIfInBounds_toArray, List.set_cons_zero, List.set_cons_succ]
      generalize U.drew = wk0a at *
      refine wpAnyH_ready (rs := [5]) (by kernel_rfl) (by simp) ?_
      refine (AllReadyH.cons rfl (fun K hK => ?_) AllReadyH.nil)
      rw [if_pos (by rfl)]
      go_simp
      refine Calls.mono (HAt.out _ (bl_then HBU.out hX0a)) ?_
      rintro e wk1a ⟨rfl, hb1a⟩
      have hX1a : Below U.heap.size U wk1a := bl_then hX0a hb1a
      go_wp2_with fail
      refine hK.out _ _ (by assumption) (fun hHeld => ?_)
      clear hK K
      try simp only [Act.put, List.setIfInBounds_toArray, List.set_cons_zero, List.set_cons_succ]
      have HB9 : Hid (Below U.heap.size U wk1a) := hX1a
      by_cases hat : 0 ≤ AT
      · have HE := (show Hid _ from HY.out hat)
        have hdec : decide (0 ≤ AT) = true := decide_eq_true hat
        refine takeD (i := 6) (d := some 23) (v := ?vy6) rfl rfl (by kernel_rfl) (by kernel_rfl) (by kernel_rfl) (fun _ _ _ h => h) (Or.inl ⟨by rfl, ?hyy6⟩) (by assumption) ?_
        case hyy6 => (intro w hSw; (try dsimp only at hSw); go_simp <;> with_reducible rfl)
        try simp only [Act.put, List.setIfInBounds_toArray, List.set_cons_zero, List.set_cons_succ]
        refine wpAnyH_done (by kernel_rfl) ?_ _
        refine NoPanic.normal ?_
        clear c6 r0 r1 r2 hX0a hb1a hX1a
        go_wp2_with fail
        go_roundw
        case rel => exact ⟨k + 1, by omega, by go_num, by rw [HE.out]; exact (HO.out.below HBr.out).below HB9.out, bl_then HB.out (bl_then HBr.out HB9.out)⟩
        case measure => simp [intOf]; omega
      · have HE := (show Hid _ from HN.out (by omega))
        have hdec : decide (0 ≤ AT) = false := decide_eq_false hat
        refine takeD (i := 6) (d := some 23) (v := ?vn6) rfl rfl (by kernel_rfl) (by kernel_rfl) (by kernel_rfl) (fun _ _ _ h => h) (Or.inl ⟨by rfl, ?hyn6⟩) (by assumption) ?_
        case hyn6 => (intro w hSw; (try dsimp only at hSw); go_simp <;> with_reducible rfl)
        try simp only [Act.put, List.setIfInBounds_toArray, List.set_cons_zero, List.set_cons_succ]
        refine wpAnyH_done (by kernel_rfl) ?_ _
        refine NoPanic.normal ?_
        have k0 := r0 _ HB9.out
        have k1 := r1 _ HB9.out
        have k2 := r2 _ HB9.out
        have HO9 : Hid (RowS w1.heap.size wk1a u3 (misL n A R k)) := (HO.out.below HBr.out).below HB9.out
        have HB10 : Hid (Below w1.heap.size w1 wk1a) := bl_then HB.out (bl_then HBr.out HB9.out)
        have hle := HLe.out
        have hs9 : w1.heap.size ≤ wk1a.heap.size := HB10.out.size
        have HS : Hid (cellsR (rfsOf (misL n A R k ++ [⟨rz, rx, ry, 0, 0⟩])) ((misL n A R k).length + 1) = cellsR (rfsOf (misL n A R k)) (misL n A R k).length ++ [.int .i64 rz, .int .i64 rx, .int .i64 ry]) := cellsR_app _ _
        clear c6 r0 r1 r2 hX0a hb1a hX1a HO HB
        go_wp2_with (first
          | (at_builtin; go_must (refine wpList_append_own _ rfl _ _ 31 rfl w1.heap.size 87 i0 (.agg #[.int .i64 0, .int .i64 0, .int .i64 0]) 3 24 Tryz.underlying31 hi hz0 hz1 hz2 rfl (by decide) _ (misL n A R k).length (cellsR (rfsOf (misL n A R k)) (misL n A R k).length) rfl (World.ownsRow.alloc HO9.out _) ⟨wk1a.heap.size, 0, none⟩ 1 1 [.int .i64 rz, .int .i64 rx, .int .i64 ry] rfl rfl ?c1 ?c2 ?c3 ?c4 ?c5 ?_)))
        try
          case c1 =>
            intro q u hq
            match q, hq with
            | 0, hq => simp at hq; subst hq; simp [Addr.add, go_sem]
            | 1, hq => simp at hq; subst hq; simp [Addr.add, go_sem]
            | 2, hq => simp at hq; subst hq; simp [Addr.add, go_sem]
            | q + 3, hq => simp at hq
        case c2 => first | exact ⟨rfl, rfl, rfl⟩ | (intro u hu; simp at hu; rcases hu with rfl | rfl | rfl <;> rfl)
        case c3 => unfold maxLen; omega
        case c4 => omega
        case c5 => first | omega | (simp; omega)
        intro v' w3 hown' hgrow hnil
        clear hnil
        generalize hV : (wk1a.alloc _ : World) = V at hgrow
        have hBV : Below wk1a.heap.size wk1a V := by subst hV; (repeat (first | exact Below.refl _ _ | assumption | refine Below.drew ?_ | refine bl_alloc ?_ _ | refine bl_then ?_ (by assumption) | refine Below.setCell ?_ (by first | omega | (simp; done) | (simp; omega)) _ | refine bl_store ?_ ?_ _ _))
        have hBg : Below w1.heap.size V w3 := (Below.refl _ _).grown hgrow (by have := hBV.size; omega) (fun k hk => (HO9.out.lt k hk).1)
        have HB3 : Hid (Below w1.heap.size w1 w3) := (HB10.out.trans (hBV.mono hs9)).trans hBg
        have HO3 : Hid (RowS w1.heap.size w3 v' (misL n A R (k + 1))) := by
          show World.ownsRow _ _ _ _ _ _ _
          rw [HE.out, List.length_append]
          show World.ownsRow _ _ _ _ _ ((misL n A R k).length + 1) (cellsR _ ((misL n A R k).length + 1))
          rw [HS.out]
          exact hown'
        clear hown' hgrow hBg hBV hV
        go_wp2
        go_roundw
        case rel => exact ⟨k + 1, by omega, by go_num, HO3.out, HB3.out⟩
        case measure => simp [intOf]; omega
    · obtain rfl : m = k := by omega
      go_wp2
      go_ret
      exact ⟨_, rfl, ownsRow_wideW HO.out HB1.out.size, bl_then HB1.out HB.out⟩
end Go.Proofs.YtbdhhclamgmfkaaGreat
