/- Several texts in one. -/
import Derived.Test.YtbdhhclamgmfkaaGreatVMissingIn39
import Derived.Test.YtbdhhclamgmfkaaGreatVMissingIn28
import Derived.Test.YtbdhhclamgmfkaaGreatVMissingIn31
import Derived.Deep.AppendLies

/- The tiles that are seen and not there: the program. -/

namespace Go.Proofs.YtbdhhclamgmfkaaGreat
open Go.RowKit
set_option linter.unusedSimpArgs false
set_option linter.unusedVariables false
set_option maxRecDepth 100000

set_option maxHeartbeats 8000000 in
theorem missing_any (B p : Nat) (z x y wd ht now s : Int) (n : Nat) (A : Nat → Kp) (ra : Option Addr) (rn rc : Nat) (bad : Int) (w : World) (hL : LkA w B p z x y wd ht now s n A ra rn rc bad) (hc : camB z x y wd ht = true) (h0 : ∀ j, j < n → kC A j = 0) :
    Calls Tryz.prog 30 #[.pointer (some ⟨p, 0, none⟩)] w fun e w' => ∃ v, e = .returned v ∧ RowS w.heap.size w' v (misL n A (visR z x y wd) (visM z x y wd ht)) ∧ Below w.heap.size w w' := by
  obtain ⟨i0, hi, hz0, hz1, hz2⟩ := info_parts info_rf
  obtain ⟨hB, sp, hV, hK, hne⟩ := hL
  have HV : Hid (Blk w p [.int .i64 z, .int .i64 x, .int .i64 y, .int .i64 wd, .int .i64 ht, .int .i64 now, .pointer (some ⟨sp, 0, none⟩), .slice ra rn rc, .int .i64 bad, .slice none 0 0]) := hV
  have HK : Hid (ShK w B sp s n A) := hK
  have hpl : p < w.heap.size := hV.lt
  have HZ0 : Hid (∀ j, j < n → kC A j = 0) := h0
  have HVi : Hid (∀ W, Calls Tryz.prog 61 #[camV z x y wd ht] W fun e w' => ∃ v, e = .returned (.agg #[.int .i64 0, v]) ∧ OwnT w' W.heap.size v (visM z x y wd ht) (visR z x y wd) ∧ Below W.heap.size W w') := fun W => by
    have := impl_VisibleRefs_any z x y wd ht W
    have e1 : camC z x y wd ht = 0 := by unfold camC; rw [if_pos hc]
    rw [e1] at this; exact this
  have HRB : Hid (∀ i, i < visM z x y wd ht → refB ((visR z x y wd).z i) ((visR z x y wd).x i) ((visR z x y wd).y i) = true) := fun i hi => visR_ref hc hi
  have hm4 : visM z x y wd ht ≤ 4 := visM_le _ _ _ _ _
  have c0 := hV.cell 0 rfl
  have c1 := hV.cell 1 rfl
  have c2 := hV.cell 2 rfl
  have c3 := hV.cell 3 rfl
  have c4 := hV.cell 4 rfl
  clear hV hK h0 hc hB hne
  generalize visM z x y wd ht = m at *
  generalize visR z x y wd = R at *
  go_enter Tryz.func30, Tryz.ntmps30
  go_wp2_with fail
  refine Calls.mono (HVi.out _) ?_
  rintro e w1 ⟨v, rfl, hO, hb1⟩
  obtain ⟨a0, cap0, hv, hc0, hI⟩ := hO.pts
  subst hv
  have HI : Hid (IsRs w1 a0 m R) := hI
  have HB1 : Hid (Below w.heap.size w w1) := hb1
  clear hO hI hb1 HVi c0 c1 c2 c3 c4
  have i1 : ∀ w, (Instr.field 33 (.agg #[.int .i64 0, .slice a0 m cap0]) 1).run Tryz.prog w = .ok (.slice a0 m cap0) w := fun _ => by kernel_rfl
  go_wp2_with fail
  go_loopw [3, 13] (fun v i wr => ∃ k : Nat, k ≤ m ∧ i = .int .i64 (k : Int) ∧ RowS w1.heap.size wr v (misL n A R k) ∧ Below w1.heap.size w1 wr) (fun _ i _ => m - (intOf i).toNat)
  case atStart => exact ⟨0, by omega, rfl, RowS.no _ _, Below.refl _ _⟩
  case round =>
    obtain ⟨k, hk, rfl, hO, hB⟩ := hrel
    have HO : Hid (RowS w1.heap.size wr u3 (misL n A R k)) := hO
    have HB : Hid (Below w1.heap.size w1 wr) := hB
    have HBw : Hid (Below w.heap.size w wr) := bl_then HB1.out hB
    clear hO hB
    by_cases hlt : k < m
    · rcases HI.out with h0 | ⟨b, off, rfl, hb, hpt⟩
      · omega
      obtain ⟨q0, q1, q2⟩ := (hpt.below HB.out hb) k hlt
      have hik : (k : Int) < (m : Int) := by omega
      have hi0 : (0 : Int) ≤ (k : Int) := by omega
      have hkl : k < m := hlt
      obtain ⟨iz, ix, iy⟩ := ref_I64 (HRB.out k hlt)
      have HAt : Hid (∀ W', Below w.heap.size w W' → Calls Tryz.prog 62 #[.pointer (some ⟨sp, 0, none⟩), refV (R.z k) (R.x k) (R.y k)] W' fun e w' => e = .returned (.bool (decide (0 ≤ atK n A (R.z k) (R.x k) (R.y k)))) ∧ Below W'.heap.size W' w') := fun W' h => by
        obtain ⟨mb, _, _, h3, h4, h5⟩ := HK.out.below h
        have := shelfHas_any sp mb n s (n : Int) (shD A n) (R.z k) (R.x k) (R.y k) W' h3 h5 iz ix iy
        rw [shD_has iz ix iy n (Rgt_of HZ0.out)] at this
        exact this
      have HLe := (show Hid _ from misL_len n A R k)
      have HY := (show Hid _ from @misL_has n A R k)
      have HN := (show Hid _ from @misL_not n A R k)
      clear iz ix iy hpt
      generalize R.z k = rz at *
      generalize R.x k = rx at *
      generalize R.y k = ry at *
      generalize atK n A rz rx ry = AT at *
      go_wp2_with fail
      generalize hU : (wr.alloc _ : World) = U
      have HBr : Hid (Below wr.heap.size wr U) := by show Below _ _ _; subst hU; (repeat (first | exact Below.refl _ _ | assumption | refine Below.drew ?_ | refine bl_alloc ?_ _ | refine bl_then ?_ (by assumption) | refine Below.setCell ?_ (by first | omega | (simp; done) | (simp; omega)) _ | refine bl_store ?_ ?_ _ _))
      have HBU : Hid (Below w.heap.size w U) := bl_then HBw.out HBr.out
      have HRU : Hid (RK U wr.heap.size rz rx ry) := by show RK _ _ _ _ _; subst hU; refine ⟨?_, ?_, ?_⟩ <;> simp [go_sem]
      have hrl : wr.heap.size < U.heap.size := World.block_lt_of_cell? _ _ HRU.out.1
      clear hU q0 q1 q2
      have c6 : ∀ W', Below U.heap.size U W' → W'.cell? ⟨p, 6, none⟩ = some (.pointer (some ⟨sp, 0, none⟩)) := fun W' h => (HV.out.below hpl (bl_then HBU.out h)).cell 6 rfl
      have r0 : ∀ W', Below U.heap.size U W' → W'.cell? ⟨wr.heap.size, 0, none⟩ = some (.int .i64 rz) := fun W' h => (HRU.out.below h).1
      have r1 : ∀ W', Below U.heap.size U W' → W'.cell? ⟨wr.heap.size, 1, none⟩ = some (.int .i64 rx) := fun W' h => (HRU.out.below h).2.1
      have r2 : ∀ W', Below U.heap.size U W' → W'.cell? ⟨wr.heap.size, 2, none⟩ = some (.int .i64 ry) := fun W' h => (HRU.out.below h).2.2
      refine wp_region_noPanic ?_
      refine wp_region_held_drew (S := fun W' => Below U.heap.size U W') (by kernel_rfl) (by have := Below.refl U.heap.size U; (repeat (first | exact Below.refl _ _ | assumption | refine Below.drew ?_ | refine bl_alloc ?_ _ | refine bl_then ?_ (by assumption) | refine Below.setCell ?_ (by first | omega | (simp; done) | (simp; omega)) _ | refine bl_store ?_ ?_ _ _))) (fun hHeld => ?_)
      have hX0a : Below U.heap.size U U.drew := hHeld
      refine takeD (i := 0) (d := some 17) (v := ?va0) rfl rfl (by kernel_rfl) (by kernel_rfl) (by kernel_rfl) (fun _ _ _ h => h) (Or.inl ⟨by rfl, ?hya0⟩) (by assumption) ?_
      case hya0 => (intro w hSw; (try dsimp only at hSw); go_simp <;> with_reducible rfl)
      try simp only [Act.put, List.setIfInBounds_toArray, List.set_cons_zero, List.set_cons_succ]
      refine takeD (i := 1) (d := some 18) (v := ?va1) rfl rfl (by kernel_rfl) (by kernel_rfl) (by kernel_rfl) (fun _ _ _ h => h) (Or.inl ⟨by rfl, ?hya1⟩) (by assumption) ?_
      case hya1 => (intro w hSw; (try dsimp only at hSw); go_simp <;> with_reducible rfl)
      try simp only [Act.put, List.setIfInBounds_toArray, List.set_cons_zero, List.set_cons_succ]
      refine takeD (i := 2) (d := some 19) (v := ?va2) rfl rfl (by kernel_rfl) (by kernel_rfl) (by kernel_rfl) (fun _ _ _ h => h) (Or.inl ⟨by rfl, ?hya2⟩) (by assumption) ?_
      case hya2 => (intro w hSw; (try dsimp only at hSw); go_simp <;> with_reducible rfl)
      try simp only [Act.put, List.setIfInBounds_toArray, List.set_cons_zero, List.set_cons_succ]
      refine takeD (i := 3) (d := some 20) (v := ?va3) rfl rfl (by kernel_rfl) (by kernel_rfl) (by kernel_rfl) (fun _ _ _ h => h) (Or.inl ⟨by rfl, ?hya3⟩) (by assumption) ?_
      case hya3 => (intro w hSw; (try dsimp only at hSw); go_simp <;> with_reducible rfl)
      try simp only [Act.put, List.setIfInBounds_toArray, List.set_cons_zero, List.set_cons_succ]
      refine takeD (i := 4) (d := some 21) (v := ?va4) rfl rfl (by kernel_rfl) (by kernel_rfl) (by kernel_rfl) (fun _ _ _ h => h) (Or.inl ⟨by rfl, ?hya4⟩) (by assumption) ?_
      case hya4 => (intro w hSw; (try dsimp only at hSw); go_simp <;> with_reducible rfl)
      try simp only [Act.put, List.setIfInBounds_toArray, List.set_cons_zero, List.set_cons_succ]
      generalize U.drew = wk0a at *
      refine wpAnyH_ready (rs := [5]) (by kernel_rfl) (by simp) ?_
      refine (AllReadyH.cons rfl (fun K hK => ?_) AllReadyH.nil)
      rw [if_pos (by rfl)]
      go_simp
      refine Calls.mono (HAt.out _ (bl_then HBU.out hX0a)) ?_
      rintro e wk1a ⟨rfl, hb1a⟩
      have hX1a : Below U.heap.size U wk1a := bl_then hX0a hb1a
      go_wp2_with fail
      refine hK.out _ _ (by assumption) (fun hHeld => ?_)
      clear hK K
      try simp only [Act.put, List.setIfInBounds_toArray, List.set_cons_zero, List.set_cons_succ]
      have HB9 : Hid (Below U.heap.size U wk1a) := hX1a
      by_cases hat : 0 ≤ AT
      · have HE := (show Hid _ from HY.out hat)
        have hdec : decide (0 ≤ AT) = true := decide_eq_true hat
        refine takeD (i := 6) (d := some 23) (v := ?vy6) rfl rfl (by kernel_rfl) (by kernel_rfl) (by kernel_rfl) (fun _ _ _ h => h) (Or.inl ⟨by rfl, ?hyy6⟩) (by assumption) ?_
        case hyy6 => (intro w hSw; (try dsimp only at hSw); go_simp <;> with_reducible rfl)
        try simp only [Act.put, List.setIfInBounds_toArray, List.set_cons_zero, List.set_cons_succ]
        refine wpAnyH_done (by kernel_rfl) ?_ _
        refine NoPanic.normal ?_
        clear c6 r0 r1 r2 hX0a hb1a hX1a
        go_wp2_with fail
        go_roundw
        case rel => exact ⟨k + 1, by omega, by go_num, by rw [HE.out]; exact (HO.out.below HBr.out).below HB9.out, bl_then HB.out (bl_then HBr.out HB9.out)⟩
        case measure => simp [intOf]; omega
      · have HE := (show Hid _ from HN.out (by omega))
        have hdec : decide (0 ≤ AT) = false := decide_eq_false hat
        refine takeD (i := 6) (d := some 23) (v := ?vn6) rfl rfl (by kernel_rfl) (by kernel_rfl) (by kernel_rfl) (fun _ _ _ h => h) (Or.inl ⟨by rfl, ?hyn6⟩) (by assumption) ?_
        case hyn6 => (intro w hSw; (try dsimp only at hSw); go_simp <;> with_reducible rfl)
        try simp only [Act.put, List.setIfInBounds_toArray, List.set_cons_zero, List.set_cons_succ]
        refine wpAnyH_done (by kernel_rfl) ?_ _
        refine NoPanic.normal ?_
        have k0 := r0 _ HB9.out
        have k1 := r1 _ HB9.out
        have k2 := r2 _ HB9.out
        have HO9 : Hid (RowS w1.heap.size wk1a u3 (misL n A R k)) := (HO.out.below HBr.out).below HB9.out
        have HB10 : Hid (Below w1.heap.size w1 wk1a) := bl_then HB.out (bl_then HBr.out HB9.out)
        have hle := HLe.out
        have hs9 : w1.heap.size ≤ wk1a.heap.size := HB10.out.size
        have HS : Hid (cellsR (rfsOf (misL n A R k ++ [⟨rz, rx, ry, 0, 0⟩])) ((misL n A R k).length + 1) = cellsR (rfsOf (misL n A R k)) (misL n A R k).length ++ [.int .i64 rz, .int .i64 rx, .int .i64 ry]) := cellsR_app _ _
        clear c6 r0 r1 r2 hX0a hb1a hX1a HO HB
        go_wp2_with (first
          | (at_builtin; go_must (refine wpList_append_own _ rfl _ _ 31 rfl w1.heap.size 87 i0 (.agg #[.int .i64 0, .int .i64 0, .int .i64 0]) 3 24 Tryz.underlying31 hi hz0 hz1 hz2 rfl (by decide) _ (misL n A R k).length (cellsR (rfsOf (misL n A R k)) (misL n A R k).length) rfl (World.ownsRow.alloc HO9.out _) ⟨wk1a.heap.size, 0, none⟩ 1 1 [.int .i64 rz, .int .i64 rx, .int .i64 ry] rfl rfl ?c1 ?c2 ?c3 ?c4 ?c5 ?_)))
        try
          case c1 =>
            intro q u hq
            match q, hq with
            | 0, hq => simp at hq; subst hq; simp [Addr.add, go_sem]
            | 1, hq => simp at hq; subst hq; simp [Addr.add, go_sem]
            | 2, hq => simp at hq; subst hq; simp [Addr.add, go_sem]
            | q + 3, hq => simp at hq
        case c2 => first | exact ⟨rfl, rfl, rfl⟩ | (intro u hu; simp at hu; rcases hu with rfl | rfl | rfl <;> rfl)
        case c3 => unfold maxLen; omega
        case c4 => omega
        case c5 => first | omega | (simp; omega)
        intro v' w3 hown' hgrow hnil
        clear hnil
        generalize hV : (wk1a.alloc _ : World) = V at hgrow
        have hBV : Below wk1a.heap.size wk1a V := by subst hV; (repeat (first | exact Below.refl _ _ | assumption | refine Below.drew ?_ | refine bl_alloc ?_ _ | refine bl_then ?_ (by assumption) | refine Below.setCell ?_ (by first | omega | (simp; done) | (simp; omega)) _ | refine bl_store ?_ ?_ _ _))
        have hBg : Below w1.heap.size V w3 := (Below.refl _ _).grown hgrow (by have := hBV.size; omega) (fun k hk => (HO9.out.lt k hk).1)
        have HB3 : Hid (Below w1.heap.size w1 w3) := (HB10.out.trans (hBV.mono hs9)).trans hBg
        have HO3 : Hid (RowS w1.heap.size w3 v' (misL n A R (k + 1))) := by
          show World.ownsRow _ _ _ _ _ _ _
          rw [HE.out, List.length_append]
          show World.ownsRow _ _ _ _ _ ((misL n A R k).length + 1) (cellsR _ ((misL n A R k).length + 1))
          rw [HS.out]
          exact hown'
        clear hown' hgrow hBg hBV hV
        go_wp2
        go_roundw
        case rel => exact ⟨k + 1, by omega, by go_num, HO3.out, HB3.out⟩
        case measure => simp [intOf]; omega
    · obtain rfl : m = k := by omega
      go_wp2
      go_ret
      exact ⟨_, rfl, ownsRow_wideW HO.out HB1.out.size, bl_then HB1.out HB.out⟩
end Go.Proofs.YtbdhhclamgmfkaaGreat
/- The tiles that are seen and not there: the model; IsComplete of both. -/

namespace Go.Proofs.YtbdhhclamgmfkaaGreat
open Go.RowKit
set_option linter.unusedSimpArgs false
set_option linter.unusedVariables false
set_option maxRecDepth 100000

theorem RsAt.grownM {w w' : World} {b off n g : Nat} {R : Rfs} (h : RsAt w b off n R) (hb : b < w.heap.size) (hg : w.grownBy w' (some g)) (hne : b ≠ g) : RsAt w' b off n R := fun i hi =>
  ⟨(hg.cell_far ⟨b, _, none⟩ hb (fun e => hne (by injection e))).trans (h i hi).1, (hg.cell_far ⟨b, _, none⟩ hb (fun e => hne (by injection e))).trans (h i hi).2.1, (hg.cell_far ⟨b, _, none⟩ hb (fun e => hne (by injection e))).trans (h i hi).2.2⟩
theorem viewC_zero {z x y wd ht now s : Int} {n : Nat} {K : Nat → Kp} {rn : Nat} {E : Nat → Req} {bad : Int} (h : viewC z x y wd ht now s n K rn E bad = 0) : camB z x y wd ht = true ∧ cacheC s n K = 0 := by
  have h1 : or2 (camC z x y wd ht) (cntC now bad) = 0 := by
    by_cases e : or2 (camC z x y wd ht) (cntC now bad) = 0
    · exact e
    · rw [viewC_first e] at h; exact h
  have h2 : or3 (cacheC s n K) (if s < 4 then 3 else 0) (reqsC rn E) = 0 := by
    by_cases e : or3 (cacheC s n K) (if s < 4 then 3 else 0) (reqsC rn E) = 0
    · exact e
    · rw [viewC_second h1 e] at h; exact h
  refine ⟨?_, (or3_zero h2).1⟩
  have h3 := (or2_zero h1).1
  unfold camC at h3
  by_cases e : camB z x y wd ht = true
  · exact e
  · rw [if_neg e] at h3; cases h3
set_option maxHeartbeats 8000000 in
theorem l13Missing_any (q : Nat) (z x y wd ht now s : Int) (b n cap : Nat) (A : Nat → Kp) (ra : Option Addr) (rn rc : Nat) (bad : Int) (w : World) (hV : Blk w q [.int .i64 z, .int .i64 x, .int .i64 y, .int .i64 wd, .int .i64 ht, .int .i64 now, .int .i64 s, .slice (some ⟨b, 0, none⟩) n cap, .slice ra rn rc, .int .i64 bad]) (ha : IsKs w (some ⟨b, 0, none⟩) n A) (hn : n ≤ 1048576) (hc : camB z x y wd ht = true) :
    Calls Tryz.prog 25 #[.pointer (some ⟨q, 0, none⟩)] w fun e w' => ∃ v, e = .returned v ∧ RowS w.heap.size w' v (misL n A (visR z x y wd) (visM z x y wd ht)) ∧ Below w.heap.size w w' := by
  obtain ⟨i0, hi, hz0, hz1, hz2⟩ := info_parts info_rf
  have hql : q < w.heap.size := hV.lt
  have HV : Hid (Blk w q [.int .i64 z, .int .i64 x, .int .i64 y, .int .i64 wd, .int .i64 ht, .int .i64 now, .int .i64 s, .slice (some ⟨b, 0, none⟩) n cap, .slice ra rn rc, .int .i64 bad]) := hV
  have HRf : Hid (∀ W, Below w.heap.size w W → Calls Tryz.prog 51 #[.pointer (some ⟨q, 0, none⟩)] W fun e w' => ∃ v, e = .returned v ∧ RowT W.heap.size w' v (visM z x y wd ht) (visR z x y wd) ∧ Below W.heap.size W w') := fun W h => by
    have hb := hV.below hql h
    exact l9Refs_any q W ⟨hb.cell 0 rfl, hb.cell 1 rfl, hb.cell 2 rfl, hb.cell 3 rfl, hb.cell 4 rfl⟩ hc
  have HAt : Hid (∀ W' rz rx ry, Below w.heap.size w W' → Calls Tryz.prog 50 #[.pointer (some ⟨q, 6, none⟩), refV rz rx ry] W' fun e w' => e = .returned (.int .i64 (atK n A rz rx ry)) ∧ Below W'.heap.size W' w') := fun W' rz rx ry h => by
    have hb := hV.below hql h
    exact l11At_off q 6 s _ n cap A rz rx ry W' ⟨hb.cell 6 rfl, hb.cell 7 rfl⟩ (ha.below h) hn
  have hm4 : visM z x y wd ht ≤ 4 := visM_le _ _ _ _ _
  clear hV ha hc
  generalize visM z x y wd ht = m at *
  generalize visR z x y wd = R at *
  go_enter Tryz.func25, Tryz.ntmps25
  go_wp2_with fail
  generalize hW : (w.alloc _ : World) = W
  have HB0 : Hid (Below w.heap.size w W) := by show Below _ _ _; subst hW; (repeat (first | exact Below.refl _ _ | assumption | refine Below.drew ?_ | refine bl_alloc ?_ _ | refine bl_then ?_ (by assumption) | refine Below.setCell ?_ (by first | omega | (simp; done) | (simp; omega)) _ | refine bl_store ?_ ?_ _ _))
  have HO0 : Hid (RowS w.heap.size W (.slice (some ⟨w.heap.size, 0, none⟩) 0 0) []) := by
    show World.ownsRow _ _ _ _ _ _ _
    subst hW
    exact ⟨by simp [cellsR], .inr ⟨w.heap.size, 0, #[], rfl, Nat.le_refl _, heap_alloc_new w _, by simp, by unfold maxLen; omega, by simp, by simp [cellsR]⟩⟩
  have hsW : w.heap.size < W.heap.size := by subst hW; simp
  clear hW
  refine Calls.mono (HRf.out _ HB0.out) ?_
  rintro e w1 ⟨v, rfl, hO, hb1⟩
  obtain ⟨a0, cap0, hv, hc0, hI⟩ := hO.own
  subst hv
  have HI : Hid (m = 0 ∨ ∃ gr, a0 = some ⟨gr, 0, none⟩ ∧ W.heap.size ≤ gr ∧ gr < w1.heap.size ∧ RsAt w1 gr 0 m R) := by
    rcases hI with h | ⟨g, ha, h1, h2, h3, _⟩
    · exact .inl h
    · exact .inr ⟨g, ha, h1, h2, h3⟩
  have HO1 : Hid (RowS w.heap.size w1 (.slice (some ⟨w.heap.size, 0, none⟩) 0 0) []) := HO0.out.below hb1
  have HB1 : Hid (Below w.heap.size w w1) := bl_then HB0.out hb1
  have hs1 : W.heap.size ≤ w1.heap.size := hb1.size
  clear hI hO hb1 HRf HO0 HB0
  go_wp2_with fail
  go_loopw [3, 5] (fun v i wr => ∃ (k : Nat), k ≤ m ∧ i = .int .i64 (k : Int) ∧ (∃ g ln c, v = .slice (some ⟨g, 0, none⟩) ln c ∧ ∀ gr, a0 = some ⟨gr, 0, none⟩ → m ≠ 0 → g ≠ gr ∧ gr < wr.heap.size ∧ RsAt wr gr 0 m R) ∧ RowS w.heap.size wr v (misL n A R k) ∧ Below w.heap.size w wr) (fun _ i _ => m - (intOf i).toNat)
  case atStart =>
    refine ⟨0, by omega, rfl, ⟨_, _, _, rfl, fun gr e hm => ?_⟩, HO1.out, HB1.out⟩
    rcases HI.out with h | ⟨gr', e', h1, h2, h3⟩
    · exact absurd h hm
    · rw [e'] at e; injection e with e; injection e with e; subst e
      exact ⟨by omega, h2, h3⟩
  case round =>
    obtain ⟨k, hk, rfl, ⟨g, ln, c, rfl, hG⟩, hO, hB⟩ := hrel
    have HO : Hid (RowS w.heap.size wr (.slice (some ⟨g, 0, none⟩) ln c) (misL n A R k)) := hO
    have HB : Hid (Below w.heap.size w wr) := hB
    clear hO hB
    by_cases hlt : k < m
    · rcases HI.out with h0 | ⟨gr, rfl, h1, h2, _⟩
      · omega
      obtain ⟨hne, hgl, hpt⟩ := hG gr rfl (by omega)
      have HPt : Hid (RsAt wr gr 0 m R) := hpt
      obtain ⟨q0, q1, q2⟩ := hpt k hlt
      have hi' : (k : Int) < (m : Int) := by omega
      have hi0 : (0 : Int) ≤ (k : Int) := by omega
      have HA := (show Hid _ from HAt.out)
      have HLe := (show Hid _ from misL_len n A R k)
      have HY := (show Hid _ from @misL_has n A R k)
      have HN := (show Hid _ from @misL_not n A R k)
      have e0 : ∀ W', Below wr.heap.size wr W' → W'.cell? ⟨gr, 0 + k * 3, none⟩ = some (.int .i64 (R.z k)) := fun W' h => (h.cell (p := ⟨gr, _, none⟩) hgl).trans q0
      have e1 : ∀ W', Below wr.heap.size wr W' → W'.cell? ⟨gr, 0 + k * 3 + 1, none⟩ = some (.int .i64 (R.x k)) := fun W' h => (h.cell (p := ⟨gr, _, none⟩) hgl).trans q1
      have e2 : ∀ W', Below wr.heap.size wr W' → W'.cell? ⟨gr, 0 + k * 3 + 2, none⟩ = some (.int .i64 (R.y k)) := fun W' h => (h.cell (p := ⟨gr, _, none⟩) hgl).trans q2
      simp only [Nat.zero_add] at e0 e1 e2 q0 q1 q2
      clear hpt hG
      generalize R.z k = rz at *
      generalize R.x k = rx at *
      generalize R.y k = ry at *
      generalize hAT : atK n A rz rx ry = AT at *
      have HOw : Hid (Below wr.heap.size wr wr) := Below.refl _ _
      go_wp2_with fail
      refine wp_region_noPanic ?_
      refine wp_region_held_drew (S := fun W' => Below wr.heap.size wr W') (by kernel_rfl) (by have := Below.refl wr.heap.size wr; (repeat (first | exact Below.refl _ _ | assumption | refine Below.drew ?_ | refine bl_alloc ?_ _ | refine bl_then ?_ (by assumption) | refine Below.setCell ?_ (by first | omega | (simp; done) | (simp; omega)) _ | refine bl_store ?_ ?_ _ _))) (fun hHeld => ?_)
      have hX0a : Below wr.heap.size wr wr.drew := hHeld
      refine takeD (i := 0) (d := some 17) (v := ?va0) rfl rfl (by kernel_rfl) (by kernel_rfl) (by kernel_rfl) (fun _ _ _ h => h) (Or.inl ⟨by rfl, ?hya0⟩) (by assumption) ?_
      case hya0 => (intro w hSw; (try dsimp only at hSw); go_simp <;> with_reducible rfl)
      try simp only [Act.put, List.setIfInBounds_toArray, List.set_cons_zero, List.set_cons_succ]
      refine takeD (i := 1) (d := some 18) (v := ?va1) rfl rfl (by kernel_rfl) (by kernel_rfl) (by kernel_rfl) (fun _ _ _ h => h) (Or.inl ⟨by rfl, ?hya1⟩) (by assumption) ?_
      case hya1 => (intro w hSw; (try dsimp only at hSw); go_simp <;> with_reducible rfl)
      try simp only [Act.put, List.setIfInBounds_toArray, List.set_cons_zero, List.set_cons_succ]
      refine takeD (i := 2) (d := some 19) (v := ?va2) rfl rfl (by kernel_rfl) (by kernel_rfl) (by kernel_rfl) (fun _ _ _ h => h) (Or.inl ⟨by rfl, ?hya2⟩) (by assumption) ?_
      case hya2 => (intro w hSw; (try dsimp only at hSw); go_simp <;> with_reducible rfl)
      try simp only [Act.put, List.setIfInBounds_toArray, List.set_cons_zero, List.set_cons_succ]
      refine takeD (i := 3) (d := some 20) (v := ?va3) rfl rfl (by kernel_rfl) (by kernel_rfl) (by kernel_rfl) (fun _ _ _ h => h) (Or.inl ⟨by rfl, ?hya3⟩) (by assumption) ?_
      case hya3 => (intro w hSw; (try dsimp only at hSw); go_simp <;> with_reducible rfl)
      try simp only [Act.put, List.setIfInBounds_toArray, List.set_cons_zero, List.set_cons_succ]
      refine takeD (i := 4) (d := some 21) (v := ?va4) rfl rfl (by kernel_rfl) (by kernel_rfl) (by kernel_rfl) (fun _ _ _ h => h) (Or.inl ⟨by rfl, ?hya4⟩) (by assumption) ?_
      case hya4 => (intro w hSw; (try dsimp only at hSw); go_simp <;> with_reducible rfl)
      try simp only [Act.put, List.setIfInBounds_toArray, List.set_cons_zero, List.set_cons_succ]
      refine takeD (i := 5) (d := some 22) (v := ?va5) rfl rfl (by kernel_rfl) (by kernel_rfl) (by kernel_rfl) (fun _ _ _ h => h) (Or.inl ⟨by rfl, ?hya5⟩) (by assumption) ?_
      case hya5 => (intro w hSw; (try dsimp only at hSw); go_simp <;> with_reducible rfl)
      try simp only [Act.put, List.setIfInBounds_toArray, List.set_cons_zero, List.set_cons_succ]
      refine takeD (i := 6) (d := some 23) (v := ?va6) rfl rfl (by kernel_rfl) (by kernel_rfl) (by kernel_rfl) (fun _ _ _ h => h) (Or.inl ⟨by rfl, ?hya6⟩) (by assumption) ?_
      case hya6 => (intro w hSw; (try dsimp only at hSw); go_simp <;> with_reducible rfl)
      try simp only [Act.put, List.setIfInBounds_toArray, List.set_cons_zero, List.set_cons_succ]
      generalize wr.drew = wk0a at *
      refine wpAnyH_ready (rs := [7]) (by kernel_rfl) (by simp) ?_
      refine (AllReadyH.cons rfl (fun K hK => ?_) AllReadyH.nil)
      rw [if_pos (by rfl)]
      go_simp
      refine Calls.mono (HA.out _ _ _ _ (bl_then HB.out hX0a)) ?_
      rintro e wk1a ⟨rfl, hb1a⟩
      have hX1a : Below wr.heap.size wr wk1a := bl_then hX0a hb1a
      go_wp2_with fail
      refine hK.out _ _ (by assumption) (fun hHeld => ?_)
      clear hK K
      try simp only [Act.put, List.setIfInBounds_toArray, List.set_cons_zero, List.set_cons_succ]
      have HB9 : Hid (Below wr.heap.size wr wk1a) := hX1a
      by_cases hat : 0 ≤ AT
      · have HE := (show Hid _ from HY.out (by first | (rw [hAT]; omega) | omega))
        have hdec : decide (AT < 0) = false := decide_eq_false (by omega)
        have hnl : ¬ AT < 0 := by omega
        refine takeD (i := 8) (d := some 25) (v := ?vy8) rfl rfl (by kernel_rfl) (by kernel_rfl) (by kernel_rfl) (fun _ _ _ h => h) (Or.inl ⟨by rfl, ?hyy8⟩) (by assumption) ?_
        case hyy8 => (intro w hSw; (try dsimp only at hSw); go_simp <;> with_reducible rfl)
        try simp only [Act.put, List.setIfInBounds_toArray, List.set_cons_zero, List.set_cons_succ]
        refine wpAnyH_done (by kernel_rfl) ?_ _
        refine NoPanic.normal ?_
        have hg9 := Nat.lt_of_lt_of_le hgl HB9.out.size
        have HP9 : Hid (RsAt wk1a gr 0 m R) := HPt.out.below HB9.out hgl
        clear q0 q1 q2 e0 e1 e2 hX0a hb1a hX1a
        go_wp2_with fail
        go_roundw
        case rel =>
          refine ⟨k + 1, by omega, by go_num, ⟨g, ln, c, rfl, fun gr' e' _ => ?_⟩, by rw [HE.out]; exact HO.out.below HB9.out, bl_then HB.out HB9.out⟩
          injection e' with e'; injection e' with e'; subst e'
          exact ⟨hne, hg9, HP9.out⟩
        case measure => simp [intOf]; omega
      · have HE := (show Hid _ from HN.out (by first | (rw [hAT]; omega) | omega))
        have hdec : decide (AT < 0) = true := decide_eq_true (by omega)
        have hnl : AT < 0 := by omega
        refine takeD (i := 8) (d := some 25) (v := ?vn8) rfl rfl (by kernel_rfl) (by kernel_rfl) (by kernel_rfl) (fun _ _ _ h => h) (Or.inl ⟨by rfl, ?hyn8⟩) (by assumption) ?_
        case hyn8 => (intro w hSw; (try dsimp only at hSw); go_simp <;> with_reducible rfl)
        try simp only [Act.put, List.setIfInBounds_toArray, List.set_cons_zero, List.set_cons_succ]
        refine wpAnyH_done (by kernel_rfl) ?_ _
        refine NoPanic.normal ?_
        have k0 := e0 _ HB9.out
        have k1 := e1 _ HB9.out
        have k2 := e2 _ HB9.out
        have HO9 : Hid (RowS w.heap.size wk1a (.slice (some ⟨g, 0, none⟩) ln c) (misL n A R k)) := HO.out.below HB9.out
        have HB10 : Hid (Below w.heap.size w wk1a) := bl_then HB.out HB9.out
        have hg9 : gr < wk1a.heap.size := Nat.lt_of_lt_of_le hgl HB9.out.size
        have HP9 : Hid (RsAt wk1a gr 0 m R) := HPt.out.below HB9.out hgl
        have hle := HLe.out
        have hs9 : w.heap.size ≤ wk1a.heap.size := HB10.out.size
        have HS : Hid (cellsR (rfsOf (misL n A R k ++ [⟨rz, rx, ry, 0, 0⟩])) ((misL n A R k).length + 1) = cellsR (rfsOf (misL n A R k)) (misL n A R k).length ++ [.int .i64 rz, .int .i64 rx, .int .i64 ry]) := cellsR_app _ _
        clear q0 q1 q2 e0 e1 e2 hX0a hb1a hX1a HO HB
        go_wp2_with (first
          | (at_builtin; go_must (refine wpList_append_lies _ rfl _ _ 31 rfl w.heap.size 87 i0 (.agg #[.int .i64 0, .int .i64 0, .int .i64 0]) 3 24 Tryz.underlying31 hi hz0 hz1 hz2 rfl (by decide) _ (misL n A R k).length (cellsR (rfsOf (misL n A R k)) (misL n A R k).length) rfl (World.ownsRow.alloc HO9.out _) ⟨wk1a.heap.size, 0, none⟩ 1 1 [.int .i64 rz, .int .i64 rx, .int .i64 ry] rfl rfl ?c1 ?c2 (by omega) ?c3 ?c4 ?c5 _ rfl ?_)))
        try
          case c1 =>
            intro q u hq
            match q, hq with
            | 0, hq => simp at hq; subst hq; simp [Addr.add, go_sem]
            | 1, hq => simp at hq; subst hq; simp [Addr.add, go_sem]
            | 2, hq => simp at hq; subst hq; simp [Addr.add, go_sem]
            | q + 3, hq => simp at hq
        case c2 => first | exact ⟨rfl, rfl, rfl⟩ | (intro u hu; simp at hu; rcases hu with rfl | rfl | rfl <;> rfl)
        case c3 => unfold maxLen; omega
        case c4 => omega
        case c5 => first | omega | (simp; omega)
        intro g' c' w3 hown' hgrow hlie hlt3
        generalize hV : (wk1a.alloc _ : World) = V at hgrow
        have hBV : Below wk1a.heap.size wk1a V := by subst hV; (repeat (first | exact Below.refl _ _ | assumption | refine Below.drew ?_ | refine bl_alloc ?_ _ | refine bl_then ?_ (by assumption) | refine Below.setCell ?_ (by first | omega | (simp; done) | (simp; omega)) _ | refine bl_store ?_ ?_ _ _))
        have hsV : V.heap.size = wk1a.heap.size + 1 := by subst hV; simp
        have hgr' : V.grownBy w3 (some g) := hgrow
        have hgw : w.heap.size ≤ g := (HO9.out.lt g rfl).1
        have hBg : Below w.heap.size V w3 := (Below.refl _ _).grown hgrow (by have := hBV.size; omega) (fun k hk => by have e : g = k := Option.some.inj hk; omega)
        have HB3 : Hid (Below w.heap.size w w3) := (HB10.out.trans (hBV.mono hs9)).trans hBg
        have HO3 : Hid (RowS w.heap.size w3 (.slice (some ⟨g', 0, none⟩) ((misL n A R k).length + 1) c') (misL n A R (k + 1))) := by
          show World.ownsRow _ _ _ _ _ _ _
          rw [HE.out, List.length_append]
          show World.ownsRow _ _ _ _ _ ((misL n A R k).length + 1) (cellsR _ ((misL n A R k).length + 1))
          rw [HS.out]
          exact hown'
        have hne' : g' ≠ gr := by
          rcases hlie with h | h
          · have e : g = g' := Option.some.inj h
            omega
          · have := hsV; omega
        have hg3 : gr < w3.heap.size := by have := hgr'.size; omega
        have HP3 : Hid (RsAt w3 gr 0 m R) := (HP9.out.below hBV hg9).grownM (by omega) hgr' (by omega)
        clear hown' hgrow hBg hBV hV hlie hlt3
        go_wp2
        go_roundw
        case rel =>
          refine ⟨k + 1, by omega, by go_num, ⟨g', _, c', rfl, fun gr' e' _ => ?_⟩, HO3.out, HB3.out⟩
          injection e' with e'; injection e' with e'; subst e'
          exact ⟨hne', hg3, HP3.out⟩
        case measure => simp [intOf]; omega
    · obtain rfl : m = k := by omega
      go_wp2
      go_ret
      exact ⟨_, rfl, HO.out, HB.out⟩
end Go.Proofs.YtbdhhclamgmfkaaGreat
