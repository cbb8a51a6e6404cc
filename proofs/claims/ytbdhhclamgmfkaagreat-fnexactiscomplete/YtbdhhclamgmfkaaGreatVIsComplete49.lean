/- Several texts in one. -/
import Derived.Test.YtbdhhclamgmfkaaGreatVIsComplete48
import Derived.Test.YtbdhhclamgmfkaaGreatVIsComplete38
import Derived.Deep.AppendLies
import Derived.Test.YtbdhhclamgmfkaaGreatVIsComplete45
import Derived.Test.YtbdhhclamgmfkaaGreatVIsComplete18
import Derived.Test.YtbdhhclamgmfkaaGreatVIsComplete17
import Derived.Test.YtbdhhclamgmfkaaGreatVIsComplete22
import Derived.Test.YtbdhhclamgmfkaaGreatVIsComplete44

/- The tiles that are seen and not there: the model; IsComplete of both. -/

namespace Go.Proofs.YtbdhhclamgmfkaaGreat
open Go.RowKit
set_option linter.unusedSimpArgs false
set_option linter.unusedVariables false
set_option maxRecDepth 100000

theorem RsAt.grownM {w w' : World} {b off n g : Nat} {R : Rfs} (h : RsAt w b off n R) (hb : b < w.heap.size) (hg : w.grownBy w' (some g)) (hne : b ≠ g) : RsAt w' b off n R := fun i hi =>
  ⟨(hg.cell_far ⟨b, _, none⟩ hb (fun e => hne (by injection e))).trans (h i hi).1, (hg.cell_far ⟨b, _, none⟩ hb (fun e => hne (by injection e))).trans (h i hi).2.1, (hg.cell_far ⟨b, _, none⟩ hb (fun e => hne (by injection e))).trans (h i hi).2.2⟩
theorem viewC_zero {z x y wd ht now s : Int} {n : Nat} {K : Nat → Kp} {rn : Nat} {E : Nat → Req} {bad : Int} (h : viewC z x y wd ht now s n K rn E bad = 0) : camB z x y wd ht = true ∧ cacheC s n K = 0 := by
  have h1 : or2 (camC z x y wd ht) (cntC now bad) = 0 := by
    by_cases e : or2 (camC z x y wd ht) (cntC now bad) = 0
    · exact e
    · rw [viewC_first e] at h; exact h
  have h2 : or3 (cacheC s n K) (if s < 4 then 3 else 0) (reqsC rn E) = 0 := by
    by_cases e : or3 (cacheC s n K) (if s < 4 then 3 else 0) (reqsC rn E) = 0
    · exact e
    · rw [viewC_second h1 e] at h; exact h
  refine ⟨?_, (or3_zero h2).1⟩
  have h3 := (or2_zero h1).1
  unfold camC at h3
  by_cases e : camB z x y wd ht = true
  · exact e
  · rw [if_neg e] at h3; cases h3
/-- Whether all that is seen is there. -/
noncomputable def cmpV (z x y wd ht now s : Int) (n : Nat) (A : Nat → Kp) (rn : Nat) (E : Nat → Req) (bad : Int) : Bool := decide (viewC z x y wd ht now s n A rn E bad = 0) && decide ((misL n A (visR z x y wd) (visM z x y wd ht)).length = 0)
set_option maxHeartbeats 8000000 in
theorem l13Missing_any (q : Nat) (z x y wd ht now s : Int) (b n cap : Nat) (A : Nat → Kp) (ra : Option Addr) (rn rc : Nat) (bad : Int) (w : World) (hV : Blk w q [.int .i64 z, .int .i64 x, .int .i64 y, .int .i64 wd, .int .i64 ht, .int .i64 now, .int .i64 s, .slice (some ⟨b, 0, none⟩) n cap, .slice ra rn rc, .int .i64 bad]) (ha : IsKs w (some ⟨b, 0, none⟩) n A) (hn : n ≤ 1048576) (hc : camB z x y wd ht = true) :
    Calls Tryz.prog 25 #[.pointer (some ⟨q, 0, none⟩)] w fun e w' => ∃ v, e = .returned v ∧ RowS w.heap.size w' v (misL n A (visR z x y wd) (visM z x y wd ht)) ∧ Below w.heap.size w w' := by
  obtain ⟨i0, hi, hz0, hz1, hz2⟩ := info_parts info_rf
  have hql : q < w.heap.size := hV.lt
  have HV : Hid (Blk w q [.int .i64 z, .int .i64 x, .int .i64 y, .int .i64 wd, .int .i64 ht, .int .i64 now, .int .i64 s, .slice (some ⟨b, 0, none⟩) n cap, .slice ra rn rc, .int .i64 bad]) := hV
  have HRf : Hid (∀ W, Below w.heap.size w W → Calls Tryz.prog 51 #[.pointer (some ⟨q, 0, none⟩)] W fun e w' => ∃ v, e = .returned v ∧ RowT W.heap.size w' v (visM z x y wd ht) (visR z x y wd) ∧ Below W.heap.size W w') := fun W h => by
    have hb := hV.below hql h
    exact l9Refs_any q W ⟨hb.cell 0 rfl, hb.cell 1 rfl, hb.cell 2 rfl, hb.cell 3 rfl, hb.cell 4 rfl⟩ hc
  have HAt : Hid (∀ W' rz rx ry, Below w.heap.size w W' → Calls Tryz.prog 50 #[.pointer (some ⟨q, 6, none⟩), refV rz rx ry] W' fun e w' => e = .returned (.int .i64 (atK n A rz rx ry)) ∧ Below W'.heap.size W' w') := fun W' rz rx ry h => by
    have hb := hV.below hql h
    exact l11At_off q 6 s _ n cap A rz rx ry W' ⟨hb.cell 6 rfl, hb.cell 7 rfl⟩ (ha.below h) hn
  have hm4 : visM z x y wd ht ≤ 4 := visM_le _ _ _ _ _
  clear hV ha hc
  generalize visM z x y wd ht = m at *
  generalize visR z x y wd = R at *
  go_enter Tryz.func25, Tryz.ntmps25
  go_wp2_with fail
  generalize hW : (w.alloc _ : World) = W
  have HB0 : Hid (Below w.heap.size w W) := by show Below _ _ _; subst hW; (repeat (first | exact Below.refl _ _ | assumption | refine Below.drew ?_ | refine bl_alloc ?_ _ | refine bl_then ?_ (by assumption) | refine Below.setCell ?_ (by first | omega | (simp; done) | (simp; omega)) _ | refine bl_store ?_ ?_ _ _))
  have HO0 : Hid (RowS w.heap.size W (.slice (some ⟨w.heap.size, 0, none⟩) 0 0) []) := by
    show World.ownsRow _ _ _ _ _ _ _
    subst hW
    exact ⟨by simp [cellsR], .inr ⟨w.heap.size, 0, #[], rfl, Nat.le_refl _, heap_alloc_new w _, by simp, by unfold maxLen; omega, by simp, by simp [cellsR]⟩⟩
  have hsW : w.heap.size < W.heap.size := by subst hW; simp
  clear hW
  refine Calls.mono (HRf.out _ HB0.out) ?_
  rintro e w1 ⟨v, rfl, hO, hb1⟩
  obtain ⟨a0, cap0, hv, hc0, hI⟩ := hO.own
  subst hv
  have HI : Hid (m = 0 ∨ ∃ gr, a0 = some ⟨gr, 0, none⟩ ∧ W.heap.size ≤ gr ∧ gr < w1.heap.size ∧ RsAt w1 gr 0 m R) := by
    rcases hI with h | ⟨g, ha, h1, h2, h3, _⟩
    · exact .inl h
    · exact .inr ⟨g, ha, h1, h2, h3⟩
  have HO1 : Hid (RowS w.heap.size w1 (.slice (some ⟨w.heap.size, 0, none⟩) 0 0) []) := HO0.out.below hb1
  have HB1 : Hid (Below w.heap.size w w1) := bl_then HB0.out hb1
  have hs1 : W.heap.size ≤ w1.heap.size := hb1.size
  clear hI hO hb1 HRf HO0 HB0
  go_wp2_with fail
  go_loopw [3, 5] (fun v i wr => ∃ (k : Nat), k ≤ m ∧ i = .int .i64 (k : Int) ∧ (∃ g ln c, v = .slice (some ⟨g, 0, none⟩) ln c ∧ ∀ gr, a0 = some ⟨gr, 0, none⟩ → m ≠ 0 → g ≠ gr ∧ gr < wr.heap.size ∧ RsAt wr gr 0 m R) ∧ RowS w.heap.size wr v (misL n A R k) ∧ Below w.heap.size w wr) (fun _ i _ => m - (intOf i).toNat)
  case atStart =>
    refine ⟨0, by omega, rfl, ⟨_, _, _, rfl, fun gr e hm => ?_⟩, HO1.out, HB1.out⟩
    rcases HI.out with h | ⟨gr', e', h1, h2, h3⟩
    · exact absurd h hm
    · rw [e'] at e; injection e with e; injection e with e; subst e
      exact ⟨by omega, h2, h3⟩
  case round =>
    obtain ⟨k, hk, rfl, ⟨g, ln, c, rfl, hG⟩, hO, hB⟩ := hrel
    have HO : Hid (RowS w.heap.size wr (.slice (some ⟨g, 0, none⟩) ln c) (misL n A R k)) := hO
    have HB : Hid (Below w.heap.size w wr) := hB
    clear hO hB
    by_cases hlt : k < m
    · rcases HI.out with h0 | ⟨gr, rfl, h1, h2, _⟩
      · omega
      obtain ⟨hne, hgl, hpt⟩ := hG gr rfl (by omega)
      have HPt : Hid (RsAt wr gr 0 m R) := hpt
      obtain ⟨q0, q1, q2⟩ := hpt k hlt
      have hi' : (k : Int) < (m : Int) := by omega
      have hi0 : (0 : Int) ≤ (k : Int) := by omega
      have HA := (show Hid _ from HAt.out)
      have HLe := (show Hid _ from misL_len n A R k)
      have HY := (show Hid _ from @misL_has n A R k)
      have HN := (show Hid _ from @misL_not n A R k)
      have e0 : ∀ W', Below wr.heap.size wr W' → W'.cell? ⟨gr, 0 + k * 3, none⟩ = some (.int .i64 (R.z k)) := fun W' h => (h.cell (p := ⟨gr, _, none⟩) hgl).trans q0
      have e1 : ∀ W', Below wr.heap.size wr W' → W'.cell? ⟨gr, 0 + k * 3 + 1, none⟩ = some (.int .i64 (R.x k)) := fun W' h => (h.cell (p := ⟨gr, _, none⟩) hgl).trans q1
      have e2 : ∀ W', Below wr.heap.size wr W' → W'.cell? ⟨gr, 0 + k * 3 + 2, none⟩ = some (.int .i64 (R.y k)) := fun W' h => (h.cell (p := ⟨gr, _, none⟩) hgl).trans q2
      simp only [Nat.zero_add] at e0 e1 e2 q0 q1 q2
      clear hpt hG
      generalize R.z k = rz at *
      generalize R.x k = rx at *
      generalize R.y k = ry at *
      generalize hAT : atK n A rz rx ry = AT at *
      have HOw : Hid (Below wr.heap.size wr wr) := Below.refl _ _
      go_wp2_with fail
      refine wp_region_noPanic ?_
      refine wp_region_held_drew (S := fun W' => Below wr.heap.size wr W') (by kernel_rfl) (by have := Below.refl wr.heap.size wr; (repeat (first | exact Below.refl _ _ | assumption | refine Below.drew ?_ | refine bl_alloc ?_ _ | refine bl_then ?_ (by assumption) | refine Below.setCell ?_ (by first | omega | (simp; done) | (simp; omega)) _ | refine bl_store ?_ ?_ _ _))) (fun hHeld => ?_)
      have hX0a : Below wr.heap.size wr wr.drew := hHeld
      refine takeD (i := 0) (d := some 17) (v := ?va0) rfl rfl (by kernel_rfl) (by kernel_rfl) (by kernel_rfl) (fun _ _ _ h => h) (Or.inl ⟨by rfl, ?hya0⟩) (by assumption) ?_
      case hya0 => (intro w hSw; (try dsimp only at hSw); go_simp <;> with_reducible rfl)
      try simp only [Act.put, List.setIfInBounds_toArray, List.set_cons_zero, List.set_cons_succ]
      refine takeD (i := 1) (d := some 18) (v := ?va1) rfl rfl (by kernel_rfl) (by kernel_rfl) (by kernel_rfl) (fun _ _ _ h => h) (Or.inl ⟨by rfl, ?hya1⟩) (by assumption) ?_
      case hya1 => (intro w hSw; (try dsimp only at hSw); go_simp <;> with_reducible rfl)
      try simp only [Act.put, List.setIfInBounds_toArray, List.set_cons_zero, List.set_cons_succ]
      refine takeD (i := 2) (d := some 19) (v := ?va2) rfl rfl (by kernel_rfl) (by kernel_rfl) (by kernel_rfl) (fun _ _ _ h => h) (Or.inl ⟨by rfl, ?hya2⟩) (by assumption) ?_
      case hya2 => (intro w hSw; (try dsimp only at hSw); go_simp <;> with_reducible rfl)
      try simp only [Act.put, List.setIfInBounds_toArray, List.set_cons_zero, List.set_cons_succ]
      refine takeD (i := 3) (d := some 20) (v := ?va3) rfl rfl (by kernel_rfl) (by kernel_rfl) (by kernel_rfl) (fun _ _ _ h => h) (Or.inl ⟨by rfl, ?hya3⟩) (by assumption) ?_
      case hya3 => (intro w hSw; (try dsimp only at hSw); go_simp <;> with_reducible rfl)
      try simp only [Act.put, List.setIfInBounds_toArray, List.set_cons_zero, List.set_cons_succ]
      refine takeD (i := 4) (d := some 21) (v := ?va4) rfl rfl (by kernel_rfl) (by kernel_rfl) (by kernel_rfl) (fun _ _ _ h => h) (Or.inl ⟨by rfl, ?hya4⟩) (by assumption) ?_
      case hya4 => (intro w hSw; (try dsimp only at hSw); go_simp <;> with_reducible rfl)
      try simp only [Act.put, List.setIfInBounds_toArray, List.set_cons_zero, List.set_cons_succ]
      refine takeD (i := 5) (d := some 22) (v := ?va5) rfl rfl (by kernel_rfl) (by kernel_rfl) (by kernel_rfl) (fun _ _ _ h => h) (Or.inl ⟨by rfl, ?hya5⟩) (by assumption) ?_
      case hya5 => (intro w hSw; (try dsimp only at hSw); go_simp <;> with_reducible rfl)
      try simp only [Act.put, List.setIfInBounds_toArray, List.set_cons_zero, List.set_cons_succ]
      refine takeD (i := 6) (d := some 23) (v := ?va6) rfl rfl (by kernel_rfl) (by kernel_rfl) (by kernel_rfl) (fun _ _ _ h => h) (Or.inl ⟨by rfl, ?hya6⟩) (by assumption) ?_
      case hya6 => (intro w hSw; (try dsimp only at hSw); go_simp <;> with_reducible rfl)
      try simp only [Act.put, List.setIfInBounds_toArray, List.set_cons_zero, List.set_cons_succ]
      generalize wr.drew = wk0a at *
      refine wpAnyH_ready (rs := [7]) (by kernel_rfl) (by simp) ?_
      refine (AllReadyH.cons rfl (fun K hK => ?_) AllReadyH.nil)
      rw [if_pos (by rfl)]
      go_simp
      refine Calls.mono (HA.out _ _ _ _ (bl_then HB.out hX0a)) ?_
      rintro e wk1a ⟨rfl, hb1a⟩
      have hX1a : Below wr.heap.size wr wk1a := bl_then hX0a hb1a
      go_wp2_with fail
      refine hK.out _ _ (by assumption) (fun hHeld => ?_)
      clear hK K
      try simp only [Act.put, List.setIfInBounds_toArray, List.set_cons_zero, List.set_cons_succ]
      have HB9 : Hid (Below wr.heap.size wr wk1a) := hX1a
      by_cases hat : 0 ≤ AT
      · have HE := (show Hid _ from HY.out (by first | (rw [hAT]; omega) | omega))
        have hdec : decide (AT < 0) = false := decide_eq_false (by omega)
        have hnl : ¬ AT < 0 := by omega
        refine takeD (i := 8) (d := some 25) (v := ?vy8) rfl rfl (by kernel_rfl) (by kernel_rfl) (by kernel_rfl) (fun _ _ _ h => h) (Or.inl ⟨by rfl, ?hyy8⟩) (by assumption) ?_
        case hyy8 => (intro w hSw; (try dsimp only at hSw); go_simp <;> with_reducible rfl)
        try simp only [Act.put, List.setIfInBounds_toArray, List.set_cons_zero, List.set_cons_succ]
        refine wpAnyH_done (by kernel_rfl) ?_ _
        refine NoPanic.normal ?_
        have hg9 := Nat.lt_of_lt_of_le hgl HB9.out.size
        have HP9 : Hid (RsAt wk1a gr 0 m R) := HPt.out.below HB9.out hgl
        clear q0 q1 q2 e0 e1 e2 hX0a hb1a hX1a
        go_wp2_with fail
        go_roundw
        case rel =>
          refine ⟨k + 1, by omega, by go_num, ⟨g, ln, c, rfl, fun gr' e' _ => ?_⟩, by rw [HE.out]; exact HO.out.below HB9.out, bl_then HB.out HB9.out⟩
          injection e' with e'; injection e' with e'; subst e'
          exact ⟨hne, hg9, HP9.out⟩
        case measure => simp [intOf]; omega
      · have HE := (show Hid _ from HN.out (by first | (rw [hAT]; omega) | omega))
        have hdec : decide (AT < 0) = true := decide_eq_true (by omega)
        have hnl : AT < 0 := by omega
        refine takeD (i := 8) (d := some 25) (v := ?vn8) rfl rfl (by kernel_rfl) (by kernel_rfl) (by kernel_rfl) (fun _ _ _ h => h) (Or.inl ⟨by rfl, ?hyn8⟩) (by assumption) ?_
        case hyn8 => (intro w hSw; (try dsimp only at hSw); go_simp <;> with_reducible rfl)
        try simp only [Act.put, List.setIfInBounds_toArray, List.set_cons_zero, List.set_cons_succ]
        refine wpAnyH_done (by kernel_rfl) ?_ _
        refine NoPanic.normal ?_
        have k0 := e0 _ HB9.out
        have k1 := e1 _ HB9.out
        have k2 := e2 _ HB9.out
        have HO9 : Hid (RowS w.heap.size wk1a (.slice (some ⟨g, 0, none⟩) ln c) (misL n A R k)) := HO.out.below HB9.out
        have HB10 : Hid (Below w.heap.size w wk1a) := bl_then HB.out HB9.out
        have hg9 : gr < wk1a.heap.size := Nat.lt_of_lt_of_le hgl HB9.out.size
        have HP9 : Hid (RsAt wk1a gr 0 m R) := HPt.out.below HB9.out hgl
        have hle := HLe.out
        have hs9 : w.heap.size ≤ wk1a.heap.size := HB10.out.size
        have HS : Hid (cellsR (rfsOf (misL n A R k ++ [⟨rz, rx, ry, 0, 0⟩])) ((misL n A R k).length + 1) = cellsR (rfsOf (misL n A R k)) (misL n A R k).length ++ [.int .i64 rz, .int .i64 rx, .int .i64 ry]) := cellsR_app _ _
        clear q0 q1 q2 e0 e1 e2 hX0a hb1a hX1a HO HB
        go_wp2_with (first
          | (at_builtin; go_must (refine wpList_append_lies _ rfl _ _ 31 rfl w.heap.size 87 i0 (.agg #[.int .i64 0, .int .i64 0, .int .i64 0]) 3 24 Tryz.underlying31 hi hz0 hz1 hz2 rfl (by decide) _ (misL n A R k).length (cellsR (rfsOf (misL n A R k)) (misL n A R k).length) rfl (World.ownsRow.alloc HO9.out _) ⟨wk1a.heap.size, 0, none⟩ 1 1 [.int .i64 rz, .int .i64 rx, .int .i64 ry] rfl rfl ?c1 ?c2 (by omega) ?c3 ?c4 ?c5 _ rfl ?_)))
        try
          case c1 =>
            intro q u hq
            match q, hq with
            | 0, hq => simp at hq; subst hq; simp [Addr.add, go_sem]
            | 1, hq => simp at hq; subst hq; simp [Addr.add, go_sem]
            | 2, hq => simp at hq; subst hq; simp [Addr.add, go_sem]
            | q + 3, hq => simp at hq
        case c2 => first | exact ⟨rfl, rfl, rfl⟩ | (intro u hu; simp at hu; rcases hu with rfl | rfl | rfl <;> rfl)
        case c3 => unfold maxLen; omega
        case c4 => omega
        case c5 => first | omega | (simp; omega)
        intro g' c' w3 hown' hgrow hlie hlt3
        generalize hV : (wk1a.alloc _ : World) = V at hgrow
        have hBV : Below wk1a.heap.size wk1a V := by subst hV; (repeat (first | exact Below.refl _ _ | assumption | refine Below.drew ?_ | refine bl_alloc ?_ _ | refine bl_then ?_ (by assumption) | refine Below.setCell ?_ (by first | omega | (simp; done) | (simp; omega)) _ | refine bl_store ?_ ?_ _ _))
        have hsV : V.heap.size = wk1a.heap.size + 1 := by subst hV; simp
        have hgr' : V.grownBy w3 (some g) := hgrow
        have hgw : w.heap.size ≤ g := (HO9.out.lt g rfl).1
        have hBg : Below w.heap.size V w3 := (Below.refl _ _).grown hgrow (by have := hBV.size; omega) (fun k hk => by have e : g = k := Option.some.inj hk; omega)
        have HB3 : Hid (Below w.heap.size w w3) := (HB10.out.trans (hBV.mono hs9)).trans hBg
        have HO3 : Hid (RowS w.heap.size w3 (.slice (some ⟨g', 0, none⟩) ((misL n A R k).length + 1) c') (misL n A R (k + 1))) := by
          show World.ownsRow _ _ _ _ _ _ _
          rw [HE.out, List.length_append]
          show World.ownsRow _ _ _ _ _ ((misL n A R k).length + 1) (cellsR _ ((misL n A R k).length + 1))
          rw [HS.out]
          exact hown'
        have hne' : g' ≠ gr := by
          rcases hlie with h | h
          · have e : g = g' := Option.some.inj h
            omega
          · have := hsV; omega
        have hg3 : gr < w3.heap.size := by have := hgr'.size; omega
        have HP3 : Hid (RsAt w3 gr 0 m R) := (HP9.out.below hBV hg9).grownM (by omega) hgr' (by omega)
        clear hown' hgrow hBg hBV hV hlie hlt3
        go_wp2
        go_roundw
        case rel =>
          refine ⟨k + 1, by omega, by go_num, ⟨g', _, c', rfl, fun gr' e' _ => ?_⟩, HO3.out, HB3.out⟩
          injection e' with e'; injection e' with e'; subst e'
          exact ⟨hne', hg3, HP3.out⟩
        case measure => simp [intOf]; omega
    · obtain rfl : m = k := by omega
      go_wp2
      go_ret
      exact ⟨_, rfl, HO.out, HB.out⟩
set_option maxHeartbeats 8000000 in
theorem impl_IsComplete_any (z x y wd ht now s : Int) (b n cap : Nat) (A : Nat → Kp) (ra : Option Addr) (rn rc : Nat) (E : Nat → Req) (bad : Int) (w : World) (ha : KoAt w b n A) (hs : SmallKs n A) (hcap : ∀ i, i < n → (A i).fn ≤ (A i).fc) (hnc : n ≤ cap) (hr : IsWs w ra rn E) (hrn : rn ≤ 1048576) (hrc : rn ≤ rc) :
    Calls Tryz.prog 16 #[vwV z x y wd ht now s (.slice (some ⟨b, 0, none⟩) n cap) (.slice ra rn rc) bad] w fun e w' => e = .returned (.bool (cmpV z x y wd ht now s n A rn E bad)) ∧ Below w.heap.size w w' := by
  obtain ⟨VC, hVC⟩ : ∃ VC, viewC z x y wd ht now s n A rn E bad = VC := ⟨_, rfl⟩
  have HF : Hid (∀ W, Below w.heap.size w W → Calls Tryz.prog 29 #[vwV z x y wd ht now s (.slice (some ⟨b, 0, none⟩) n cap) (.slice ra rn rc) bad] W fun e w' => ∃ p, e = .returned (.tuple #[.pointer (some ⟨p, 0, none⟩), .int .i64 VC]) ∧ Below W.heap.size W w' ∧ (VC = 0 → LkA w' W.heap.size p z x y wd ht now s n A ra rn rc bad)) := fun W h => lookerOf_any z x y wd ht now s b n cap A ra rn rc E bad VC W hVC (ha.below h) hs hcap hnc (hr.below h) hrn hrc
  have HC : Hid (VC = 0 → camB z x y wd ht = true ∧ ∀ j, j < n → kC A j = 0) := fun h => by
    obtain ⟨h1, h2⟩ := viewC_zero (hVC.trans h)
    exact ⟨h1, cacheC_zero h2⟩
  obtain ⟨CV, hCV⟩ : ∃ CV, cmpV z x y wd ht now s n A rn E bad = CV := ⟨_, rfl⟩
  have HCV : Hid (CV = (decide (VC = 0) && decide ((misL n A (visR z x y wd) (visM z x y wd ht)).length = 0))) := by
    show _ = _
    rw [← hCV]; unfold cmpV; rw [hVC]
  rw [hCV]
  clear ha hs hcap hnc hr hVC hCV
  go_enter Tryz.func16, Tryz.ntmps16
  go_wp2_with fail
  generalize hW : (w.alloc _ : World) = W
  have HB0 : Hid (Below w.heap.size w W) := by show Below _ _ _; subst hW; (repeat (first | exact Below.refl _ _ | assumption | refine Below.drew ?_ | refine bl_alloc ?_ _ | refine bl_then ?_ (by assumption) | refine Below.setCell ?_ (by first | omega | (simp; done) | (simp; omega)) _ | refine bl_store ?_ ?_ _ _))
  clear hW
  refine Calls.mono (HF.out W HB0.out) ?_
  rintro e w1 ⟨p, rfl, hb1, hK1⟩
  have HK1 : Hid (VC = 0 → LkA w1 W.heap.size p z x y wd ht now s n A ra rn rc bad) := hK1
  have HB1 : Hid (Below w.heap.size w w1) := bl_then HB0.out hb1
  clear hb1 hK1 HF HB0
  by_cases h0 : VC = 0
  case neg =>
    have hcb : (VC == 0) = false := by simpa using h0
    have HE : Hid (CV = false) := by show _ = _; rw [HCV.out, decide_eq_false h0]; rfl
    clear HK1 HCV HC h0
    go_wp2_with fail
    go_ret
    exact ⟨ret_bool HE.out.symm, HB1.out⟩
  obtain ⟨hcam, hall⟩ := HC.out h0
  obtain ⟨L, hL⟩ : ∃ L, misL n A (visR z x y wd) (visM z x y wd ht) = L := ⟨_, rfl⟩
  have HM : Hid (Calls Tryz.prog 30 #[.pointer (some ⟨p, 0, none⟩)] w1 fun e w' => ∃ v, e = .returned v ∧ RowS w1.heap.size w' v L ∧ Below w1.heap.size w1 w') := by
    have := missing_any W.heap.size p z x y wd ht now s n A ra rn rc bad w1 (HK1.out h0) hcam hall
    rw [hL] at this
    exact this
  have HE : Hid (CV = decide (L.length = 0)) := by show _ = _; rw [HCV.out, decide_eq_true h0, hL]; rfl
  subst h0
  clear HK1 HC hcam hall hL HCV
  go_wp2_with fail
  refine Calls.mono HM.out ?_
  rintro e w2 ⟨v, rfl, hR, hb2⟩
  obtain ⟨a2, c2, hv, hc2, _⟩ := hR.own
  subst hv
  have HB2 : Hid (Below w.heap.size w w2) := bl_then HB1.out hb2
  clear hR hb2 HM HB1
  generalize L.length = ln at *
  by_cases hl : ln = 0
  · subst hl
    go_wp2_with fail
    go_ret
    exact ⟨ret_bool (by rw [HE.out]; rfl), HB2.out⟩
  · have hlb : ((ln : Int) == 0) = false := by simpa using hl
    have hE2 : Hid (CV = false) := by show _ = _; rw [HE.out, decide_eq_false hl]
    clear HE
    go_wp2_with fail
    go_ret
    exact ⟨ret_bool hE2.out.symm, HB2.out⟩
set_option maxHeartbeats 8000000 in
theorem spec_IsComplete_any (z x y wd ht now s : Int) (b n cap : Nat) (A : Nat → Kp) (ra : Option Addr) (rn rc : Nat) (E : Nat → Req) (bad : Int) (w : World) (ha : KoAt w b n A) (hs : SmallKs n A) (hr : IsWs w ra rn E) (hrn : rn ≤ 1048576) :
    Calls Tryz.prog 15 #[vwV z x y wd ht now s (.slice (some ⟨b, 0, none⟩) n cap) (.slice ra rn rc) bad] w fun e w' => e = .returned (.bool (cmpV z x y wd ht now s n A rn E bad)) ∧ Below w.heap.size w w' := by
  obtain ⟨VC, hVC⟩ : ∃ VC, viewC z x y wd ht now s n A rn E bad = VC := ⟨_, rfl⟩
  have HA : Hid (KoAt w b n A) := ha
  have HI : Hid (IsKs w (some ⟨b, 0, none⟩) n A) := ha.is
  have HS : Hid (SmallKs n A) := hs
  have HR : Hid (IsWs w ra rn E) := hr
  have HVC : Hid (viewC z x y wd ht now s n A rn E bad = VC) := hVC
  have HC : Hid (VC = 0 → camB z x y wd ht = true) := fun h => (viewC_zero (hVC.trans h)).1
  obtain ⟨CV, hCV⟩ : ∃ CV, cmpV z x y wd ht now s n A rn E bad = CV := ⟨_, rfl⟩
  have HCV : Hid (CV = (decide (VC = 0) && decide ((misL n A (visR z x y wd) (visM z x y wd ht)).length = 0))) := by
    show _ = _
    rw [← hCV]; unfold cmpV; rw [hVC]
  rw [hCV]
  clear ha hs hr hVC hCV
  go_enter Tryz.func15, Tryz.ntmps15
  go_wp2_with fail
  generalize hW : (w.alloc _ : World) = W
  have HB0 : Hid (Below w.heap.size w W) := by show Below _ _ _; subst hW; (repeat (first | exact Below.refl _ _ | assumption | refine Below.drew ?_ | refine bl_alloc ?_ _ | refine bl_then ?_ (by assumption) | refine Below.setCell ?_ (by first | omega | (simp; done) | (simp; omega)) _ | refine bl_store ?_ ?_ _ _))
  have HV : Hid (Blk W w.heap.size [.int .i64 z, .int .i64 x, .int .i64 y, .int .i64 wd, .int .i64 ht, .int .i64 now, .int .i64 s, .slice (some ⟨b, 0, none⟩) n cap, .slice ra rn rc, .int .i64 bad]) := by show Blk _ _ _; subst hW; exact Blk.new w _ _
  clear hW
  have HF := (show Hid _ from l13Fault_any _ z x y wd ht now s b n cap A ra rn rc E bad W HV.out (HA.out.below HB0.out) HS.out (HR.out.below HB0.out) hrn)
  rw [HVC.out] at HF
  refine Calls.mono HF.out ?_
  rintro e w1 ⟨rfl, hb1⟩
  have HB1 : Hid (Below w.heap.size w w1) := bl_then HB0.out hb1
  have HV1 : Hid (Blk w1 w.heap.size [.int .i64 z, .int .i64 x, .int .i64 y, .int .i64 wd, .int .i64 ht, .int .i64 now, .int .i64 s, .slice (some ⟨b, 0, none⟩) n cap, .slice ra rn rc, .int .i64 bad]) := HV.out.below HV.out.lt hb1
  clear hb1 HF HB0 HV HVC
  by_cases h0 : VC = 0
  case neg =>
    have hcb : (VC == 0) = false := by simpa using h0
    have HE : Hid (CV = false) := by show _ = _; rw [HCV.out, decide_eq_false h0]; rfl
    clear HCV HC h0
    go_wp2_with fail
    go_ret
    exact ⟨ret_bool HE.out.symm, HB1.out⟩
  have hcam := HC.out h0
  obtain ⟨L, hL⟩ : ∃ L, misL n A (visR z x y wd) (visM z x y wd ht) = L := ⟨_, rfl⟩
  have HM : Hid (Calls Tryz.prog 25 #[.pointer (some ⟨w.heap.size, 0, none⟩)] w1 fun e w' => ∃ v, e = .returned v ∧ RowS w1.heap.size w' v L ∧ Below w1.heap.size w1 w') := by
    have := l13Missing_any w.heap.size z x y wd ht now s b n cap A ra rn rc bad w1 HV1.out (HI.out.below HB1.out) HS.out.1 hcam
    rw [hL] at this
    exact this
  have HE : Hid (CV = decide (L.length = 0)) := by show _ = _; rw [HCV.out, decide_eq_true h0, hL]; rfl
  subst h0
  clear HC hcam hL HCV HV1
  go_wp2_with fail
  refine Calls.mono HM.out ?_
  rintro e w2 ⟨v, rfl, hR, hb2⟩
  obtain ⟨a2, c2, hv, hc2, _⟩ := hR.own
  subst hv
  have HB2 : Hid (Below w.heap.size w w2) := bl_then HB1.out hb2
  clear hR hb2 HM HB1
  generalize L.length = ln at *
  by_cases hl : ln = 0
  · subst hl
    go_wp2_with fail
    go_ret
    exact ⟨ret_bool (by rw [HE.out]; rfl), HB2.out⟩
  · have hlb : ((ln : Int) == 0) = false := by simpa using hl
    have hE2 : Hid (CV = false) := by show _ = _; rw [HE.out, decide_eq_false hl]
    clear HE
    go_wp2_with fail
    go_ret
    exact ⟨ret_bool hE2.out.symm, HB2.out⟩
end Go.Proofs.YtbdhhclamgmfkaaGreat
/- The nearest tile that is kept: the model and the program. -/

namespace Go.Proofs.YtbdhhclamgmfkaaGreat
open Go.RowKit
set_option linter.unusedSimpArgs false
set_option linter.unusedVariables false
set_option maxRecDepth 100000

end Go.Proofs.YtbdhhclamgmfkaaGreat
/- The nearest tile on the shelf: the program. -/

namespace Go.Proofs.YtbdhhclamgmfkaaGreat
open Go.RowKit
set_option linter.unusedSimpArgs false
set_option linter.unusedVariables false
set_option maxRecDepth 100000

end Go.Proofs.YtbdhhclamgmfkaaGreat
/- The nearest tile that is kept: the program. -/

namespace Go.Proofs.YtbdhhclamgmfkaaGreat
open Go.RowKit
set_option linter.unusedSimpArgs false
set_option linter.unusedVariables false
set_option maxRecDepth 100000

end Go.Proofs.YtbdhhclamgmfkaaGreat
/- Tiles that come in: copied into memory of their own, and marked. -/

namespace Go.Proofs.YtbdhhclamgmfkaaGreat
open Go.RowKit
set_option linter.unusedSimpArgs false
set_option linter.unusedVariables false
set_option maxRecDepth 100000

end Go.Proofs.YtbdhhclamgmfkaaGreat
/- The law of RasterTile returns true at every tile. -/

namespace Go.Proofs.YtbdhhclamgmfkaaGreat
open Go.RowKit
set_option linter.unusedSimpArgs false
set_option linter.unusedVariables false
set_option maxRecDepth 100000

theorem rt_same {z x y : Int} {n : Nat} {G F : Nat → Feat} (h : ∀ i, i < n → (G i).same (F i)) : rtC z x y n G = rtC z x y n F ∧ rtL z x y n G = rtL z x y n F := by
  have e1 : featsC n G = featsC n F := featsC_same h
  have e2 : ordS n G = ordS n F := by
    unfold ordS
    rw [decide_eq_decide]
    refine forall_congr' fun i => forall_congr' fun hi => ?_
    have a := h i (by omega)
    have b := h (i + 1) (by omega)
    have e : ltF (G i) (G (i + 1)) = ltF (F i) (F (i + 1)) := by unfold ltF; rw [a.1, a.2.1, b.1, b.2.1]
    rw [e]
  have e3 : rtC z x y n G = rtC z x y n F := by unfold rtC; rw [e1, e2]
  have e4 : paintF G n z = paintF F n z := by
    funext X Y
    unfold paintF
    have : ∀ k, k ≤ n → paintI (fun i => covF z (centI z X) (centI z Y) (G i)) (fun i => (G i).id) k = paintI (fun i => covF z (centI z X) (centI z Y) (F i)) (fun i => (F i).id) k := fun k hk => by
      induction k with
      | zero => rfl
      | succ k ih =>
        obtain ⟨i1, i2, i3, i4, i5, i6, i7, i8, i9⟩ := h k (by omega)
        have ec : covF z (centI z X) (centI z Y) (G k) = covF z (centI z X) (centI z Y) (F k) := by unfold covF; rw [i3, i4, i5, i6, i7]
        rw [paintI, paintI, ih (by omega), ec, i1]
    exact this n (Nat.le_refl _)
  exact ⟨e3, by unfold rtL; rw [e3, e4]⟩
end Go.Proofs.YtbdhhclamgmfkaaGreat
