/- The model's ThinLine. -/
import Derived.Test.YtdohlnnbibnnbaaGreatVPlaceLabels34
namespace Go.Proofs.YtdohlnnbibnnbaaGreat
open Go.RowKit
set_option linter.unusedSimpArgs false
set_option linter.unusedVariables false

set_option maxRecDepth 8000 in
set_option maxHeartbeats 4000000 in
theorem l3Line_any (b n cap : Nat) (X Y : Nat → Int) (r : Int) (L : List Nat) (w : World) (hp : PtsAt w b 0 n X Y) (hbl : b < w.heap.size) (hn : n ≤ 40) (hok : ∀ i, i < n → okP (X i) (Y i) = true) (hr0 : 0 ≤ r) (hr1 : r ≤ 4096) (hL : 3 ≤ n → Thin X Y r 0 (n - 1) L) :
    Calls Tryz.prog 117 #[.slice (some ⟨b, 0, none⟩) n cap, .int .i64 r] w fun e w' => ∃ v, e = .returned v ∧ Row w.heap.size w' v (ptsOf X Y (thinP n L)) ∧ Below w.heap.size w w' := by
  obtain ⟨i0, hi, hz0, hz1, hz2⟩ := info_parts (show (Tryz.prog.info? 111).map (fun i => (i.zero, i.size, i.bytes)) = some (some (.agg #[.int .i64 0, .int .i64 0]), 2, 16) by kernel_rfl)
  have HP : Hid (PtsAt w b 0 n X Y) := hp
  have HL : Hid (3 ≤ n → Thin X Y r 0 (n - 1) L) := hL
  have HOK : Hid (∀ i, i < n → okP (X i) (Y i) = true) := hok
  clear hp hL hok
  by_cases h3 : n < 3
  · have h3i : (n : Int) < 3 := by omega
    have HPP : Hid (thinP n L = List.range n) := by show _ = _; simp [thinP, h3]
    have HLEN : Hid ((ptsOf X Y (List.range n)).length = n) := by show _ = _; simp [ptsOf]
    go_enter Tryz.func117, Tryz.ntmps117
    go_wp2_with (first
      | (at_builtin; go_must (refine wpList_append_own _ rfl _ _ 34 rfl w.heap.size 111 i0 (.agg #[.int .i64 0, .int .i64 0]) 2 16 Tryz.underlying34 hi hz0 hz1 hz2 rfl (by decide) (.slice (some ⟨w.heap.size, 0, none⟩) 0 0) 0 [] rfl (World.ownsRow_lit (base := w.heap.size) w #[] 0 (Nat.le_refl _) (Nat.zero_le _) rfl) ⟨b, 0, none⟩ n cap (cellsL (ptsOf X Y (List.range n))) rfl ?c0 ?c1 ?c2 ?c3 ?c4 ?c5 ?_)))
    case c0 => rw [cellsL_len, HLEN.out]
    case c1 =>
      intro q u hq
      have := pts_cells (HP.out.below (by (repeat (first | exact Below.refl _ _ | assumption | refine Below.drew ?_ | refine bl_alloc ?_ _ | refine bl_then ?_ (by assumption) | refine Below.setCell ?_ (by first | omega | (simp; done) | (simp; omega)) _ | refine bl_store ?_ ?_ _ _)) : Below w.heap.size w (w.alloc (.cells #[] 111))) hbl) q u hq
      by_cases hq0 : q = 0
      · subst hq0; simpa [Addr.add] using this
      · simpa [Addr.add, hq0] using this
    case c2 =>
      intro u hu
      unfold cellsL at hu
      rw [List.mem_flatMap] at hu
      obtain ⟨p, _, hp⟩ := hu
      simp at hp
      rcases hp with rfl | rfl <;> rfl
    case c3 => unfold maxLen; omega
    case c4 => omega
    case c5 => first | omega | (simp; done) | (simp; omega)
    intro v' w2 hown' hgrow hnil
    clear hnil
    have HR : Hid (Row w.heap.size w2 v' (ptsOf X Y (List.range n))) := by
      show World.ownsRow _ _ _ _ _ _ _
      rw [HLEN.out]
      simpa using hown'
    have HB2 : Hid (Below w.heap.size w w2) := ((Below.refl _ _).alloc (Nat.le_refl _) _).trans ((Below.refl _ _).grown hgrow (by simp) (fun k hk => by simp [Value.ownBlock] at hk; omega))
    clear hown' hgrow
    go_wp2
    go_ret
    exact ⟨_, rfl, by rw [HPP.out]; exact HR.out, HB2.out⟩
  · have h3i : ¬ (n : Int) < 3 := by omega
    obtain ⟨M, hM⟩ : ∃ M, M = n - 1 := ⟨_, rfl⟩
    have HPP : Hid (thinP n L = L ++ [M]) := by show _ = _; rw [hM]; simp [thinP, h3]
    have HL' : Hid (Thin X Y r 0 M L) := by show Thin _ _ _ _ _ _; rw [hM]; exact HL.out (by omega)
    have hMi : (n : Int) - 1 = (M : Int) := by omega
    have m0 : (0 : Int) ≤ (M : Int) := by omega
    have m1 : (M : Int) < (n : Int) := by omega
    have hMn : M < n := by omega
    have hM0 : 0 < M := by omega
    clear hM
    go_enter Tryz.func117, Tryz.ntmps117
    go_wp2_with fail
    have HLL : Hid (∀ l : List Nat, (ptsOf X Y l).length = l.length) := fun l => by simp [ptsOf]
    have cM0 : ∀ W', Below w.heap.size w W' → W'.cell? ⟨b, M * 2, none⟩ = some (.int .i64 (X M)) := fun W' h => by
      have := ((HP.out.below h hbl) M hMn).1
      simpa using this
    have cM1 : ∀ W', Below w.heap.size w W' → W'.cell? ⟨b, M * 2 + 1, none⟩ = some (.int .i64 (Y M)) := fun W' h => by
      have := ((HP.out.below h hbl) M hMn).2
      simpa using this
    go_cut [4] (fun t wc => ∃ v', t = v' ∧ Row w.heap.size wc v' (ptsOf X Y (L ++ [M])) ∧ Below w.heap.size w wc)
    case first =>
      refine wp_region_noPanic ?_
      refine wp_region_held_drew (S := fun W' => Below w.heap.size w W') (by kernel_rfl) (by (repeat (first | exact Below.refl _ _ | assumption | refine Below.drew ?_ | refine bl_alloc ?_ _ | refine bl_then ?_ (by assumption)))) (fun hHeld => ?_)
      refine takeD (i := 0) (d := some 15) (v := ?v0) rfl rfl (by kernel_rfl) (by kernel_rfl) (by kernel_rfl) (fun _ _ _ h => h) (Or.inl ⟨by rfl, ?hy0⟩) (by assumption) ?_
      case hy0 => (intro w hSw; (try dsimp only at hSw); go_simp <;> with_reducible rfl)
      simp only [Act.put, List.setIfInBounds_toArray, List.set_cons_zero, List.set_cons_succ]
      refine takeD (i := 1) (d := some 16) (v := ?v1) rfl rfl (by kernel_rfl) (by kernel_rfl) (by kernel_rfl) (fun _ _ _ h => h) (Or.inl ⟨by rfl, ?hy1⟩) (by assumption) ?_
      case hy1 => (intro w hSw; (try dsimp only at hSw); go_simp <;> with_reducible rfl)
      simp only [Act.put, List.setIfInBounds_toArray, List.set_cons_zero, List.set_cons_succ]
      refine takeD (i := 2) (d := some 17) (v := ?v2) rfl rfl (by kernel_rfl) (by kernel_rfl) (by kernel_rfl) (fun _ _ _ h => h) (Or.inl ⟨by rfl, ?hy2⟩) (by assumption) ?_
      case hy2 => (intro w hSw; (try dsimp only at hSw); go_simp <;> with_reducible rfl)
      simp only [Act.put, List.setIfInBounds_toArray, List.set_cons_zero, List.set_cons_succ]
      refine takeD (i := 4) (d := some 19) (v := ?v4) rfl rfl (by kernel_rfl) (by kernel_rfl) (by kernel_rfl) (fun _ _ _ h => h) (Or.inl ⟨by rfl, ?hy4⟩) (by assumption) ?_
      case hy4 => (intro w hSw; (try dsimp only at hSw); go_simp <;> with_reducible rfl)
      simp only [Act.put, List.setIfInBounds_toArray, List.set_cons_zero, List.set_cons_succ]
      refine takeD (i := 5) (d := some 20) (v := ?v5) rfl rfl (by kernel_rfl) (by kernel_rfl) (by kernel_rfl) (fun _ _ _ h => h) (Or.inl ⟨by rfl, ?hy5⟩) (by assumption) ?_
      case hy5 => (intro w hSw; (try dsimp only at hSw); go_simp <;> with_reducible rfl)
      simp only [Act.put, List.setIfInBounds_toArray, List.set_cons_zero, List.set_cons_succ]
      refine takeD (i := 6) (d := some 21) (v := ?v6) rfl rfl (by kernel_rfl) (by kernel_rfl) (by kernel_rfl) (fun _ _ _ h => h) (Or.inl ⟨by rfl, ?hy6⟩) (by assumption) ?_
      case hy6 => (intro w hSw; (try dsimp only at hSw); go_simp <;> with_reducible rfl)
      simp only [Act.put, List.setIfInBounds_toArray, List.set_cons_zero, List.set_cons_succ]
      refine takeD (i := 7) (d := some 22) (v := ?v7) rfl rfl (by kernel_rfl) (by kernel_rfl) (by kernel_rfl) (fun _ _ _ h => h) (Or.inl ⟨by rfl, ?hy7⟩) (by assumption) ?_
      case hy7 => (intro w hSw; (try dsimp only at hSw); go_simp <;> with_reducible rfl)
      simp only [Act.put, List.setIfInBounds_toArray, List.set_cons_zero, List.set_cons_succ]
      refine wpAnyH_ready (rs := [3, 8]) (by kernel_rfl) (by simp) ?_
      refine AllReadyH.cons rfl (fun K hK => ?_) (AllReadyH.cons rfl (fun K hK => ?_) AllReadyH.nil)
      · skip
        go_simp
        refine (l3Thin_any b n cap X Y r hn HOK.out hr0 hr1 M 0 M (by omega) (by omega) hMn _ (HP.out.below (by (repeat (first | exact Below.refl _ _ | assumption | refine Below.drew ?_ | refine bl_alloc ?_ _ | refine bl_then ?_ (by assumption)))) hbl) (Nat.lt_of_lt_of_le hbl (Below.size (B := w.heap.size) (w := w) (by (repeat (first | exact Below.refl _ _ | assumption | refine Below.drew ?_ | refine bl_alloc ?_ _ | refine bl_then ?_ (by assumption))))))).mono ?_
        rintro e w1 ⟨v1, l1, rfl, hT1, hR1, hb1⟩
        have e1 := hT1.uniq X Y HL'.out
        subst e1
        have hB1 : Below w.heap.size w w1 := bl_then (by (repeat (first | exact Below.refl _ _ | assumption | refine Below.drew ?_ | refine bl_alloc ?_ _ | refine bl_then ?_ (by assumption)))) hb1
        have hs1 := hB1.size
        go_wp2_with fail
        refine hK.out _ _ hB1 (fun hHeld => ?_)
        clear hK K
        try simp only [Act.put, List.setIfInBounds_toArray, List.set_cons_zero, List.set_cons_succ]
        obtain ⟨n1, _, _⟩ := hT1.len X Y (by omega)
        have hlow := fun k hk => Nat.le_trans (Nat.le_refl _) (hR1.lt k hk).1
        refine wpAnyH_ready (rs := [8]) (by kernel_rfl) (by simp) ?_
        refine AllReadyH.cons rfl (fun K hK => ?_) AllReadyH.nil
        go_simp
        refine hK.out _ _ (by (repeat (first | exact Below.refl _ _ | assumption | refine Below.drew ?_ | refine bl_alloc ?_ _ | refine bl_then ?_ (by assumption)))) (fun hHeld => ?_)
        clear hK K
        try simp only [Act.put, List.setIfInBounds_toArray, List.set_cons_zero, List.set_cons_succ]
        refine wpAnyH_ready (rs := [9]) (by kernel_rfl) (by simp) ?_
        refine AllReadyH.cons rfl (fun K hK => ?_) AllReadyH.nil
        refine step_append_own rfl (.tmp 18) (.tmp 23) 34 rfl w.heap.size 111 i0 (.agg #[.int .i64 0, .int .i64 0]) 2 16 Tryz.underlying34 hi hz0 hz1 hz2 rfl (by decide) v1 (ptsOf X Y l1).length (cellsL (ptsOf X Y l1)) rfl (World.ownsRow.alloc (Row_mono hR1 (by simp)) _) ⟨w1.heap.size, 0, none⟩ 1 1 [.int .i64 (X M), .int .i64 (Y M)] rfl rfl ?c1 ?c2 ?c3 ?c4 ?c5 ?_
        case c1 =>
          intro q u hq
          match q, hq with
          | 0, hq => simp at hq; subst hq; simp [Addr.add, go_sem]
          | 1, hq => simp at hq; subst hq; simp [Addr.add, go_sem]
          | q + 2, hq => simp at hq
        case c2 => intro u hu; simp at hu; rcases hu with rfl | rfl <;> rfl
        case c3 => have := HLL.out l1; have := n1; unfold maxLen; omega
        case c4 => have := HLL.out l1; have := n1; omega
        case c5 => first | omega | (simp; omega)
        intro v' w6 hown' hgrow hnil
        have hBg : Below w.heap.size w w6 := Below.trans (by (repeat (first | exact Below.refl _ _ | assumption | refine Below.drew ?_ | refine bl_alloc ?_ _ | refine bl_then ?_ (by assumption)))) ((Below.refl _ _).grown hgrow (by first | omega | (simp; omega)) (fun k hk => hlow k hk))
        show K (Act.put _ (some 24) v') w6
        refine hK.out _ _ hBg (fun hHeld => ?_)
        clear hK K
        try simp only [Act.put, List.setIfInBounds_toArray, List.set_cons_zero, List.set_cons_succ]
        refine takeD (i := 10) (d := some 4) (v := ?v10) rfl rfl (by kernel_rfl) (by kernel_rfl) (by kernel_rfl) (fun _ _ _ h => h) (Or.inl ⟨by rfl, ?hy10⟩) (by assumption) ?_
        case hy10 => (intro w hSw; (try dsimp only at hSw); go_simp <;> with_reducible rfl)
        simp only [Act.put, List.setIfInBounds_toArray, List.set_cons_zero, List.set_cons_succ]
        refine wpAnyH_done (by kernel_rfl) ?_ _
        refine NoPanic.normal ?_
        go_wp2_with fail
        go_meet
        case rel =>
          refine ⟨_, rfl, ?_, hBg⟩
          rw [ptsOf_add X Y l1 M]
          show World.ownsRow _ _ _ _ _ _ _
          rw [cellsL_add, List.length_append]
          exact hown'
      · skip
        go_simp
        refine hK.out _ _ (by (repeat (first | exact Below.refl _ _ | assumption | refine Below.drew ?_ | refine bl_alloc ?_ _ | refine bl_then ?_ (by assumption)))) (fun hHeld => ?_)
        clear hK K
        try simp only [Act.put, List.setIfInBounds_toArray, List.set_cons_zero, List.set_cons_succ]
        have z0 : (w.drew.alloc (.cells #[.int .i64 (X M), .int .i64 (Y M)] 111)).cell? ⟨w.heap.size, 0, none⟩ = some (.int .i64 (X M)) := by simp [go_sem]
        have z1 : (w.drew.alloc (.cells #[.int .i64 (X M), .int .i64 (Y M)] 111)).cell? ⟨w.heap.size, 1, none⟩ = some (.int .i64 (Y M)) := by simp [go_sem]
        refine wpAnyH_ready (rs := [3]) (by kernel_rfl) (by simp) ?_
        refine AllReadyH.cons rfl (fun K hK => ?_) AllReadyH.nil
        go_simp
        refine (l3Thin_any b n cap X Y r hn HOK.out hr0 hr1 M 0 M (by omega) (by omega) hMn _ (HP.out.below (by (repeat (first | exact Below.refl _ _ | assumption | refine Below.drew ?_ | refine bl_alloc ?_ _ | refine bl_then ?_ (by assumption)))) hbl) (Nat.lt_of_lt_of_le hbl (Below.size (B := w.heap.size) (w := w) (by (repeat (first | exact Below.refl _ _ | assumption | refine Below.drew ?_ | refine bl_alloc ?_ _ | refine bl_then ?_ (by assumption))))))).mono ?_
        rintro e w1 ⟨v1, l1, rfl, hT1, hR1, hb1⟩
        have e1 := hT1.uniq X Y HL'.out
        subst e1
        have hB1 : Below w.heap.size w w1 := bl_then (by (repeat (first | exact Below.refl _ _ | assumption | refine Below.drew ?_ | refine bl_alloc ?_ _ | refine bl_then ?_ (by assumption)))) hb1
        have hs1 := hB1.size
        go_wp2_with fail
        refine hK.out _ _ hB1 (fun hHeld => ?_)
        clear hK K
        try simp only [Act.put, List.setIfInBounds_toArray, List.set_cons_zero, List.set_cons_succ]
        obtain ⟨n1, _, _⟩ := hT1.len X Y (by omega)
        have hlow : ∀ k, v1.ownBlock = some k → w.heap.size ≤ k := fun k hk => by
          have := (hR1.lt k hk).1
          simp at this
          omega
        refine wpAnyH_ready (rs := [9]) (by kernel_rfl) (by simp) ?_
        refine AllReadyH.cons rfl (fun K hK => ?_) AllReadyH.nil
        refine step_append_own rfl (.tmp 18) (.tmp 23) 34 rfl w.heap.size 111 i0 (.agg #[.int .i64 0, .int .i64 0]) 2 16 Tryz.underlying34 hi hz0 hz1 hz2 rfl (by decide) v1 (ptsOf X Y l1).length (cellsL (ptsOf X Y l1)) rfl (Row_mono hR1 (by simp)) ⟨w.heap.size, 0, none⟩ 1 1 [.int .i64 (X M), .int .i64 (Y M)] rfl rfl ?c1 ?c2 ?c3 ?c4 ?c5 ?_
        case c1 =>
          intro q u hq
          match q, hq with
          | 0, hq => simp at hq; subst hq; simpa [Addr.add] using bl_cell hb1 z0
          | 1, hq => simp at hq; subst hq; simpa [Addr.add] using bl_cell hb1 z1
          | q + 2, hq => simp at hq
        case c2 => intro u hu; simp at hu; rcases hu with rfl | rfl <;> rfl
        case c3 => have := HLL.out l1; have := n1; unfold maxLen; omega
        case c4 => have := HLL.out l1; have := n1; omega
        case c5 => first | omega | (simp; omega)
        intro v' w6 hown' hgrow hnil
        have hBg : Below w.heap.size w w6 := Below.trans (by (repeat (first | exact Below.refl _ _ | assumption | refine Below.drew ?_ | refine bl_alloc ?_ _ | refine bl_then ?_ (by assumption)))) ((Below.refl _ _).grown hgrow (by first | omega | (simp; omega)) (fun k hk => hlow k hk))
        show K (Act.put _ (some 24) v') w6
        refine hK.out _ _ hBg (fun hHeld => ?_)
        clear hK K
        try simp only [Act.put, List.setIfInBounds_toArray, List.set_cons_zero, List.set_cons_succ]
        refine takeD (i := 10) (d := some 4) (v := ?w10) rfl rfl (by kernel_rfl) (by kernel_rfl) (by kernel_rfl) (fun _ _ _ h => h) (Or.inl ⟨by rfl, ?hz10⟩) (by assumption) ?_
        case hz10 => (intro w hSw; (try dsimp only at hSw); go_simp <;> with_reducible rfl)
        simp only [Act.put, List.setIfInBounds_toArray, List.set_cons_zero, List.set_cons_succ]
        refine wpAnyH_done (by kernel_rfl) ?_ _
        refine NoPanic.normal ?_
        go_wp2_with fail
        go_meet
        case rel =>
          refine ⟨_, rfl, ?_, hBg⟩
          rw [ptsOf_add X Y l1 M]
          show World.ownsRow _ _ _ _ _ _ _
          rw [cellsL_add, List.length_append]
          exact hown'
    case rest =>
      obtain ⟨v', rfl, hR, hB⟩ := hcut
      have HR : Hid (Row w.heap.size wc u4 (ptsOf X Y (L ++ [M]))) := hR
      clear hR
      go_wp2_with fail
      go_ret
      exact ⟨_, rfl, by rw [HPP.out]; exact HR.out, hB⟩

end Go.Proofs.YtdohlnnbibnnbaaGreat
