/- Several texts in one. -/
import Derived.Test.YtbdhhclamgmfkaaGreatVFrameOf21
import Derived.Test.YtbdhhclamgmfkaaGreatVFrameOf23
import Derived.Test.YtbdhhclamgmfkaaGreatVFrameOf16
import Derived.BigQuiet

/- A cache within another struct: where in it a ref is, and its fault: the model. -/

namespace Go.Proofs.YtbdhhclamgmfkaaGreat
open Go.RowKit
set_option linter.unusedSimpArgs false
set_option linter.unusedVariables false
set_option maxRecDepth 100000

/-- Two cells: a cache. -/
def CaO (w : World) (q o : Nat) (s : Int) (v : Value) : Prop := w.cell? ⟨q, o, none⟩ = some (.int .i64 s) ∧ w.cell? ⟨q, o + 1, none⟩ = some v
theorem CaO.below {w w' : World} {q o : Nat} {s : Int} {v : Value} (h : CaO w q o s v) (hb : Below w.heap.size w w') : CaO w' q o s v :=
  have hl := World.block_lt_of_cell? _ _ h.1
  ⟨(hb.cell (p := ⟨q, o, none⟩) hl).trans h.1, (hb.cell (p := ⟨q, o + 1, none⟩) hl).trans h.2⟩
set_option maxHeartbeats 4000000 in
theorem l11At_off (q o : Nat) (s : Int) (a : Option Addr) (n cap : Nat) (K : Nat → Kp) (z x y : Int) (w : World) (hc : CaO w q o s (.slice a n cap)) (hp : IsKs w a n K) (hn : n ≤ 1048576) :
    Calls Tryz.prog 50 #[.pointer (some ⟨q, o, none⟩), refV z x y] w fun e w' => e = .returned (.int .i64 (atK n K z x y)) ∧ Below w.heap.size w w' := by
  have HP : Hid (IsKs w a n K) := hp
  have HC : Hid (CaO w q o s (.slice a n cap)) := hc
  clear hp hc
  go_enter Tryz.func50, Tryz.ntmps50
  go_wp2_with fail
  generalize hW : (w.alloc _ : World) = W
  have HB0 : Hid (Below w.heap.size w W) := by show Below _ _ _; subst hW; (repeat (first | exact Below.refl _ _ | assumption | refine Below.drew ?_ | refine bl_alloc ?_ _ | refine bl_then ?_ (by assumption) | refine Below.setCell ?_ (by first | omega | (simp; done) | (simp; omega)) _ | refine bl_store ?_ ?_ _ _))
  have HR : Hid (RK W w.heap.size z x y) := by show RK _ _ _ _ _; subst hW; exact ⟨by simp [go_sem], by simp [go_sem], by simp [go_sem]⟩
  clear hW
  go_loopw [5] (fun i wr => ∃ k : Nat, k ≤ n ∧ i = .int .i64 (k : Int) ∧ (∀ j, j < k → isK (K j) z x y = false) ∧ Below W.heap.size W wr) (fun i _ => n - (intOf i).toNat)
  case atStart => exact ⟨0, by omega, rfl, fun j hj => absurd hj (Nat.not_lt_zero _), Below.refl _ _⟩
  case round =>
    obtain ⟨k, hk, rfl, hno, hB⟩ := hrel
    have HN : Hid (∀ j, j < k → isK (K j) z x y = false) := hno
    have HB : Hid (Below W.heap.size W wr) := hB
    obtain ⟨m0, m1⟩ := HC.out.below (bl_then HB0.out hB)
    by_cases hlt : k < n
    · rcases HP.out with h0 | ⟨b, off, rfl, hb, hpt⟩
      · omega
      obtain ⟨q0, q1, q2, q3, q4⟩ := ((hpt.below (bl_then HB0.out hB) hb) k hlt).1
      obtain ⟨p0, p1, p2⟩ := HR.out.below hB
      have hi : (k : Int) < (n : Int) := by omega
      have hi0 : (0 : Int) ≤ (k : Int) := by omega
      have heq := fun w => eql_ref (K k).z (K k).x (K k).y z x y w
      clear hno hB hpt
      have hE0 : ((K k).z == z && ((K k).x == x && (K k).y == y)) = isK (K k) z x y := rfl
      simp only [hE0] at heq
      clear hE0
      cases hE : isK (K k) z x y
      · simp only [hE] at heq
        have HN2 : Hid (∀ j, j < k + 1 → isK (K j) z x y = false) := fun j hj => by
          by_cases e : j = k
          · rw [e]; exact hE
          · exact HN.out j (by omega)
        clear hE
        generalize (K k).z = rz at *
        generalize (K k).x = rx at *
        generalize (K k).y = ry at *
        go_wp2_with fail
        go_quiet (fail)
        go_wp2_with fail
        exact ⟨⟨k + 1, by omega, by simp, HN2.out, below_drewN HB.out _⟩, by simp [intOf]; omega⟩
      · simp only [hE] at heq
        have HY : Hid (atK n K z x y = (k : Int)) := firstI_yes (G := fun i => isK (K i) z x y) hlt hE HN.out
        clear hE
        generalize (K k).z = rz at *
        generalize (K k).x = rx at *
        generalize (K k).y = ry at *
        go_wp2_with fail
        go_quiet (fail)
        go_wp2
        go_ret
        exact ⟨ret_int HY.out.symm, below_drewN (bl_then HB0.out HB.out) _⟩
    · obtain rfl : n = k := by omega
      have HY : Hid (atK n K z x y = -1) := firstI_no (G := fun i => isK (K i) z x y) HN.out
      go_wp2
      go_ret
      exact ⟨ret_int HY.out.symm, bl_then HB0.out HB.out⟩
set_option maxHeartbeats 8000000 in
theorem l11Fault_off (q o : Nat) (s : Int) (b n cap : Nat) (A : Nat → Kp) (w : World) (hc : CaO w q o s (.slice (some ⟨b, 0, none⟩) n cap)) (ha : KoAt w b n A) (hs : SmallKs n A) :
    Calls Tryz.prog 47 #[.pointer (some ⟨q, o, none⟩)] w fun e w' => e = .returned (.int .i64 (cacheC s n A)) ∧ Below w.heap.size w w' := by
  have HA : Hid (KoAt w b n A) := ha
  have HC : Hid (CaO w q o s (.slice (some ⟨b, 0, none⟩) n cap)) := hc
  have HS : Hid (SmallKs n A) := hs
  have hn : n ≤ 1048576 := hs.1
  obtain ⟨p0, p1⟩ := hc
  clear ha hs
  cases hin : inB s 1 10
  · have hz : Hid (cacheC s n A = 3) := by show _ = _; unfold cacheC; rw [hin]; rfl
    go_enter Tryz.func47, Tryz.ntmps47
    go_wp2_with (go_at_call 46; refine (l1In_any _ _ _ _).mono ?_; rintro e w' ⟨rfl, h'⟩; subst w')
    go_ret
    exact ⟨ret_int hz.out.symm, by (repeat (first | exact Below.refl _ _ | assumption | refine Below.drew ?_ | refine bl_alloc ?_ _ | refine bl_then ?_ (by assumption) | refine Below.setCell ?_ (by first | omega | (simp; done) | (simp; omega)) _ | refine bl_store ?_ ?_ _ _))⟩
  by_cases hsn : s < (n : Int)
  · have hz : Hid (cacheC s n A = 2) := by show _ = _; unfold cacheC; rw [if_pos hin, if_pos hsn]
    have hw : IntKind.i64.wrap (n : Int) = (n : Int) := IntWalk.i64_in _ (by omega)
    go_enter Tryz.func47, Tryz.ntmps47
    go_wp2_with (go_at_call 46; refine (l1In_any _ _ _ _).mono ?_; rintro e w' ⟨rfl, h'⟩; subst w')
    go_quiet (fail)
    go_wp2
    go_ret
    exact ⟨ret_int hz.out.symm, below_drewN (Below.refl _ _) _⟩
  · have hz : Hid (cacheC s n A = scanC (kC A) 0 n) := by show _ = _; unfold cacheC; rw [if_pos hin, if_neg hsn]
    have hw : IntKind.i64.wrap (n : Int) = (n : Int) := IntWalk.i64_in _ (by omega)
    go_enter Tryz.func47, Tryz.ntmps47
    go_wp2_with (go_at_call 46; refine (l1In_any _ _ _ _).mono ?_; rintro e w' ⟨rfl, h'⟩; subst w')
    go_quiet (fail)
    go_wp2_with fail
    go_loopw [3] (fun v wr => ∃ k : Nat, k ≤ n ∧ v = .int .i64 k ∧ (∀ j, j < k → kC A j = 0) ∧ Below w.heap.size w wr) (fun v _ => n - (intOf v).toNat)
    case atStart => exact ⟨0, by omega, rfl, by omega, below_drewN (Below.refl _ _) _⟩
    case round =>
      obtain ⟨k, hk, rfl, hA, hB⟩ := hrel
      have HB : Hid (Below w.heap.size w wr) := hB
      have HZ : Hid (∀ j, j < k → kC A j = 0) := hA
      obtain ⟨m0, m1⟩ := HC.out.below hB
      clear p0 p1 hA
      by_cases hlt : k < n
      · have HLT : Hid (k < n) := hlt
        have first : Hid (∀ c, kC A k = c → c ≠ 0 → cacheC s n A = c) := fun c hc h0 => by
          rw [hz.out, scan_first (kC A) n 0 k (fun j _ hj => HZ.out j hj) (by omega) (by have := HLT.out; omega) (by rw [hc]; exact h0), hc]
        have HOK : Hid (kC A k = 0 → ∀ j, j < k + 1 → kC A j = 0) := fun h0 j hj => by
          by_cases e : j = k
          · rw [e]; exact h0
          · exact HZ.out j (by omega)
        have HR : Hid (KoAt wr b n A) := HA.out.below hB
        obtain ⟨⟨q0, q1, q2, q3, q4⟩, ⟨fb, ef, hfl, hft⟩, hids⟩ := HR.out.2 k hlt
        rw [ef] at q3
        have HL8 : Hid (Calls Tryz.prog 75 #[.pointer (some ⟨b, k * 5, none⟩)] wr fun e w' => e = .returned (.int .i64 (rtC (A k).z (A k).x (A k).y (A k).fn (A k).F)) ∧ Below wr.heap.size wr w') :=
          l8Tile_off b (k * 5) _ _ _ fb (A k).fn (A k).fc (A k).F wr ⟨q0, q1, q2, q3⟩ hft hfl (HS.out.2 k hlt).1
        have hi : (k : Int) < (n : Int) := by omega
        have hi0 : (0 : Int) ≤ (k : Int) := by omega
        clear hB hft hids
        by_cases hC : rtC (A k).z (A k).x (A k).y (A k).fn (A k).F = 0
        · rw [hC] at HL8
          go_wp2_with fail
          refine HL8.out.mono ?_
          rintro e w1 ⟨rfl, hb1⟩
          have HB1 : Hid (Below w.heap.size w w1) := bl_then HB.out hb1
          have HR1 : Hid (KoAt w1 b n A) := HR.out.below hb1
          have hC0 : Hid (rtC (A k).z (A k).x (A k).y (A k).fn (A k).F = 0) := hC
          have HRas : Hid (∀ W, Below w1.heap.size w1 W → Calls Tryz.prog 77 #[.pointer (some ⟨b, k * 5, none⟩)] W fun e w' => ∃ v, e = .returned v ∧ RowN W.heap.size w' v (rtL (A k).z (A k).x (A k).y (A k).fn (A k).F) ∧ Below W.heap.size W w') := fun W hW => by
            obtain ⟨hr, hf, _⟩ := rtC_zero hC0.out
            obtain ⟨h12, hok⟩ := feats_okF hf
            obtain ⟨⟨r0, r1, r2, r3, r4⟩, ⟨gb, eg, hgl, hgt⟩, _⟩ := (HR1.out.below hW).2 k HLT.out
            rw [eg] at r3
            rw [show rtL (A k).z (A k).x (A k).y (A k).fn (A k).F = _ from if_pos hC0.out]
            exact l8Raster_off b (k * 5) _ _ _ gb (A k).fn (A k).fc (A k).F W ⟨r0, r1, r2, r3⟩ hgt hgl h12 hok hr
          obtain ⟨B, hBB0⟩ : ∃ B, sameI (A k).m (rtL (A k).z (A k).x (A k).y (A k).fn (A k).F).length (A k).I (nz (rtL (A k).z (A k).x (A k).y (A k).fn (A k).F)) = B := ⟨_, rfl⟩
          have hBB : Hid (sameI (A k).m (rtL (A k).z (A k).x (A k).y (A k).fn (A k).F).length (A k).I (nz (rtL (A k).z (A k).x (A k).y (A k).fn (A k).F)) = B) := hBB0
          have HSm : Hid (∀ W, Below w1.heap.size w1 W → ∀ va vc, IsNs W va (rtL (A k).z (A k).x (A k).y (A k).fn (A k).F).length (nz (rtL (A k).z (A k).x (A k).y (A k).fn (A k).F)) → Calls Tryz.prog 76 #[.slice (A k).ia (A k).m (A k).ic, .slice va (rtL (A k).z (A k).x (A k).y (A k).fn (A k).F).length vc] W fun e w' => e = .returned (.bool B) ∧ Below W.heap.size W w') := fun W hW va vc hv => by
            rw [← hBB.out]
            exact l11Same_any _ va _ _ _ vc _ _ W ((HR1.out.below hW).2 k HLT.out).2.2 hv (HS.out.2 k HLT.out).2
          have d4 : ∀ W, Below w1.heap.size w1 W → W.cell? ⟨b, k * 5 + 4, none⟩ = some (.slice (A k).ia (A k).m (A k).ic) := fun W hW => ((HR1.out.below hW).2 k HLT.out).1.2.2.2.2
          clear q0 q1 q2 q3 q4 m0 m1 hC hBB0 HL8 hb1
          go_wp2_with fail
          refine wp_region_noPanic ?_
          refine wp_region_held_drew (S := fun W' => Below w1.heap.size w1 W') (by kernel_rfl) (by have := Below.refl w1.heap.size w1; (repeat (first | exact Below.refl _ _ | assumption | refine Below.drew ?_ | refine bl_alloc ?_ _ | refine bl_then ?_ (by assumption) | refine Below.setCell ?_ (by first | omega | (simp; done) | (simp; omega)) _ | refine bl_store ?_ ?_ _ _))) (fun hHeld => ?_)
          have hSd : Below w1.heap.size w1 w1.drew := hHeld
          refine takeD (i := 0) (d := some 44) (v := ?vr0) rfl rfl (by kernel_rfl) (by kernel_rfl) (by kernel_rfl) (fun _ _ _ h => h) (Or.inl ⟨by rfl, ?hyr0⟩) hSd ?_
          case hyr0 => (intro w hSw; (try dsimp only at hSw); go_simp <;> with_reducible rfl)
          try simp only [Act.put, List.setIfInBounds_toArray, List.set_cons_zero, List.set_cons_succ]
          refine takeD (i := 1) (d := some 45) (v := ?vr1) rfl rfl (by kernel_rfl) (by kernel_rfl) (by kernel_rfl) (fun _ _ _ h => h) (Or.inl ⟨by rfl, ?hyr1⟩) hSd ?_
          case hyr1 => (intro w hSw; (try dsimp only at hSw); go_simp <;> with_reducible rfl)
          try simp only [Act.put, List.setIfInBounds_toArray, List.set_cons_zero, List.set_cons_succ]
          refine takeD (i := 2) (d := some 46) (v := ?vr2) rfl rfl (by kernel_rfl) (by kernel_rfl) (by kernel_rfl) (fun _ _ _ h => h) (Or.inl ⟨by rfl, ?hyr2⟩) hSd ?_
          case hyr2 => (intro w hSw; (try dsimp only at hSw); go_simp <;> with_reducible rfl)
          try simp only [Act.put, List.setIfInBounds_toArray, List.set_cons_zero, List.set_cons_succ]
          refine takeD (i := 3) (d := some 47) (v := ?vr3) rfl rfl (by kernel_rfl) (by kernel_rfl) (by kernel_rfl) (fun _ _ _ h => h) (Or.inl ⟨by rfl, ?hyr3⟩) hSd ?_
          case hyr3 => (intro w hSw; (try dsimp only at hSw); go_simp <;> with_reducible rfl)
          try simp only [Act.put, List.setIfInBounds_toArray, List.set_cons_zero, List.set_cons_succ]
          refine takeD (i := 4) (d := some 48) (v := ?vr4) rfl rfl (by kernel_rfl) (by kernel_rfl) (by kernel_rfl) (fun _ _ _ h => h) (Or.inl ⟨by rfl, ?hyr4⟩) hSd ?_
          case hyr4 => (intro w hSw; (try dsimp only at hSw); go_simp <;> with_reducible rfl)
          try simp only [Act.put, List.setIfInBounds_toArray, List.set_cons_zero, List.set_cons_succ]
          refine takeD (i := 5) (d := some 49) (v := ?vr5) rfl rfl (by kernel_rfl) (by kernel_rfl) (by kernel_rfl) (fun _ _ _ h => h) (Or.inl ⟨by rfl, ?hyr5⟩) hSd ?_
          case hyr5 => (intro w hSw; (try dsimp only at hSw); go_simp <;> with_reducible rfl)
          try simp only [Act.put, List.setIfInBounds_toArray, List.set_cons_zero, List.set_cons_succ]
          refine takeD (i := 6) (d := some 50) (v := ?vr6) rfl rfl (by kernel_rfl) (by kernel_rfl) (by kernel_rfl) (fun _ _ _ h => h) (Or.inl ⟨by rfl, ?hyr6⟩) hSd ?_
          case hyr6 => (intro w hSw; (try dsimp only at hSw); go_simp <;> with_reducible rfl)
          try simp only [Act.put, List.setIfInBounds_toArray, List.set_cons_zero, List.set_cons_succ]
          refine wpAnyH_ready (rs := [7]) (by kernel_rfl) (by simp) ?_
          refine (AllReadyH.cons rfl (fun K hK => ?_) AllReadyH.nil)
          rw [if_pos (by rfl)]
          go_simp
          refine Calls.mono (HRas.out _ hSd) ?_
          rintro e wB ⟨v, rfl, hrow, hbB⟩
          have hSB : Below w1.heap.size w1 wB := bl_then hSd hbB
          obtain ⟨va, vc, rfl, hvc, hvn⟩ := hrow.own.pts
          have HSm2 := (show Hid _ from HSm.out wB hSB va vc hvn)
          clear hrow hvn hvc
          go_wp2_with fail
          refine hK.out _ _ hSB (fun hHeld => ?_)
          clear hK K hbB
          try simp only [Act.put, List.setIfInBounds_toArray, List.set_cons_zero, List.set_cons_succ]
          refine wpAnyH_ready (rs := [8]) (by kernel_rfl) (by simp) ?_
          refine (AllReadyH.cons rfl (fun K hK => ?_) AllReadyH.nil)
          rw [if_pos (by rfl)]
          go_simp
          refine Calls.mono HSm2.out ?_
          rintro e wC ⟨rfl, hbC⟩
          have hSC : Below w1.heap.size w1 wC := bl_then hSB hbC
          go_wp2_with fail
          refine hK.out _ _ hSC (fun hHeld => ?_)
          clear hK K hbC HSm2
          try simp only [Act.put, List.setIfInBounds_toArray, List.set_cons_zero, List.set_cons_succ]
          refine takeD (i := 9) (d := some 53) (v := ?vs9) rfl rfl (by kernel_rfl) (by kernel_rfl) (by kernel_rfl) (fun _ _ _ h => h) (Or.inl ⟨by rfl, ?hys9⟩) hSC ?_
          case hys9 => (intro w hSw; (try dsimp only at hSw); go_simp <;> with_reducible rfl)
          try simp only [Act.put, List.setIfInBounds_toArray, List.set_cons_zero, List.set_cons_succ]
          refine wpAnyH_done (by kernel_rfl) ?_ _
          refine NoPanic.normal ?_
          have HC3 : Hid (Below w.heap.size w wC) := bl_then HB1.out hSC
          have HR3 : Hid (KoAt wC b n A) := HR1.out.below hSC
          clear d4 HRas HSm hSB hSd hSC
          cases B
          · have hsc : Hid (cacheC s n A = 8) := first.out 8 ((kC_bad (by rw [tC_state hC0.out hBB.out]; decide)).trans (tC_state hC0.out hBB.out)) (by decide)
            go_wp2
            go_ret
            exact ⟨ret_int hsc.out.symm, HC3.out⟩
          · have ht0 : Hid (tC (A k) = 0) := tC_ok hC0.out hBB.out
            have HH : Hid (Calls Tryz.prog 50 #[.pointer (some ⟨q, o, none⟩), refV (A k).z (A k).x (A k).y] wC fun e w' => e = .returned (.int .i64 (atK n A (A k).z (A k).x (A k).y)) ∧ Below wC.heap.size wC w') :=
              l11At_off q o s _ n cap A _ _ _ wC (HC.out.below HC3.out) HR3.out.is hn
            obtain ⟨g0, g1, g2, g3, g4⟩ := (HR3.out.2 k HLT.out).1
            clear g3 g4
            rcases atK_self HLT.out with ⟨hq, hq2⟩ | ⟨hq, i, hik, hq2⟩
            · have hok : Hid (kC A k = 0) := kC_ok ht0.out hq
              rw [hq2] at HH
              clear hq hq2
              generalize (A k).z = rz at *
              generalize (A k).x = rx at *
              generalize (A k).y = ry at *
              go_wp2_with (go_at_call 50; refine HH.out.mono ?_; rintro e w' ⟨rfl, hb⟩)
              go_roundw
              case rel => exact ⟨k + 1, by have := HLT.out; omega, by go_num, HOK.out hok.out, bl_then HC3.out (by assumption)⟩
              case measure => have := HLT.out; simp [intOf]; omega
            · have hsc : Hid (cacheC s n A = 6) := first.out 6 (kC_taken ht0.out hq) (by decide)
              have hne : ((i : Int) == (k : Int)) = false := by simp; omega
              rw [hq2] at HH
              clear hq hq2
              generalize (A k).z = rz at *
              generalize (A k).x = rx at *
              generalize (A k).y = ry at *
              generalize (i : Int) = ii at *
              clear hik
              go_wp2_with (go_at_call 50; refine HH.out.mono ?_; rintro e w' ⟨rfl, hb⟩)
              go_ret
              exact ⟨ret_int hsc.out.symm, bl_then HC3.out (by assumption)⟩
        · have hsc : Hid (cacheC s n A = rtC (A k).z (A k).x (A k).y (A k).fn (A k).F) := first.out _ ((kC_bad (by rw [tC_ras hC]; exact hC)).trans (tC_ras hC)) hC
          have hcb : (rtC (A k).z (A k).x (A k).y (A k).fn (A k).F == 0) = false := by simpa using hC
          generalize rtC (A k).z (A k).x (A k).y (A k).fn (A k).F = rc at *
          go_wp2_with fail
          refine HL8.out.mono ?_
          rintro e w1 ⟨rfl, hb1⟩
          go_wp2
          go_ret
          exact ⟨ret_int hsc.out.symm, bl_then HB.out hb1⟩
      · have hsc : Hid (cacheC s n A = 0) := by
          show _ = _
          rw [hz.out]
          exact scan_none _ _ _ (fun j _ hj => HZ.out j (by omega))
        go_wp2
        go_ret
        exact ⟨ret_int hsc.out.symm, HB.out⟩
end Go.Proofs.YtbdhhclamgmfkaaGreat
/- The fault of requests, and which one is of a ref: the program and the model. -/

namespace Go.Proofs.YtbdhhclamgmfkaaGreat
open Go.RowKit
set_option linter.unusedSimpArgs false
set_option linter.unusedVariables false
set_option maxRecDepth 100000

/-- A request is of this ref. -/
def isR (e : Req) (z x y : Int) : Bool := (e.z == z) && ((e.x == x) && (e.y == y))
/-- A request without a fault of its own. -/
def reqB (e : Req) : Bool := refB e.z e.x e.y && (inB e.du 0 9999 && inB e.tr 1 99)
def reqC (e : Req) : Int := if reqB e = true then 0 else 3
/-- The place of the request of a ref. -/
def atW (n : Nat) (E : Nat → Req) (z x y : Int) : Int := firstI (fun i => isR (E i) z x y) n
def rCode (E : Nat → Req) (i : Nat) : Int := if reqB (E i) = true then (if 0 ≤ atW i E (E i).z (E i).x (E i).y then 6 else 0) else 3
/-- What is not right of requests. -/
def reqsC (n : Nat) (E : Nat → Req) : Int := if 8 < n then 2 else scanC (rCode E) 0 n
theorem rCode_bad {E : Nat → Req} {i : Nat} (h : reqB (E i) = false) : rCode E i = 3 := by simp [rCode, h]
theorem rCode_ok {E : Nat → Req} {i : Nat} (h : reqB (E i) = true) (h2 : atW i E (E i).z (E i).x (E i).y = -1) : rCode E i = 0 := by simp [rCode, h, h2]
theorem rCode_taken {E : Nat → Req} {i : Nat} (h : reqB (E i) = true) (h2 : 0 ≤ atW i E (E i).z (E i).x (E i).y) : rCode E i = 6 := by simp [rCode, h, h2]
theorem isR_self (e : Req) : isR e e.z e.x e.y = true := by simp [isR]
/-- The cells of a ref. -/
def R3At (w : World) (p : Nat) (z x y : Int) : Prop := w.cell? ⟨p, 0, none⟩ = some (.int .i64 z) ∧ w.cell? ⟨p, 1, none⟩ = some (.int .i64 x) ∧ w.cell? ⟨p, 2, none⟩ = some (.int .i64 y)
theorem R3At.lt {w : World} {p : Nat} {z x y : Int} (h : R3At w p z x y) : p < w.heap.size := World.block_lt_of_cell? _ _ h.1
theorem R3At.below {w w' : World} {p : Nat} {z x y : Int} (h : R3At w p z x y) (hb : Below w.heap.size w w') : R3At w' p z x y :=
  ⟨(hb.cell (p := ⟨p, 0, none⟩) h.lt).trans h.1, (hb.cell (p := ⟨p, 1, none⟩) h.lt).trans h.2.1, (hb.cell (p := ⟨p, 2, none⟩) h.lt).trans h.2.2⟩
theorem enter_rq (args : Array Value) (w : World) : (callFunc 119 args).run Tryz.prog w = .ok (.enter 119 args) w := by
  have h1 : (Tryz.f119).name ≠ "runtime.NumGoroutine" := by
    have : ((Tryz.f119).name == "runtime.NumGoroutine") = false := by kernel_rfl
    simpa using this
  have hb : ∃ c, (Tryz.f119).body = some c := ⟨_, rfl⟩
  obtain ⟨c, hb⟩ := hb
  simp [callFunc, Tryz.func119, h1, hb]
set_option maxHeartbeats 2000000 in
theorem requestOf1_any (e : Req) (r : Nat) (z x y : Int) (w : World) (h : R3At w r z x y) :
    Calls Tryz.prog 119 #[reqV e, .pointer (some ⟨r, 0, none⟩)] w fun q w' => q = .returned (.bool (isR e z x y)) ∧ Below w.heap.size w w' := by
  have hl := h.lt
  have c0 : (w.alloc (.cells #[.int .i64 e.z, .int .i64 e.x, .int .i64 e.y, .int .i64 e.du, .int .i64 e.tr] 89)).cell? ⟨r, 0, none⟩ = some (.int .i64 z) := by rw [World.cell?_alloc_lt _ _ _ hl]; exact h.1
  have c1 : (w.alloc (.cells #[.int .i64 e.z, .int .i64 e.x, .int .i64 e.y, .int .i64 e.du, .int .i64 e.tr] 89)).cell? ⟨r, 1, none⟩ = some (.int .i64 x) := by rw [World.cell?_alloc_lt _ _ _ hl]; exact h.2.1
  have c2 : (w.alloc (.cells #[.int .i64 e.z, .int .i64 e.x, .int .i64 e.y, .int .i64 e.du, .int .i64 e.tr] 89)).cell? ⟨r, 2, none⟩ = some (.int .i64 y) := by rw [World.cell?_alloc_lt _ _ _ hl]; exact h.2.2
  have heq := fun w => eql_ref e.z e.x e.y z x y w
  clear h hl
  go_enter Tryz.func119, Tryz.ntmps119
  go_wp2
  go_ret
  exact ⟨rfl, by (repeat (first | exact Below.refl _ _ | assumption | refine Below.drew ?_ | refine bl_alloc ?_ _ | refine bl_then ?_ (by assumption) | refine Below.setCell ?_ (by first | omega | (simp; done) | (simp; omega)) _ | refine bl_store ?_ ?_ _ _))⟩
set_option maxHeartbeats 4000000 in
theorem indexW_any (a : Option Addr) (n cap : Nat) (E : Nat → Req) (r : Nat) (z x y : Int) (w : World) (hp : IsWs w a n E) (hr : R3At w r z x y) (hn : n ≤ 1048576) :
    Calls Tryz.prog 118 #[.slice a n cap, .func (.func 119) #[] #[.pointer (some ⟨r, 0, none⟩)]] w fun e w' => e = .returned (.int .i64 (atW n E z x y)) ∧ Below w.heap.size w w' := by
  have HP : Hid (IsWs w a n E) := hp
  have HR : Hid (R3At w r z x y) := hr
  have hce := enter_rq
  clear hp hr
  go_enter Tryz.func118, Tryz.ntmps118
  go_wp2_with fail
  go_loopw [8] (fun i wr => ∃ k : Nat, k ≤ n ∧ i = .int .i64 (k : Int) ∧ (∀ j, j < k → isR (E j) z x y = false) ∧ Below w.heap.size w wr) (fun i _ => n - (intOf i).toNat)
  case atStart => exact ⟨0, by omega, rfl, fun j hj => absurd hj (Nat.not_lt_zero _), Below.refl _ _⟩
  case round =>
    obtain ⟨k, hk, rfl, hno, hB⟩ := hrel
    have HN : Hid (∀ j, j < k → isR (E j) z x y = false) := hno
    have HB : Hid (Below w.heap.size w wr) := hB
    by_cases hlt : k < n
    · rcases HP.out with h0 | ⟨b, off, rfl, hb, hpt⟩
      · omega
      obtain ⟨q0, q1, q2, q3, q4⟩ := (hpt.below hB hb) k hlt
      have hi : (k : Int) < (n : Int) := by omega
      have hi0 : (0 : Int) ≤ (k : Int) := by omega
      have sO : Calls Tryz.prog 119 #[reqV (E k), .pointer (some ⟨r, 0, none⟩)] wr fun q w' => q = .returned (.bool (isR (E k) z x y)) ∧ Below wr.heap.size wr w' := requestOf1_any (E k) r z x y wr (HR.out.below hB)
      clear hno hB hpt
      cases hE : isR (E k) z x y
      · rw [hE] at sO
        have HN2 : Hid (∀ j, j < k + 1 → isR (E j) z x y = false) := fun j hj => by
          by_cases e : j = k
          · rw [e]; exact hE
          · exact HN.out j (by omega)
        clear hE
        go_wp2_with fail
        refine sO.mono ?_
        rintro e w1 ⟨rfl, hb1⟩
        go_wp2_with fail
        exact ⟨⟨k + 1, by omega, by simp, HN2.out, bl_then HB.out hb1⟩, by simp [intOf]; omega⟩
      · rw [hE] at sO
        have HY : Hid (atW n E z x y = (k : Int)) := firstI_yes (G := fun i => isR (E i) z x y) hlt hE HN.out
        clear hE
        go_wp2_with fail
        refine sO.mono ?_
        rintro e w1 ⟨rfl, hb1⟩
        go_wp2
        go_ret
        exact ⟨ret_int HY.out.symm, bl_then HB.out hb1⟩
    · obtain rfl : n = k := by omega
      have HY : Hid (atW n E z x y = -1) := firstI_no (G := fun i => isR (E i) z x y) HN.out
      go_wp2
      go_ret
      exact ⟨ret_int HY.out.symm, HB.out⟩
set_option maxHeartbeats 2000000 in
theorem requestOf_any (a : Option Addr) (n cap : Nat) (E : Nat → Req) (z x y : Int) (w : World) (hp : IsWs w a n E) (hn : n ≤ 1048576) :
    Calls Tryz.prog 93 #[.slice a n cap, refV z x y] w fun e w' => e = .returned (.int .i64 (atW n E z x y)) ∧ Below w.heap.size w w' := by
  have HI : Hid (∀ W, Below w.heap.size w W → R3At W w.heap.size z x y → Calls Tryz.prog 118 #[.slice a n cap, .func (.func 119) #[] #[.pointer (some ⟨w.heap.size, 0, none⟩)]] W fun e w' => e = .returned (.int .i64 (atW n E z x y)) ∧ Below W.heap.size W w') := fun W h h2 => indexW_any a n cap E w.heap.size z x y W (hp.below h) h2 hn
  clear hp
  have hmf : ∀ (fn : Fn) (first cap : Array Value) (w : World), (Instr.makeFunc fn first cap).run Tryz.prog w = .ok (.func fn first cap) w := fun _ _ _ _ => rfl
  generalize atW n E z x y = r at *
  go_enter Tryz.func93, Tryz.ntmps93
  go_wp2_with fail
  generalize hW : (w.alloc _ : World) = W
  have HB0 : Below w.heap.size w W := by subst hW; (repeat (first | exact Below.refl _ _ | assumption | refine Below.drew ?_ | refine bl_alloc ?_ _ | refine bl_then ?_ (by assumption) | refine Below.setCell ?_ (by first | omega | (simp; done) | (simp; omega)) _ | refine bl_store ?_ ?_ _ _))
  have HR : R3At W w.heap.size z x y := by subst hW; exact ⟨by simp [go_sem], by simp [go_sem], by simp [go_sem]⟩
  clear hW
  refine (HI.out _ HB0 HR).mono ?_
  rintro e w1 ⟨rfl, hb1⟩
  go_wp2
  go_ret
  exact ⟨rfl, bl_then HB0 hb1⟩
set_option maxHeartbeats 2000000 in
theorem requestFault_any (e : Req) (w : World) : Calls Tryz.prog 92 #[reqV e] w fun r w' => r = .returned (.int .i64 (reqC e)) ∧ Below w.heap.size w w' := by
  rcases refC_cases e.z e.x e.y with ⟨h1, h2⟩ | ⟨h1, h2⟩
  · cases h3 : inB e.du 0 9999 <;> cases h4 : inB e.tr 1 99
    all_goals
      have hk : Hid (reqC e = if (inB e.du 0 9999 && inB e.tr 1 99) = true then 0 else 3) := by show _ = _; simp [reqC, reqB, h2]
      rw [h3, h4] at hk
      have HF : Hid (∀ w, Calls Tryz.prog 117 #[refV e.z e.x e.y] w fun r w' => r = .returned (.int .i64 0) ∧ Below w.heap.size w w') := fun w => by have h := refFault_any e.z e.x e.y w; rw [h1] at h; exact h
      clear h1 h2
      go_enter Tryz.func92, Tryz.ntmps92
      go_wp2_with fail
      generalize hW : (w.alloc _ : World) = W
      have HB0 : Below w.heap.size w W := by subst hW; (repeat (first | exact Below.refl _ _ | assumption | refine Below.drew ?_ | refine bl_alloc ?_ _ | refine bl_then ?_ (by assumption) | refine Below.setCell ?_ (by first | omega | (simp; done) | (simp; omega)) _ | refine bl_store ?_ ?_ _ _))
      have c3 : ∀ W', Below W.heap.size W W' → W'.cell? ⟨w.heap.size, 3, none⟩ = some (.int .i64 e.du) := fun W' h => by rw [h.cell (by subst hW; simp)]; subst hW; simp [go_sem]
      have c4 : ∀ W', Below W.heap.size W W' → W'.cell? ⟨w.heap.size, 4, none⟩ = some (.int .i64 e.tr) := fun W' h => by rw [h.cell (by subst hW; simp)]; subst hW; simp [go_sem]
      clear hW
      refine (HF.out _).mono ?_
      rintro r w1 ⟨rfl, hb1⟩
      have k3 := c3 w1 hb1
      have k4 := c4 w1 hb1
      have HB1 : Hid (Below w.heap.size w w1) := bl_then HB0 hb1
      clear c3 c4 hb1 HB0
      go_wp2_with (go_at_call 87; refine (isWithin_any _ _ _ _).mono ?_; rintro e w' ⟨rfl, rfl⟩)
      all_goals (go_ret; exact ⟨ret_int (by rw [hk.out]; rfl), HB1.out⟩)
  · have hk : Hid (reqC e = 3) := by show _ = _; simp [reqC, reqB, h2]
    have HF : Hid (∀ w, Calls Tryz.prog 117 #[refV e.z e.x e.y] w fun r w' => r = .returned (.int .i64 3) ∧ Below w.heap.size w w') := fun w => by have h := refFault_any e.z e.x e.y w; rw [h1] at h; exact h
    clear h1 h2
    go_enter Tryz.func92, Tryz.ntmps92
    go_wp2_with (go_at_call 117; refine (HF.out _).mono ?_; rintro e w' ⟨rfl, hb⟩)
    go_ret
    exact ⟨ret_int hk.out.symm, by (repeat (first | exact Below.refl _ _ | assumption | refine Below.drew ?_ | refine bl_alloc ?_ _ | refine bl_then ?_ (by assumption) | refine Below.setCell ?_ (by first | omega | (simp; done) | (simp; omega)) _ | refine bl_store ?_ ?_ _ _))⟩
set_option maxHeartbeats 4000000 in
theorem l12At_any (a : Option Addr) (n cap : Nat) (E : Nat → Req) (z x y : Int) (w : World) (hp : IsWs w a n E) (hn : n ≤ 1048576) :
    Calls Tryz.prog 79 #[.slice a n cap, refV z x y] w fun e w' => e = .returned (.int .i64 (atW n E z x y)) ∧ Below w.heap.size w w' := by
  have HP : Hid (IsWs w a n E) := hp
  clear hp
  go_enter Tryz.func79, Tryz.ntmps79
  go_wp2_with fail
  generalize hW : (w.alloc _ : World) = W
  have HB0 : Hid (Below w.heap.size w W) := by show Below _ _ _; subst hW; (repeat (first | exact Below.refl _ _ | assumption | refine Below.drew ?_ | refine bl_alloc ?_ _ | refine bl_then ?_ (by assumption) | refine Below.setCell ?_ (by first | omega | (simp; done) | (simp; omega)) _ | refine bl_store ?_ ?_ _ _))
  have HR : Hid (R3At W w.heap.size z x y) := by show R3At _ _ _ _ _; subst hW; exact ⟨by simp [go_sem], by simp [go_sem], by simp [go_sem]⟩
  clear hW
  go_loopw [5] (fun i wr => ∃ k : Nat, k ≤ n ∧ i = .int .i64 (k : Int) ∧ (∀ j, j < k → isR (E j) z x y = false) ∧ Below W.heap.size W wr) (fun i _ => n - (intOf i).toNat)
  case atStart => exact ⟨0, by omega, rfl, fun j hj => absurd hj (Nat.not_lt_zero _), Below.refl _ _⟩
  case round =>
    obtain ⟨k, hk, rfl, hno, hB⟩ := hrel
    have HN : Hid (∀ j, j < k → isR (E j) z x y = false) := hno
    have HB : Hid (Below W.heap.size W wr) := hB
    by_cases hlt : k < n
    · rcases HP.out with h0 | ⟨b, off, rfl, hb, hpt⟩
      · omega
      obtain ⟨q0, q1, q2, q3, q4⟩ := (hpt.below (bl_then HB0.out hB) hb) k hlt
      obtain ⟨p0, p1, p2⟩ := HR.out.below hB
      have hi : (k : Int) < (n : Int) := by omega
      have hi0 : (0 : Int) ≤ (k : Int) := by omega
      have heq := fun w => eql_ref (E k).z (E k).x (E k).y z x y w
      clear hno hB hpt
      have hE0 : ((E k).z == z && ((E k).x == x && (E k).y == y)) = isR (E k) z x y := rfl
      simp only [hE0] at heq
      clear hE0
      cases hE : isR (E k) z x y
      · simp only [hE] at heq
        have HN2 : Hid (∀ j, j < k + 1 → isR (E j) z x y = false) := fun j hj => by
          by_cases e : j = k
          · rw [e]; exact hE
          · exact HN.out j (by omega)
        clear hE
        generalize (E k).z = rz at *
        generalize (E k).x = rx at *
        generalize (E k).y = ry at *
        go_wp2_with fail
        go_quiet (fail)
        go_wp2_with fail
        exact ⟨⟨k + 1, by omega, by simp, HN2.out, below_drewN HB.out _⟩, by simp [intOf]; omega⟩
      · simp only [hE] at heq
        have HY : Hid (atW n E z x y = (k : Int)) := firstI_yes (G := fun i => isR (E i) z x y) hlt hE HN.out
        clear hE
        generalize (E k).z = rz at *
        generalize (E k).x = rx at *
        generalize (E k).y = ry at *
        go_wp2_with fail
        go_quiet (fail)
        go_wp2
        go_ret
        exact ⟨ret_int HY.out.symm, below_drewN (bl_then HB0.out HB.out) _⟩
    · obtain rfl : n = k := by omega
      have HY : Hid (atW n E z x y = -1) := firstI_no (G := fun i => isR (E i) z x y) HN.out
      go_wp2
      go_ret
      exact ⟨ret_int HY.out.symm, bl_then HB0.out HB.out⟩
end Go.Proofs.YtbdhhclamgmfkaaGreat
