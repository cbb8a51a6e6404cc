/- Several texts in one. -/
import Derived.Test.YtciidkmonfmipaaGreatVPutTile22
import Derived.Maps.OwnSet
import Derived.DeepKeys4
import Derived.Test.YtciidkmonfmipaaGreatVPutTile6
import Derived.Test.YtciidkmonfmipaaGreatRows
import Derived.WalkKit

/- The fault of a cache: the model. -/

namespace Go.Proofs.YtciidkmonfmipaaGreat
open Go.RowKit
set_option linter.unusedSimpArgs false
set_option linter.unusedVariables false
set_option maxRecDepth 100000

/-- The code of a kept tile by itself. -/
noncomputable def tC (k : Kp) : Int := if rtC k.z k.x k.y k.fn k.F = 0 then (if sameI k.m (rtL k.z k.x k.y k.fn k.F).length k.I (nz (rtL k.z k.x k.y k.fn k.F)) = true then 0 else 8) else rtC k.z k.x k.y k.fn k.F
/-- The code of one behind those ahead of it. -/
noncomputable def kC (K : Nat → Kp) (i : Nat) : Int := if tC (K i) = 0 then (if 0 ≤ atK i K (K i).z (K i).x (K i).y then 6 else 0) else tC (K i)
/-- What is not right of a cache. -/
noncomputable def cacheC (s : Int) (n : Nat) (K : Nat → Kp) : Int := if inB s 1 10 = true then (if s < (n : Int) then 2 else scanC (kC K) 0 n) else 3
theorem tC_ras {k : Kp} (h : rtC k.z k.x k.y k.fn k.F ≠ 0) : tC k = rtC k.z k.x k.y k.fn k.F := by unfold tC; rw [if_neg h]
theorem tC_state {k : Kp} (h : rtC k.z k.x k.y k.fn k.F = 0) (h2 : sameI k.m (rtL k.z k.x k.y k.fn k.F).length k.I (nz (rtL k.z k.x k.y k.fn k.F)) = false) : tC k = 8 := by unfold tC; rw [if_pos h, h2]; rfl
theorem tC_ok {k : Kp} (h : rtC k.z k.x k.y k.fn k.F = 0) (h2 : sameI k.m (rtL k.z k.x k.y k.fn k.F).length k.I (nz (rtL k.z k.x k.y k.fn k.F)) = true) : tC k = 0 := by unfold tC; rw [if_pos h, h2]; rfl
theorem kC_bad {K : Nat → Kp} {i : Nat} (h : tC (K i) ≠ 0) : kC K i = tC (K i) := by unfold kC; rw [if_neg h]
theorem kC_ok {K : Nat → Kp} {i : Nat} (h : tC (K i) = 0) (h2 : atK i K (K i).z (K i).x (K i).y = -1) : kC K i = 0 := by unfold kC; rw [if_pos h, h2]; rfl
theorem kC_taken {K : Nat → Kp} {i : Nat} (h : tC (K i) = 0) (h2 : 0 ≤ atK i K (K i).z (K i).x (K i).y) : kC K i = 6 := by unfold kC; rw [if_pos h, if_pos h2]
theorem isK_self (e : Kp) : isK e e.z e.x e.y = true := by simp [isK]
theorem atK_self {n k : Nat} {K : Nat → Kp} (hk : k < n) : (atK k K (K k).z (K k).x (K k).y = -1 ∧ atK n K (K k).z (K k).x (K k).y = (k : Int)) ∨ (0 ≤ atK k K (K k).z (K k).x (K k).y ∧ ∃ i : Nat, i < k ∧ atK n K (K k).z (K k).x (K k).y = (i : Int)) := by
  unfold atK
  rcases firstI_or (fun i => isK (K i) (K k).z (K k).x (K k).y) k with ⟨h1, h2⟩ | ⟨i, hi, hg, hf, hn⟩
  · exact .inl ⟨h1, firstI_yes hk (isK_self _) h2⟩
  · exact .inr ⟨by rw [hf]; omega, i, hi, firstI_yes (by omega) hg hn⟩
/-- Kept tiles whose features lie from the start of a block. -/
def KoAt (w : World) (b n : Nat) (A : Nat → Kp) : Prop := b < w.heap.size ∧ ∀ i, i < n → KpAt w b (i * 5) (A i) ∧ (∃ fb, (A i).fa = some ⟨fb, 0, none⟩ ∧ fb < w.heap.size ∧ FsAt w fb 0 (A i).fn (A i).F) ∧ IsNs w (A i).ia (A i).m (A i).I
theorem KoAt.below {w w' : World} {b n : Nat} {A : Nat → Kp} (h : KoAt w b n A) (hb : Below w.heap.size w w') : KoAt w' b n A :=
  ⟨Nat.lt_of_lt_of_le h.1 hb.size, fun i hi => by
    obtain ⟨h1, ⟨fb, e1, e2, e3⟩, h3⟩ := h.2 i hi
    exact ⟨h1.below hb h.1, ⟨fb, e1, Nat.lt_of_lt_of_le e2 hb.size, e3.below hb e2⟩, h3.below hb⟩⟩
theorem KoAt.is {w : World} {b n : Nat} {A : Nat → Kp} (h : KoAt w b n A) : IsKs w (some ⟨b, 0, none⟩) n A :=
  .inr ⟨b, 0, rfl, h.1, fun i hi => by
    obtain ⟨h1, ⟨fb, e1, e2, e3⟩, h3⟩ := h.2 i hi
    exact ⟨by rw [Nat.zero_add]; exact h1, .inr ⟨fb, 0, e1, e2, e3⟩, h3⟩⟩
theorem OwnKs.ko {w : World} {B b n : Nat} {K A : Nat → Kp} (h : OwnKs w B b n K A) : KoAt w b n A :=
  ⟨h.2.1, fun i hi => by
    obtain ⟨h1, h2⟩ := h.2.2 i hi
    have h3 := h2.is.2
    obtain ⟨_, ⟨fb, e1, e2, e3, ho⟩, _⟩ := h2
    exact ⟨h1, ⟨fb, e1, ho.2.1, by rw [e2]; exact ho.2.2.1⟩, h3⟩⟩
set_option maxHeartbeats 8000000 in
theorem l11Fault_any (q : Nat) (s : Int) (b n cap : Nat) (A : Nat → Kp) (w : World) (hc : CaA w q s (.slice (some ⟨b, 0, none⟩) n cap)) (ha : KoAt w b n A) (hs : SmallKs n A) :
    Calls Tryz.prog 26 #[.pointer (some ⟨q, 0, none⟩)] w fun e w' => e = .returned (.int .i64 (cacheC s n A)) ∧ Below w.heap.size w w' := by
  have HA : Hid (KoAt w b n A) := ha
  have HC : Hid (CaA w q s (.slice (some ⟨b, 0, none⟩) n cap)) := hc
  have HS : Hid (SmallKs n A) := hs
  have hn : n ≤ 1048576 := hs.1
  obtain ⟨p0, p1⟩ := hc
  clear ha hs
  cases hin : inB s 1 10
  · have hz : Hid (cacheC s n A = 3) := by show _ = _; unfold cacheC; rw [hin]; rfl
    go_enter Tryz.func26, Tryz.ntmps26
    go_wp2_with (go_at_call 49; refine (l1In_any _ _ _ _).mono ?_; rintro e w' ⟨rfl, h'⟩; subst w')
    go_ret
    exact ⟨ret_int hz.out.symm, by (repeat (first | exact Below.refl _ _ | assumption | refine Below.drew ?_ | refine bl_alloc ?_ _ | refine bl_then ?_ (by assumption) | refine Below.setCell ?_ (by first | omega | (simp; done) | (simp; omega)) _ | refine bl_store ?_ ?_ _ _))⟩
  by_cases hsn : s < (n : Int)
  · have hz : Hid (cacheC s n A = 2) := by show _ = _; unfold cacheC; rw [if_pos hin, if_pos hsn]
    have hw : IntKind.i64.wrap (n : Int) = (n : Int) := IntWalk.i64_in _ (by omega)
    go_enter Tryz.func26, Tryz.ntmps26
    go_wp2_with (go_at_call 49; refine (l1In_any _ _ _ _).mono ?_; rintro e w' ⟨rfl, h'⟩; subst w')
    go_quiet (fail)
    go_wp2
    go_ret
    exact ⟨ret_int hz.out.symm, below_drewN (Below.refl _ _) _⟩
  · have hz : Hid (cacheC s n A = scanC (kC A) 0 n) := by show _ = _; unfold cacheC; rw [if_pos hin, if_neg hsn]
    have hw : IntKind.i64.wrap (n : Int) = (n : Int) := IntWalk.i64_in _ (by omega)
    go_enter Tryz.func26, Tryz.ntmps26
    go_wp2_with (go_at_call 49; refine (l1In_any _ _ _ _).mono ?_; rintro e w' ⟨rfl, h'⟩; subst w')
    go_quiet (fail)
    go_wp2_with fail
    go_loopw [3] (fun v wr => ∃ k : Nat, k ≤ n ∧ v = .int .i64 k ∧ (∀ j, j < k → kC A j = 0) ∧ Below w.heap.size w wr) (fun v _ => n - (intOf v).toNat)
    case atStart => exact ⟨0, by omega, rfl, by omega, below_drewN (Below.refl _ _) _⟩
    case round =>
      obtain ⟨k, hk, rfl, hA, hB⟩ := hrel
      have HB : Hid (Below w.heap.size w wr) := hB
      have HZ : Hid (∀ j, j < k → kC A j = 0) := hA
      obtain ⟨m0, m1⟩ := HC.out.below hB
      clear p0 p1 hA
      by_cases hlt : k < n
      · have HLT : Hid (k < n) := hlt
        have first : Hid (∀ c, kC A k = c → c ≠ 0 → cacheC s n A = c) := fun c hc h0 => by
          rw [hz.out, scan_first (kC A) n 0 k (fun j _ hj => HZ.out j hj) (by omega) (by have := HLT.out; omega) (by rw [hc]; exact h0), hc]
        have HOK : Hid (kC A k = 0 → ∀ j, j < k + 1 → kC A j = 0) := fun h0 j hj => by
          by_cases e : j = k
          · rw [e]; exact h0
          · exact HZ.out j (by omega)
        have HR : Hid (KoAt wr b n A) := HA.out.below hB
        obtain ⟨⟨q0, q1, q2, q3, q4⟩, ⟨fb, ef, hfl, hft⟩, hids⟩ := HR.out.2 k hlt
        rw [ef] at q3
        have HL8 : Hid (Calls Tryz.prog 27 #[.pointer (some ⟨b, k * 5, none⟩)] wr fun e w' => e = .returned (.int .i64 (rtC (A k).z (A k).x (A k).y (A k).fn (A k).F)) ∧ Below wr.heap.size wr w') :=
          l8Tile_off b (k * 5) _ _ _ fb (A k).fn (A k).fc (A k).F wr ⟨q0, q1, q2, q3⟩ hft hfl (HS.out.2 k hlt).1
        have hi : (k : Int) < (n : Int) := by omega
        have hi0 : (0 : Int) ≤ (k : Int) := by omega
        clear hB hft hids
        by_cases hC : rtC (A k).z (A k).x (A k).y (A k).fn (A k).F = 0
        · rw [hC] at HL8
          go_wp2_with fail
          refine HL8.out.mono ?_
          rintro e w1 ⟨rfl, hb1⟩
          have HB1 : Hid (Below w.heap.size w w1) := bl_then HB.out hb1
          have HR1 : Hid (KoAt w1 b n A) := HR.out.below hb1
          have hC0 : Hid (rtC (A k).z (A k).x (A k).y (A k).fn (A k).F = 0) := hC
          have HRas : Hid (∀ W, Below w1.heap.size w1 W → Calls Tryz.prog 51 #[.pointer (some ⟨b, k * 5, none⟩)] W fun e w' => ∃ v, e = .returned v ∧ RowN W.heap.size w' v (rtL (A k).z (A k).x (A k).y (A k).fn (A k).F) ∧ Below W.heap.size W w') := fun W hW => by
            obtain ⟨hr, hf, _⟩ := rtC_zero hC0.out
            obtain ⟨h12, hok⟩ := feats_okF hf
            obtain ⟨⟨r0, r1, r2, r3, r4⟩, ⟨gb, eg, hgl, hgt⟩, _⟩ := (HR1.out.below hW).2 k HLT.out
            rw [eg] at r3
            rw [show rtL (A k).z (A k).x (A k).y (A k).fn (A k).F = _ from if_pos hC0.out]
            exact l8Raster_off b (k * 5) _ _ _ gb (A k).fn (A k).fc (A k).F W ⟨r0, r1, r2, r3⟩ hgt hgl h12 hok hr
          obtain ⟨B, hBB0⟩ : ∃ B, sameI (A k).m (rtL (A k).z (A k).x (A k).y (A k).fn (A k).F).length (A k).I (nz (rtL (A k).z (A k).x (A k).y (A k).fn (A k).F)) = B := ⟨_, rfl⟩
          have hBB : Hid (sameI (A k).m (rtL (A k).z (A k).x (A k).y (A k).fn (A k).F).length (A k).I (nz (rtL (A k).z (A k).x (A k).y (A k).fn (A k).F)) = B) := hBB0
          have HSm : Hid (∀ W, Below w1.heap.size w1 W → ∀ va vc, IsNs W va (rtL (A k).z (A k).x (A k).y (A k).fn (A k).F).length (nz (rtL (A k).z (A k).x (A k).y (A k).fn (A k).F)) → Calls Tryz.prog 50 #[.slice (A k).ia (A k).m (A k).ic, .slice va (rtL (A k).z (A k).x (A k).y (A k).fn (A k).F).length vc] W fun e w' => e = .returned (.bool B) ∧ Below W.heap.size W w') := fun W hW va vc hv => by
            rw [← hBB.out]
            exact l11Same_any _ va _ _ _ vc _ _ W ((HR1.out.below hW).2 k HLT.out).2.2 hv (HS.out.2 k HLT.out).2
          have d4 : ∀ W, Below w1.heap.size w1 W → W.cell? ⟨b, k * 5 + 4, none⟩ = some (.slice (A k).ia (A k).m (A k).ic) := fun W hW => ((HR1.out.below hW).2 k HLT.out).1.2.2.2.2
          clear q0 q1 q2 q3 q4 m0 m1 hC hBB0 HL8 hb1
          go_wp2_with fail
          refine wp_region_noPanic ?_
          refine wp_region_held_drew (S := fun W' => Below w1.heap.size w1 W') (by kernel_rfl) (by have := Below.refl w1.heap.size w1; (repeat (first | exact Below.refl _ _ | assumption | refine Below.drew ?_ | refine bl_alloc ?_ _ | refine bl_then ?_ (by assumption) | refine Below.setCell ?_ (by first | omega | (simp; done) | (simp; omega)) _ | refine bl_store ?_ ?_ _ _))) (fun hHeld => ?_)
          have hSd : Below w1.heap.size w1 w1.drew := hHeld
          refine takeD (i := 0) (d := some 44) (v := ?vr0) rfl rfl (by kernel_rfl) (by kernel_rfl) (by kernel_rfl) (fun _ _ _ h => h) (Or.inl ⟨by rfl, ?hyr0⟩) hSd ?_
          case hyr0 => (intro w hSw; (try dsimp only at hSw); go_simp <;> with_reducible rfl)
          try simp only [Act.put, List.setIfInBounds_toArray, List.set_cons_zero, List.set_cons_succ]
          refine takeD (i := 1) (d := some 45) (v := ?vr1) rfl rfl (by kernel_rfl) (by kernel_rfl) (by kernel_rfl) (fun _ _ _ h => h) (Or.inl ⟨by rfl, ?hyr1⟩) hSd ?_
          case hyr1 => (intro w hSw; (try dsimp only at hSw); go_simp <;> with_reducible rfl)
          try simp only [Act.put, List.setIfInBounds_toArray, List.set_cons_zero, List.set_cons_succ]
          refine takeD (i := 2) (d := some 46) (v := ?vr2) rfl rfl (by kernel_rfl) (by kernel_rfl) (by kernel_rfl) (fun _ _ _ h => h) (Or.inl ⟨by rfl, ?hyr2⟩) hSd ?_
          case hyr2 => (intro w hSw; (try dsimp only at hSw); go_simp <;> with_reducible rfl)
          try simp only [Act.put, List.setIfInBounds_toArray, List.set_cons_zero, List.set_cons_succ]
          refine takeD (i := 3) (d := some 47) (v := ?vr3) rfl rfl (by kernel_rfl) (by kernel_rfl) (by kernel_rfl) (fun _ _ _ h => h) (Or.inl ⟨by rfl, ?hyr3⟩) hSd ?_
          case hyr3 => (intro w hSw; (try dsimp only at hSw); go_simp <;> with_reducible rfl)
          try simp only [Act.put, List.setIfInBounds_toArray, List.set_cons_zero, List.set_cons_succ]
          refine takeD (i := 4) (d := some 48) (v := ?vr4) rfl rfl (by kernel_rfl) (by kernel_rfl) (by kernel_rfl) (fun _ _ _ h => h) (Or.inl ⟨by rfl, ?hyr4⟩) hSd ?_
          case hyr4 => (intro w hSw; (try dsimp only at hSw); go_simp <;> with_reducible rfl)
          try simp only [Act.put, List.setIfInBounds_toArray, List.set_cons_zero, List.set_cons_succ]
          refine takeD (i := 5) (d := some 49) (v := ?vr5) rfl rfl (by kernel_rfl) (by kernel_rfl) (by kernel_rfl) (fun _ _ _ h => h) (Or.inl ⟨by rfl, ?hyr5⟩) hSd ?_
          case hyr5 => (intro w hSw; (try dsimp only at hSw); go_simp <;> with_reducible rfl)
          try simp only [Act.put, List.setIfInBounds_toArray, List.set_cons_zero, List.set_cons_succ]
          refine takeD (i := 6) (d := some 50) (v := ?vr6) rfl rfl (by kernel_rfl) (by kernel_rfl) (by kernel_rfl) (fun _ _ _ h => h) (Or.inl ⟨by rfl, ?hyr6⟩) hSd ?_
          case hyr6 => (intro w hSw; (try dsimp only at hSw); go_simp <;> with_reducible rfl)
          try simp only [Act.put, List.setIfInBounds_toArray, List.set_cons_zero, List.set_cons_succ]
          refine wpAnyH_ready (rs := [7]) (by kernel_rfl) (by simp) ?_
          refine (AllReadyH.cons rfl (fun K hK => ?_) AllReadyH.nil)
          rw [if_pos (by rfl)]
          go_simp
          refine Calls.mono (HRas.out _ hSd) ?_
          rintro e wB ⟨v, rfl, hrow, hbB⟩
          have hSB : Below w1.heap.size w1 wB := bl_then hSd hbB
          obtain ⟨va, vc, rfl, hvc, hvn⟩ := hrow.own.pts
          have HSm2 := (show Hid _ from HSm.out wB hSB va vc hvn)
          clear hrow hvn hvc
          go_wp2_with fail
          refine hK.out _ _ hSB (fun hHeld => ?_)
          clear hK K hbB
          try simp only [Act.put, List.setIfInBounds_toArray, List.set_cons_zero, List.set_cons_succ]
          refine wpAnyH_ready (rs := [8]) (by kernel_rfl) (by simp) ?_
          refine (AllReadyH.cons rfl (fun K hK => ?_) AllReadyH.nil)
          rw [if_pos (by rfl)]
          go_simp
          refine Calls.mono HSm2.out ?_
          rintro e wC ⟨rfl, hbC⟩
          have hSC : Below w1.heap.size w1 wC := bl_then hSB hbC
          go_wp2_with fail
          refine hK.out _ _ hSC (fun hHeld => ?_)
          clear hK K hbC HSm2
          try simp only [Act.put, List.setIfInBounds_toArray, List.set_cons_zero, List.set_cons_succ]
          refine takeD (i := 9) (d := some 53) (v := ?vs9) rfl rfl (by kernel_rfl) (by kernel_rfl) (by kernel_rfl) (fun _ _ _ h => h) (Or.inl ⟨by rfl, ?hys9⟩) hSC ?_
          case hys9 => (intro w hSw; (try dsimp only at hSw); go_simp <;> with_reducible rfl)
          try simp only [Act.put, List.setIfInBounds_toArray, List.set_cons_zero, List.set_cons_succ]
          refine wpAnyH_done (by kernel_rfl) ?_ _
          refine NoPanic.normal ?_
          have HC3 : Hid (Below w.heap.size w wC) := bl_then HB1.out hSC
          have HR3 : Hid (KoAt wC b n A) := HR1.out.below hSC
          clear d4 HRas HSm hSB hSd hSC
          cases B
          · have hsc : Hid (cacheC s n A = 8) := first.out 8 ((kC_bad (by rw [tC_state hC0.out hBB.out]; decide)).trans (tC_state hC0.out hBB.out)) (by decide)
            go_wp2
            go_ret
            exact ⟨ret_int hsc.out.symm, HC3.out⟩
          · have ht0 : Hid (tC (A k) = 0) := tC_ok hC0.out hBB.out
            have HH : Hid (Calls Tryz.prog 41 #[.pointer (some ⟨q, 0, none⟩), refV (A k).z (A k).x (A k).y] wC fun e w' => e = .returned (.int .i64 (atK n A (A k).z (A k).x (A k).y)) ∧ Below wC.heap.size wC w') :=
              l11At_any q s _ n cap A _ _ _ wC (HC.out.below HC3.out) HR3.out.is hn
            obtain ⟨g0, g1, g2, g3, g4⟩ := (HR3.out.2 k HLT.out).1
            clear g3 g4
            rcases atK_self HLT.out with ⟨hq, hq2⟩ | ⟨hq, i, hik, hq2⟩
            · have hok : Hid (kC A k = 0) := kC_ok ht0.out hq
              rw [hq2] at HH
              clear hq hq2
              generalize (A k).z = rz at *
              generalize (A k).x = rx at *
              generalize (A k).y = ry at *
              go_wp2_with (go_at_call 41; refine HH.out.mono ?_; rintro e w' ⟨rfl, hb⟩)
              go_roundw
              case rel => exact ⟨k + 1, by have := HLT.out; omega, by go_num, HOK.out hok.out, bl_then HC3.out (by assumption)⟩
              case measure => have := HLT.out; simp [intOf]; omega
            · have hsc : Hid (cacheC s n A = 6) := first.out 6 (kC_taken ht0.out hq) (by decide)
              have hne : ((i : Int) == (k : Int)) = false := by simp; omega
              rw [hq2] at HH
              clear hq hq2
              generalize (A k).z = rz at *
              generalize (A k).x = rx at *
              generalize (A k).y = ry at *
              generalize (i : Int) = ii at *
              clear hik
              go_wp2_with (go_at_call 41; refine HH.out.mono ?_; rintro e w' ⟨rfl, hb⟩)
              go_ret
              exact ⟨ret_int hsc.out.symm, bl_then HC3.out (by assumption)⟩
        · have hsc : Hid (cacheC s n A = rtC (A k).z (A k).x (A k).y (A k).fn (A k).F) := first.out _ ((kC_bad (by rw [tC_ras hC]; exact hC)).trans (tC_ras hC)) hC
          have hcb : (rtC (A k).z (A k).x (A k).y (A k).fn (A k).F == 0) = false := by simpa using hC
          generalize rtC (A k).z (A k).x (A k).y (A k).fn (A k).F = rc at *
          go_wp2_with fail
          refine HL8.out.mono ?_
          rintro e w1 ⟨rfl, hb1⟩
          go_wp2
          go_ret
          exact ⟨ret_int hsc.out.symm, bl_then HB.out hb1⟩
      · have hsc : Hid (cacheC s n A = 0) := by
          show _ = _
          rw [hz.out]
          exact scan_none _ _ _ (fun j _ hj => HZ.out j (by omega))
        go_wp2
        go_ret
        exact ⟨ret_int hsc.out.symm, HB.out⟩
end Go.Proofs.YtciidkmonfmipaaGreat
/- CacheFault and HasTile of the model. -/

namespace Go.Proofs.YtciidkmonfmipaaGreat
open Go.RowKit
set_option linter.unusedSimpArgs false
set_option linter.unusedVariables false
set_option maxRecDepth 100000

theorem CaA.new (w : World) (s : Int) (v : Value) (t : TypeId) : CaA (w.alloc (.cells #[.int .i64 s, v] t)) w.heap.size s v := by
  refine ⟨?_, ?_⟩ <;> simp [go_sem]
end Go.Proofs.YtciidkmonfmipaaGreat
/- Refs as keys of a map. -/

namespace Go.Proofs.YtciidkmonfmipaaGreat
open Go.RowKit
set_option linter.unusedSimpArgs false
set_option linter.unusedVariables false
set_option maxRecDepth 100000

theorem laid_k : laidOutB Tryz.prog = true := by kernel_rfl
theorem row_ref : (39 : TypeId) < Tryz.prog.types.size := of_decide_eq_true (by kernel_rfl)
theorem wide_ref : (match Tryz.prog.underlying 39 with | some (.array _ _) | some (.struct _) => true | _ => false) = true := by kernel_rfl
theorem law_ref : WideMaps.KeyLaw Tryz.prog 39 := deep_law_laid laid_k (m := 3) (by omega) row_ref (by kernel_rfl) wide_ref
theorem keyed_ref : Go.Maps.Keyed Tryz.prog 39 := Go.Maps.Keyed.of_law law_ref
/-- A number that an int64 holds. -/
def I64 (z : Int) : Prop := (Lit.int .i64 z).wf = true
theorem cells_ref : Tryz.prog.cellsOf 39 = 3 := by kernel_rfl
theorem cells_i64k : Tryz.prog.cellsOf 2 = 1 := by kernel_rfl
theorem under_i64 : Tryz.prog.underlying 2 = some (.int .i64) := by kernel_rfl
theorem keyT_ref : Tryz.prog.keyType 39 = true := by kernel_rfl
theorem types_succ : ∃ m, Tryz.prog.types.size = m + 1 := ⟨_, (Nat.succ_pred_eq_of_pos (Nat.lt_of_le_of_lt (Nat.zero_le _) row_ref)).symm⟩
/-- What a ref reads as. -/
def keyL (z x y : Int) : Lit := .string (keyBytes [.int .i64 z, .int .i64 x, .int .i64 y])
theorem key_ref {z x y : Int} (hz : I64 z) (hx : I64 x) (hy : I64 y) : keyOf Tryz.prog 39 (refV z x y) = some (keyL z x y) := by
  unfold I64 at hz hx hy
  obtain ⟨m, hm⟩ := types_succ
  have hi : ∀ a : Int, (Lit.int .i64 a).wf = true → Tryz.prog.keyLits (m + 1) 2 [.int .i64 a] = some [.int .i64 a] := fun a ha => by
    simp [Program.keyLits, under_i64, ha]
  have hk : Tryz.prog.keyLits (m + 1 + 1) 39 [.int .i64 z, .int .i64 x, .int .i64 y] = some [.int .i64 z, .int .i64 x, .int .i64 y] := by
    unfold Program.keyLits
    simp [Tryz.underlying39, cells_ref, cells_i64k, hi z hz, hi x hx, hi y hy]
  unfold keyOf
  rw [Tryz.underlying39]
  simp [keyT_ref, Value.formed, Tryz.underlying39, cells_ref, Value.cells, hm, hk, keyL]
theorem key_inj {z x y z' x' y' : Int} (hz : I64 z) (hx : I64 x) (hy : I64 y) (hz' : I64 z') (hx' : I64 x') (hy' : I64 y') (h : keyL z x y = keyL z' x' y') : z = z' ∧ x = x' ∧ y = y' := by
  have := keyed_ref.inj (key_ref hz hx hy) (by rw [h]; exact key_ref hz' hx' hy')
  simpa using this
theorem keyL_is (z x y : Int) : WideAt.IsKeyLit (keyL z x y) := trivial
end Go.Proofs.YtciidkmonfmipaaGreat
/- How a cache, and a ref, that came in are read. -/

namespace Go.Proofs.YtciidkmonfmipaaGreat
open Go.ChangeShapes Go.WideShapes Go.ChangeAt Go.RowKit Go.Deep
set_option linter.unusedVariables false
set_option linter.unusedSimpArgs false
set_option maxRecDepth 100000

theorem trod_tile {H : Type} {enc : TypeId × Value → H} {w : World} {base fuel : Nat} {held : Bool} {cs : List Value} {y : DataW H × List MemPlace}
    (h : DataW.trod enc Tryz.prog w base (fun _ => true) held fuel 29 cs = some y) :
    ∃ (z x y : Int) (a : Option Addr) (n cap : Nat) (F : Nat → Feat), cs = [.int .i64 z, .int .i64 x, .int .i64 y, .slice a n cap] ∧ (IsFs w a n F ∧ CameFs n F) := by
  obtain ⟨y0, y1, m, hx, hl, h0, h1⟩ := trod_struct2 Tryz.underlying29 h
  simp only [cells_lrT, cells_lfs] at h0 h1
  obtain ⟨z, x, y, e0⟩ := trod_refT h0
  obtain ⟨a, k, cap, F, e1, hF⟩ := trod_feats h1
  refine ⟨z, x, y, a, k, cap, F, ?_, hF⟩
  have hlen : cs.length = 4 := by rw [hl]; exact cells_lt
  match cs, hlen with
  | [v0, v1, v2, v3], _ =>
    simp at e0 e1
    simp [e0, e1]
theorem trod_nums {H : Type} {enc : TypeId × Value → H} {w : World} {base fuel : Nat} {held : Bool} {cs : List Value} {y : DataW H × List MemPlace}
    (h : DataW.trod enc Tryz.prog w base (fun _ => true) held fuel 66 cs = some y) :
    ∃ (a : Option Addr) (n cap : Nat) (Z : Nat → Int), cs = [.slice a n cap] ∧ (IsNs w a n Z ∧ n ≤ maxLen) := by
  rcases open_ints Tryz.underlying66 Tryz.underlying2 (by kernel_rfl) h with ⟨hcs, _⟩ | ⟨x, l, c, zs, hcs, _, hl, hm, hz, _, hcell, hwz⟩
  · exact ⟨none, 0, 0, fun _ => 0, hcs, .inl rfl, Nat.zero_le _⟩
  · have hz' : zs.length = c := by simpa using hz
    refine ⟨some x, l, c, fun i => zs.getD i 0, hcs, ?_, Nat.le_trans hl hm⟩
    by_cases h0 : l = 0
    · exact .inl h0
    · right
      obtain ⟨b, off, spot⟩ := x
      have e0 := hcell 0 (by omega)
      have hspot : spot = none := by simpa [Addr.add] using World.cell?_spot e0
      subst hspot
      refine ⟨b, off, rfl, ?_, fun i hi => ?_⟩
      · have := World.block_lt_of_cell? _ _ e0
        simpa [Addr.add] using this
      · have := hcell i (by omega)
        have e : (⟨b, off, none⟩ : Addr).add i = ⟨b, off + i, none⟩ := by
          unfold Addr.add
          by_cases h : i = 0 <;> simp [h]
        rw [e] at this
        exact this
theorem cells_ns : Tryz.prog.cellsOf 66 = 1 := by kernel_rfl
theorem cells_lk : Tryz.prog.cellsOf 85 = 5 := by kernel_rfl
theorem cells_lks : Tryz.prog.cellsOf 22 = 1 := by kernel_rfl
theorem cells_lc : Tryz.prog.cellsOf 24 = 2 := by kernel_rfl
theorem trod_kept {H : Type} {enc : TypeId × Value → H} {w : World} {base fuel : Nat} {held : Bool} {cs : List Value} {y : DataW H × List MemPlace}
    (h : DataW.trod enc Tryz.prog w base (fun _ => true) held fuel 85 cs = some y) :
    ∃ k : Kp, cs = [.int .i64 k.z, .int .i64 k.x, .int .i64 k.y, .slice k.fa k.fn k.fc, .slice k.ia k.m k.ic] ∧ (KpIs w k ∧ CameK k) := by
  obtain ⟨y0, y1, m, hx, hl, h0, h1⟩ := trod_struct2 Tryz.underlying85 h
  simp only [cells_lt, cells_ns] at h0 h1
  obtain ⟨z, x, y, a, n, cap, F, e0, hF⟩ := trod_tile h0
  obtain ⟨ia, k, ic, Z, e1, hZ⟩ := trod_nums h1
  refine ⟨⟨z, x, y, a, n, cap, F, ia, k, ic, Z⟩, ?_, ⟨hF.1, hZ.1⟩, hF.2, hZ.2⟩
  have hlen : cs.length = 5 := by rw [hl]; exact cells_lk
  match cs, hlen with
  | [v0, v1, v2, v3, v4], _ =>
    simp at e0 e1
    simp [e0, e1]
theorem trod_kepts {H : Type} {enc : TypeId × Value → H} {w : World} {base fuel : Nat} {held : Bool} {cs : List Value} {y : DataW H × List MemPlace}
    (hf : DataW.trod enc Tryz.prog w base (fun _ => true) held fuel 22 cs = some y) :
    ∃ (a : Option Addr) (n cap : Nat) (K : Nat → Kp), cs = [.slice a n cap] ∧ (IsKs w a n K ∧ CameKs n K) := by
  rcases open_slice Tryz.underlying22 hf with ⟨hcs, _⟩ | ⟨x, l, c, m, n, D, Pl, hcs, _, hl, hc, hm, _, hx⟩
  · exact ⟨none, 0, 0, fun _ => ⟨0, 0, 0, none, 0, 0, fun _ => ⟨0, 0, 0, 0, none, 0, 0, fun _ => 0, fun _ => 0, ⟨#[]⟩, 0⟩, none, 0, 0, fun _ => 0⟩, hcs, .inl rfl, Nat.zero_le _, fun i hi => absurd hi (by omega)⟩
  · simp at hm
    subst hm
    have each : ∀ i, ∃ e : Kp, i < l → (∀ k, k < 5 → w.cell? (x.add (i * 5 + k)) = [Value.int .i64 e.z, .int .i64 e.x, .int .i64 e.y, .slice e.fa e.fn e.fc, .slice e.ia e.m e.ic][k]?) ∧ KpIs w e ∧ CameK e := by
      intro i
      by_cases hi : i < l
      · obtain ⟨cs', h1, h2⟩ := hx i (by omega)
        rw [cells_lk] at h1
        obtain ⟨_, hlen, hcell⟩ := World.cells?_some h1
        obtain ⟨e, rfl, hk⟩ := trod_kept h2
        refine ⟨e, fun _ => ⟨fun k hk => ?_, hk⟩⟩
        have := hcell k hk
        rw [add_add] at this
        exact this
      · exact ⟨⟨0, 0, 0, none, 0, 0, fun _ => ⟨0, 0, 0, 0, none, 0, 0, fun _ => 0, fun _ => 0, ⟨#[]⟩, 0⟩, none, 0, 0, fun _ => 0⟩, fun h => absurd h hi⟩
    obtain ⟨K, hK⟩ := Classical.skolem.1 each
    refine ⟨some x, l, _, K, hcs, ?_, Nat.le_trans hl hc, fun i hi => (hK i hi).2.2⟩
    by_cases h0 : l = 0
    · exact .inl h0
    · right
      obtain ⟨b, off, spot⟩ := x
      have e0 := (hK 0 (by omega)).1 0 (by omega)
      simp at e0
      have hspot : spot = none := by simpa [Addr.add] using World.cell?_spot e0
      subst hspot
      refine ⟨b, off, rfl, ?_, fun i hi => ?_⟩
      · have := World.block_lt_of_cell? _ _ e0
        simpa [Addr.add] using this
      · obtain ⟨hc5, hp, _⟩ := hK i hi
        refine ⟨?_, hp⟩
        have k0 := hc5 0 (by omega)
        have k1 := hc5 1 (by omega)
        have k2 := hc5 2 (by omega)
        have k3 := hc5 3 (by omega)
        have k4 := hc5 4 (by omega)
        rw [add_plain] at k0 k1 k2 k3 k4
        simp only [← Nat.add_assoc, Nat.add_zero] at k0 k1 k2 k3 k4
        exact ⟨k0, k1, k2, k3, k4⟩
theorem open_cache {H : Type} {enc : TypeId × Value → H} {w : World} {base b0 : Nat} {held : Bool} {r : Reach} {v : Value} {d : DataW H} {p : List MemPlace}
    (hv : Value.okWide Tryz.prog w r b0 24 v) (h : DataW.Trod enc Tryz.prog w base (fun _ => true) held 24 v d p) :
    ∃ (s : Int) (a : Option Addr) (n cap : Nat) (K : Nat → Kp), v = .agg #[.int .i64 s, .slice a n cap] ∧ (IsKs w a n K ∧ CameKs n K) := by
  obtain ⟨cs, rfl, hsz⟩ := okWide_struct Tryz.underlying24 hv
  obtain ⟨n, h⟩ := h
  obtain ⟨y0, y1, m, hx, hl, h0, h1⟩ := trod_struct2 Tryz.underlying24 h
  simp only [cells_i64, cells_lks] at h0 h1
  obtain ⟨s, e0, _, _⟩ := DataW.trod_int Tryz.underlying2 h0
  obtain ⟨a, k, cap, K, e1, hK⟩ := trod_kepts h1
  refine ⟨s, a, k, cap, K, ?_, hK⟩
  have hz : cs.size = 2 := by rw [hsz]; exact cells_lc
  have : cs = #[.int .i64 s, .slice a k cap] := by
    apply Array.toList_inj.1
    simp only [Value.cells] at e0 e1
    have hlen : cs.toList.length = 2 := by simpa using hz
    match hcs : cs.toList, hlen with
    | [v0, v1], _ =>
      rw [hcs] at e0 e1
      simp at e0 e1
      simp [e0, e1]
  rw [this]
end Go.Proofs.YtciidkmonfmipaaGreat
/- The row of bytes in the table of types. -/

namespace Go.Proofs.YtciidkmonfmipaaGreat
open Go.RowKit
theorem info_u8 : (Tryz.prog.info? 5).map (fun i => (i.zero, i.size, i.bytes)) = some (some (.int .u8 0), 1, 1) := by kernel_rfl
end Go.Proofs.YtciidkmonfmipaaGreat
