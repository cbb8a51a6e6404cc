/- Several texts in one. -/
import Derived.Test.YthidgolnajggpaaGreatVNearestIn46
import Derived.Test.YthidgolnajggpaaGreatVNearestIn28
import Derived.Test.YthidgolnajggpaaGreatVNearestIn42
import Derived.Test.YthidgolnajggpaaGreatVNearestIn22

/- The nearest tile that is kept: the program. -/

namespace Go.Proofs.YthidgolnajggpaaGreat
open Go.RowKit
set_option linter.unusedSimpArgs false
set_option linter.unusedVariables false
set_option maxRecDepth 100000

theorem resNi {T : Array Value} {Wf : World} {r : Nat} {c z x y : Int} (hT : T[4]?.getD undef = .pointer (some ⟨r, 0, none⟩)) (h0 : Wf.cell? ⟨r, 0, none⟩ = some (.int .i64 c)) (h1 : Wf.cell? ⟨r, 1, none⟩ = some (.int .i64 z)) (h2 : Wf.cell? ⟨r, 2, none⟩ = some (.int .i64 x)) (h3 : Wf.cell? ⟨r, 3, none⟩ = some (.int .i64 y)) :
    (results Tryz.f11 T).run Tryz.prog Wf = .ok (rrV c z x y) Wf := by
  simp [results, Tryz.results11, go_sem, hT, h0, h1, h2, h3]
set_option maxHeartbeats 8000000 in
theorem impl_NearestIn_any (s : Int) (b n cap : Nat) (A : Nat → Kp) (z x y : Int) (w : World) (ha : KoAt w b n A) (hs : SmallKs n A) (hcap : ∀ i, i < n → (A i).fn ≤ (A i).fc) (hnc : n ≤ cap) :
    Calls Tryz.prog 11 #[caV s (.slice (some ⟨b, 0, none⟩) n cap), refV z x y] w fun e w' => e = .returned (nearV s n A z x y) ∧ Below w.heap.size w w' := by
  have HF : Hid (∀ W, Below w.heap.size w W → Calls Tryz.prog 33 #[caV s (.slice (some ⟨b, 0, none⟩) n cap)] W fun e w' => ∃ p, e = .returned (.tuple #[.pointer (some ⟨p, 0, none⟩), .int .i64 (cacheC s n A)]) ∧ Below W.heap.size W w' ∧ (cacheC s n A = 0 → ShK w' W.heap.size p s n A)) := fun W h => shelfOf_any s b n cap A W (ha.below h) hs hcap hnc
  clear ha hs hcap hnc
  obtain ⟨NV, hNV⟩ : ∃ NV, nearV s n A z x y = NV := ⟨_, rfl⟩
  rw [hNV]
  have HNV : Hid (nearV s n A z x y = NV) := hNV
  clear hNV
  go_enter Tryz.func11, Tryz.ntmps11
  go_wp2_with fail
  generalize hW : (((w.alloc _).alloc _).alloc _ : World) = W
  have HB0 : Hid (Below w.heap.size w W) := by show Below _ _ _; subst hW; (repeat (first | exact Below.refl _ _ | assumption | refine Below.drew ?_ | refine bl_alloc ?_ _ | refine bl_then ?_ (by assumption) | refine Below.setCell ?_ (by first | omega | (simp; done) | (simp; omega)) _ | refine bl_store ?_ ?_ _ _))
  have HR : Hid (RK W (w.heap.size + 1) z x y) := by show RK _ _ _ _ _; subst hW; refine ⟨?_, ?_, ?_⟩ <;> simp [go_sem]
  have HT : Hid (There W (w.heap.size + 2) 4) := by
    show There _ _ _
    subst hW
    have := there4r ((w.alloc (.cells #[.int .i64 s, .slice (some ⟨b, 0, none⟩) n cap] 34)).alloc (.cells #[.int .i64 z, .int .i64 x, .int .i64 y] 28)) (.int .i64 0) (.int .i64 0) (.int .i64 0) (.int .i64 0) 30
    simpa using this
  have HTr : Hid (There W (w.heap.size + 1) 3) := by
    show There _ _ _
    subst hW
    have := there3r (w.alloc (.cells #[.int .i64 s, .slice (some ⟨b, 0, none⟩) n cap] 34)) (.int .i64 z) (.int .i64 x) (.int .i64 y) 28
    have h2 := there_alloc (o := .cells #[.int .i64 0, .int .i64 0, .int .i64 0, .int .i64 0] 30) this (by simp)
    simpa using h2
  have hsz : w.heap.size + 2 < W.heap.size := by subst hW; simp
  clear hW
  refine Calls.mono (HF.out W HB0.out) ?_
  rintro e w1 ⟨p, rfl, hb1, hK1⟩
  have HK1 : Hid (cacheC s n A = 0 → ShK w1 W.heap.size p s n A) := hK1
  have HB1 : Hid (Below w.heap.size w w1) := bl_then HB0.out hb1
  have HR1 : Hid (RK w1 (w.heap.size + 1) z x y) := HR.out.below hb1
  have HT1 : Hid (There w1 (w.heap.size + 2) 4) := HT.out.below hb1
  have HTr1 : Hid (There w1 (w.heap.size + 1) 3) := HTr.out.below hb1
  have hsz1 : W.heap.size ≤ w1.heap.size := hb1.size
  obtain ⟨p0, p1, p2⟩ := HR.out.below hb1
  clear hb1 hK1 HB0 HR HT HTr HF
  go_wp2_with fail
  refine (refFault_any z x y _).mono ?_
  rintro e w2 ⟨rfl, hb2⟩
  have HB2 : Hid (Below w.heap.size w w2) := bl_then HB1.out hb2
  have HBk : Hid (Below w1.heap.size w1 w2) := hb2
  have HR2 : Hid (RK w2 (w.heap.size + 1) z x y) := HR1.out.below hb2
  have HT2 : Hid (There w2 (w.heap.size + 2) 4) := HT1.out.below hb2
  have HTr2 : Hid (There w2 (w.heap.size + 1) 3) := HTr1.out.below hb2
  clear hb2 p0 p1 p2
  go_wp2_with fail
  generalize hV : (w2.alloc _ : World) = V
  have HBV : Hid (Below w2.heap.size w2 V) := by show Below _ _ _; subst hV; (repeat (first | exact Below.refl _ _ | assumption | refine Below.drew ?_ | refine bl_alloc ?_ _ | refine bl_then ?_ (by assumption) | refine Below.setCell ?_ (by first | omega | (simp; done) | (simp; omega)) _ | refine bl_store ?_ ?_ _ _))
  have HO : Hid (Calls Tryz.prog 34 #[.slice (some ⟨w2.heap.size, 0, none⟩) 2 2] V fun e w' => e = .returned (.int .i64 (or2 (cacheC s n A) (refC z x y))) ∧ w' = V) := by
    show Calls _ _ _ _ _
    subst hV
    exact cmpOr2_any _ _ _ _ _ (by simp [go_sem]) (by simp [go_sem])
  clear hV
  refine Calls.mono HO.out ?_
  rintro e w3 ⟨rfl, h3⟩
  subst w3
  have HBW : Hid (Below w.heap.size w V) := bl_then HB2.out HBV.out
  have HBK : Hid (Below w1.heap.size w1 V) := bl_then HBk.out HBV.out
  have HRV : Hid (RK V (w.heap.size + 1) z x y) := HR2.out.below HBV.out
  have HTV : Hid (There V (w.heap.size + 2) 4) := HT2.out.below HBV.out
  have HTrV : Hid (There V (w.heap.size + 1) 3) := HTr2.out.below HBV.out
  have hszV : w1.heap.size ≤ V.heap.size := HBK.out.size
  clear HO HBV HR2 HT2 HTr2 HB2 HBk HR1 HT1 HTr1 HB1
  by_cases hor : or2 (cacheC s n A) (refC z x y) = 0
  · have h0 : cacheC s n A = 0 := by
      unfold or2 at hor; split at hor
      · assumption
      · assumption
    have hc : refC z x y = 0 := by unfold or2 at hor; rw [if_pos h0] at hor; exact hor
    have hr : refB z x y = true := by
      rcases refC_cases z x y with ⟨_, hr⟩ | ⟨hc', _⟩
      · exact hr
      · rw [hc] at hc'; cases hc'
    rw [hor]
    have hall := cacheC_zero h0
    have HKV : Hid (ShK V W.heap.size p s n A) := (HK1.out h0).below HBK.out
    have HV : Hid (nearV s n A z x y = if 0 ≤ nearK n A z.toNat x y then rrV 0 (A (nearK n A z.toNat x y).toNat).z (A (nearK n A z.toNat x y).toNat).x (A (nearK n A z.toNat x y).toNat).y else rrV 4 0 0 0) := by
      show _ = _; unfold nearV; rw [if_pos h0, if_pos hr]
    obtain ⟨mb, hp1, hm1, hsh, hth, hmp⟩ := HKV.out
    have HNr := (show Hid _ from shelfNearest_any p mb n s A z x y V ⟨hsh, hmp⟩ hall hr)
    obtain ⟨r0, r1, r2⟩ := HRV.out
    clear hor h0 hc hr HK1 HKV hsh hth hmp HBK hall
    obtain ⟨N, hN⟩ : ∃ N, nearK n A z.toNat x y = N := ⟨_, rfl⟩
    have HV2 : Hid (NV = if 0 ≤ N then rrV 0 (A N.toNat).z (A N.toNat).x (A N.toNat).y else rrV 4 0 0 0) := by show _ = _; rw [← HNV.out, HV.out, hN]
    rw [hN] at HNr
    clear HV HNV hN
    by_cases hN0 : 0 ≤ N
    · have HE : Hid (NV = rrV 0 (A N.toNat).z (A N.toNat).x (A N.toNat).y) := by show _ = _; rw [HV2.out, if_pos hN0]
      have HNr2 : Hid (Calls Tryz.prog 36 #[.pointer (some ⟨p, 0, none⟩), refV z x y] V fun e w' => e = .returned (.tuple #[kpV (A N.toNat), .bool true]) ∧ Below V.heap.size V w') := by
        show Calls _ _ _ _ _
        have := HNr.out
        unfold nrV at this
        rw [if_pos hN0, decide_eq_true hN0] at this
        exact this
      generalize A N.toNat = k at *
      clear HNr HV2 hN0
      go_wp2_with fail
      refine Calls.mono HNr2.out ?_
      rintro e w4 ⟨rfl, hb4⟩
      have hT' := HTV.out.below hb4
      have HT4 : Hid (There w4 (w.heap.size + 2) 4) := hT'
      have HB4 : Hid (Below w.heap.size w w4) := bl_then HBW.out hb4
      have hl4 : w.heap.size + 2 < w4.heap.size := Nat.lt_of_lt_of_le (by omega) hb4.size
      have hne : ¬ (w.heap.size + 1 + 1 = w4.heap.size) := by omega
      have t0 := hT'.cell 0 (by omega)
      have t1 := hT'.cell 1 (by omega)
      have t2 := hT'.cell 2 (by omega)
      have t3 := hT'.cell 3 (by omega)
      have f0 := (hT' 0 (by omega)).2
      have f1 := (hT' 1 (by omega)).2
      have f2 := (hT' 2 (by omega)).2
      have f3 := (hT' 3 (by omega)).2
      clear hT' hb4 HNr2 r0 r1 r2
      go_wp2_with fail
      obtain ⟨q0, q1, q2, q3⟩ := set4_at (a := .int .i64 (0)) (b := .int .i64 (k.z)) (c := .int .i64 (k.x)) (d := .int .i64 (k.y)) HT4.out
      have hb5 : Below w.heap.size w ((((w4.setCell ⟨w.heap.size + 2, 0, none⟩ (.int .i64 (0))).setCell ⟨w.heap.size + 2, 1, none⟩ (.int .i64 (k.z))).setCell ⟨w.heap.size + 2, 2, none⟩ (.int .i64 (k.x))).setCell ⟨w.heap.size + 2, 3, none⟩ (.int .i64 (k.y))) := (((HB4.out.setCell (le12 _) _).setCell (le12 _) _).setCell (le12 _) _).setCell (le12 _) _
      have hl5 : w.heap.size + 1 + 1 < ((((w4.setCell ⟨w.heap.size + 2, 0, none⟩ (.int .i64 (0))).setCell ⟨w.heap.size + 2, 1, none⟩ (.int .i64 (k.z))).setCell ⟨w.heap.size + 2, 2, none⟩ (.int .i64 (k.x))).setCell ⟨w.heap.size + 2, 3, none⟩ (.int .i64 (k.y))).heap.size := by simp; exact hl4
      refine bodyPost_ret (resNi rfl (by rw [World.cell?_alloc_old _ _ _ (Nat.ne_of_lt hl5)]; exact q0) (by rw [World.cell?_alloc_old _ _ _ (Nat.ne_of_lt hl5)]; exact q1) (by rw [World.cell?_alloc_old _ _ _ (Nat.ne_of_lt hl5)]; exact q2) (by rw [World.cell?_alloc_old _ _ _ (Nat.ne_of_lt hl5)]; exact q3)) rfl ⟨by rw [HE.out], hb5.alloc hb5.size _⟩
    · have HE : Hid (NV = rrV 4 0 0 0) := by show _ = _; rw [HV2.out, if_neg hN0]
      have HNr2 : Hid (Calls Tryz.prog 36 #[.pointer (some ⟨p, 0, none⟩), refV z x y] V fun e w' => e = .returned (.tuple #[.agg zeroKp, .bool false]) ∧ Below V.heap.size V w') := by
        show Calls _ _ _ _ _
        have := HNr.out
        unfold nrV at this
        rw [if_neg hN0, decide_eq_false hN0] at this
        exact this
      clear HNr HV2 hN0
      go_wp2_with fail
      refine Calls.mono HNr2.out ?_
      rintro e w4 ⟨rfl, hb4⟩
      have hT' := HTV.out.below hb4
      have HT4 : Hid (There w4 (w.heap.size + 2) 4) := hT'
      have HB4 : Hid (Below w.heap.size w w4) := bl_then HBW.out hb4
      have hl4 : w.heap.size + 2 < w4.heap.size := Nat.lt_of_lt_of_le (by omega) hb4.size
      have hne : ¬ (w.heap.size + 1 + 1 = w4.heap.size) := by omega
      have t0 := hT'.cell 0 (by omega)
      have t1 := hT'.cell 1 (by omega)
      have t2 := hT'.cell 2 (by omega)
      have t3 := hT'.cell 3 (by omega)
      have f0 := (hT' 0 (by omega)).2
      have f1 := (hT' 1 (by omega)).2
      have f2 := (hT' 2 (by omega)).2
      have f3 := (hT' 3 (by omega)).2
      clear hT' hb4 HNr2 r0 r1 r2
      go_wp2_with fail
      obtain ⟨q0, q1, q2, q3⟩ := set4_at (a := .int .i64 (4)) (b := .int .i64 (0)) (c := .int .i64 (0)) (d := .int .i64 (0)) HT4.out
      have hb5 : Below w.heap.size w ((((w4.setCell ⟨w.heap.size + 2, 0, none⟩ (.int .i64 (4))).setCell ⟨w.heap.size + 2, 1, none⟩ (.int .i64 (0))).setCell ⟨w.heap.size + 2, 2, none⟩ (.int .i64 (0))).setCell ⟨w.heap.size + 2, 3, none⟩ (.int .i64 (0))) := (((HB4.out.setCell (le12 _) _).setCell (le12 _) _).setCell (le12 _) _).setCell (le12 _) _
      have hl5 : w.heap.size + 1 + 1 < ((((w4.setCell ⟨w.heap.size + 2, 0, none⟩ (.int .i64 (4))).setCell ⟨w.heap.size + 2, 1, none⟩ (.int .i64 (0))).setCell ⟨w.heap.size + 2, 2, none⟩ (.int .i64 (0))).setCell ⟨w.heap.size + 2, 3, none⟩ (.int .i64 (0))).heap.size := by simp; exact hl4
      refine bodyPost_ret (resNi rfl (by rw [World.cell?_alloc_old _ _ _ (Nat.ne_of_lt hl5)]; exact q0) (by rw [World.cell?_alloc_old _ _ _ (Nat.ne_of_lt hl5)]; exact q1) (by rw [World.cell?_alloc_old _ _ _ (Nat.ne_of_lt hl5)]; exact q2) (by rw [World.cell?_alloc_old _ _ _ (Nat.ne_of_lt hl5)]; exact q3)) rfl ⟨by rw [HE.out], hb5.alloc hb5.size _⟩
  · have hq : Hid (NV = rrV (or2 (cacheC s n A) (refC z x y)) 0 0 0) := by
      show _ = _
      rw [← HNV.out]
      unfold nearV or2
      by_cases h0 : cacheC s n A = 0
      · rw [if_pos h0, if_pos h0]
        rcases refC_cases z x y with ⟨hc, hr⟩ | ⟨hc, hr⟩
        · exact absurd (by unfold or2; rw [if_pos h0]; exact hc) hor
        · rw [hr, hc]; rfl
      · rw [if_neg h0, if_neg h0]
    have hcb : (or2 (cacheC s n A) (refC z x y) == 0) = false := by simpa using hor
    have hT' := HTV.out
    have t0 := hT'.cell 0 (by omega)
    have t1 := hT'.cell 1 (by omega)
    have t2 := hT'.cell 2 (by omega)
    have t3 := hT'.cell 3 (by omega)
    have f0 := (hT' 0 (by omega)).2
    have f1 := (hT' 1 (by omega)).2
    have f2 := (hT' 2 (by omega)).2
    have f3 := (hT' 3 (by omega)).2
    clear hT' HK1 HNV
    generalize or2 (cacheC s n A) (refC z x y) = rc at *
    go_wp2_with fail
    obtain ⟨q0, q1, q2, q3⟩ := set4_at (a := .int .i64 rc) (b := .int .i64 0) (c := .int .i64 0) (d := .int .i64 0) HTV.out
    refine bodyPost_ret (v := rrV rc 0 0 0) (by simp [results, Tryz.results11, go_sem, q0, q1, q2, q3]) rfl ⟨by rw [hq.out], ?_⟩
    exact (((HBW.out.setCell (le12 _) _).setCell (le12 _) _).setCell (le12 _) _).setCell (le12 _) _
end Go.Proofs.YthidgolnajggpaaGreat
/- Tiles that come in: copied into memory of their own, and marked. -/

namespace Go.Proofs.YthidgolnajggpaaGreat
open Go.RowKit
set_option linter.unusedSimpArgs false
set_option linter.unusedVariables false
set_option maxRecDepth 100000

end Go.Proofs.YthidgolnajggpaaGreat
/- The law of RasterTile returns true at every tile. -/

namespace Go.Proofs.YthidgolnajggpaaGreat
open Go.RowKit
set_option linter.unusedSimpArgs false
set_option linter.unusedVariables false
set_option maxRecDepth 100000

theorem rt_same {z x y : Int} {n : Nat} {G F : Nat → Feat} (h : ∀ i, i < n → (G i).same (F i)) : rtC z x y n G = rtC z x y n F ∧ rtL z x y n G = rtL z x y n F := by
  have e1 : featsC n G = featsC n F := featsC_same h
  have e2 : ordS n G = ordS n F := by
    unfold ordS
    rw [decide_eq_decide]
    refine forall_congr' fun i => forall_congr' fun hi => ?_
    have a := h i (by omega)
    have b := h (i + 1) (by omega)
    have e : ltF (G i) (G (i + 1)) = ltF (F i) (F (i + 1)) := by unfold ltF; rw [a.1, a.2.1, b.1, b.2.1]
    rw [e]
  have e3 : rtC z x y n G = rtC z x y n F := by unfold rtC; rw [e1, e2]
  have e4 : paintF G n z = paintF F n z := by
    funext X Y
    unfold paintF
    have : ∀ k, k ≤ n → paintI (fun i => covF z (centI z X) (centI z Y) (G i)) (fun i => (G i).id) k = paintI (fun i => covF z (centI z X) (centI z Y) (F i)) (fun i => (F i).id) k := fun k hk => by
      induction k with
      | zero => rfl
      | succ k ih =>
        obtain ⟨i1, i2, i3, i4, i5, i6, i7, i8, i9⟩ := h k (by omega)
        have ec : covF z (centI z X) (centI z Y) (G k) = covF z (centI z X) (centI z Y) (F k) := by unfold covF; rw [i3, i4, i5, i6, i7]
        rw [paintI, paintI, ih (by omega), ec, i1]
    exact this n (Nat.le_refl _)
  exact ⟨e3, by unfold rtL; rw [e3, e4]⟩
end Go.Proofs.YthidgolnajggpaaGreat
