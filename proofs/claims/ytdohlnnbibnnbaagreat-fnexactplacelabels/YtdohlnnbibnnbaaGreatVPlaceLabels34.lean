/- The model's way to thin a line. -/
import Derived.Test.YtdohlnnbibnnbaaGreatVPlaceLabels33
import Derived.Test.YtdohlnnbibnnbaaGreatVPlaceLabels4
import Derived.Test.YtdohlnnbibnnbaaGreatVPlaceLabels13
namespace Go.Proofs.YtdohlnnbibnnbaaGreat
open Go.RowKit
set_option linter.unusedSimpArgs false
set_option linter.unusedVariables false

/-- One of those from f + 1 on, less than k, is not near. -/
def farTo (X Y : Nat → Int) (r : Int) (f t k : Nat) : Bool := decide (∃ i, i < k ∧ f < i ∧ nearI X Y r f t i = false)
theorem farTo_end (X Y : Nat → Int) (r : Int) (f t : Nat) : farTo X Y r f t t = farB X Y r f t := rfl
theorem farTo_one (X Y : Nat → Int) (r : Int) (f t : Nat) : farTo X Y r f t (f + 1) = false := by
  unfold farTo
  rw [decide_eq_false_iff_not]
  rintro ⟨i, h1, h2, _⟩
  omega
theorem farTo_step (X Y : Nat → Int) (r : Int) (f t k : Nat) (hk : f < k) : farTo X Y r f t (k + 1) = (farTo X Y r f t k || !nearI X Y r f t k) := by
  rw [Bool.eq_iff_iff]
  simp only [farTo, decide_eq_true_eq, Bool.or_eq_true, Bool.not_eq_true']
  constructor
  · rintro ⟨i, h1, h2, h3⟩
    by_cases e : i = k
    · subst e; exact .inr h3
    · exact .inl ⟨i, by omega, h2, h3⟩
  · rintro (⟨i, h1, h2, h3⟩ | h)
    · exact ⟨i, by omega, h2, h3⟩
    · exact ⟨k, by omega, hk, h⟩

theorem Row_mono {w : World} {b1 b2 n size : Nat} {e : TypeId} {v : Value} {xs : List Value} (h : w.ownsRow b1 e size v n xs) (hb : b2 ≤ b1) : w.ownsRow b2 e size v n xs := by
  obtain ⟨h1, h2 | ⟨g, cp, cur, hv, hg, hr⟩⟩ := h
  · exact ⟨h1, .inl h2⟩
  · exact ⟨h1, .inr ⟨g, cp, cur, hv, Nat.le_trans hb hg, hr⟩⟩

set_option maxRecDepth 8000 in
set_option maxHeartbeats 8000000 in
theorem l3Thin_any (b n cap : Nat) (X Y : Nat → Int) (r : Int) (hn : n ≤ 40) (hok : ∀ i, i < n → okP (X i) (Y i) = true) (hr0 : 0 ≤ r) (hr1 : r ≤ 4096) :
    ∀ d f t, t - f ≤ d → f < t → t < n → ∀ w, PtsAt w b 0 n X Y → b < w.heap.size →
    Calls Tryz.prog 148 #[.slice (some ⟨b, 0, none⟩) n cap, .int .i64 (f : Int), .int .i64 (t : Int), .int .i64 r] w fun e w' => ∃ v l, e = .returned v ∧ Thin X Y r f t l ∧ Row w.heap.size w' v (ptsOf X Y l) ∧ Below w.heap.size w w' := by
  intro d
  induction d with
  | zero => intro f t h1 h2; omega
  | succ d ih =>
    intro f t hd hft htn w hp hbl
    obtain ⟨i0, hi, hz0, hz1, hz2⟩ := info_parts (show (Tryz.prog.info? 111).map (fun i => (i.zero, i.size, i.bytes)) = some (some (.agg #[.int .i64 0, .int .i64 0]), 2, 16) by kernel_rfl)
    have IH := (show Hid _ from ih)
    have HP : Hid (PtsAt w b 0 n X Y) := hp
    have HOK : Hid (∀ i, i < n → okP (X i) (Y i) = true) := hok
    have cm : ∀ i, i < n → ∀ W', Below w.heap.size w W' → W'.cell? ⟨b, i * 2, none⟩ = some (.int .i64 (X i)) ∧ W'.cell? ⟨b, i * 2 + 1, none⟩ = some (.int .i64 (Y i)) := fun i hi W' h => by
      have := (HP.out.below h hbl) i hi
      simpa using this
    have HCM : Hid _ := cm
    have HD : Hid (t - f ≤ d + 1) := hd
    clear hp ih cm hd
    go_enter Tryz.func148, Tryz.ntmps148
    go_wp2_with fail
    go_loopw [9, 10] (fun s9 s10 wr => ∃ k : Nat, f + 1 ≤ k ∧ k ≤ t ∧ s10 = .int .i64 (k : Int) ∧ s9 = .bool (farTo X Y r f t k) ∧ Below w.heap.size w wr) (fun _ s10 _ => t - (intOf s10).toNat)
    case atStart => exact ⟨f + 1, by omega, by omega, by go_num, by rw [farTo_one], Below.refl _ _⟩
    case round =>
      obtain ⟨k, hk1, hk2, rfl, rfl, hB⟩ := hrel
      have HB : Hid (Below w.heap.size w wr) := hB
      clear hB
      by_cases hlt : k < t
      · have hki : (k : Int) < (t : Int) := by omega
        have hst := farTo_step X Y r f t k (by omega)
        cases hfar : farTo X Y r f t k
        · rw [hfar] at hst
          simp only [Bool.false_or] at hst
          have HST : Hid (farTo X Y r f t (k + 1) = !nearI X Y r f t k) := hst
          clear hst hfar
          have k0 : (0 : Int) ≤ (k : Int) := by omega
          have k1 : (k : Int) < (n : Int) := by omega
          have f0 : (0 : Int) ≤ (f : Int) := by omega
          have f1 : (f : Int) < (n : Int) := by omega
          have t0 : (0 : Int) ≤ (t : Int) := by omega
          have t1 : (t : Int) < (n : Int) := by omega
          have ck0 : ∀ W', Below wr.heap.size wr W' → W'.cell? ⟨b, k * 2, none⟩ = some (.int .i64 (X k)) := fun W' h => (HCM.out k (by omega) W' (bl_then HB.out h)).1
          have ck1 : ∀ W', Below wr.heap.size wr W' → W'.cell? ⟨b, k * 2 + 1, none⟩ = some (.int .i64 (Y k)) := fun W' h => (HCM.out k (by omega) W' (bl_then HB.out h)).2
          have cf0 : ∀ W', Below wr.heap.size wr W' → W'.cell? ⟨b, f * 2, none⟩ = some (.int .i64 (X f)) := fun W' h => (HCM.out f (by omega) W' (bl_then HB.out h)).1
          have cf1 : ∀ W', Below wr.heap.size wr W' → W'.cell? ⟨b, f * 2 + 1, none⟩ = some (.int .i64 (Y f)) := fun W' h => (HCM.out f (by omega) W' (bl_then HB.out h)).2
          have ct0 : ∀ W', Below wr.heap.size wr W' → W'.cell? ⟨b, t * 2, none⟩ = some (.int .i64 (X t)) := fun W' h => (HCM.out t (by omega) W' (bl_then HB.out h)).1
          have ct1 : ∀ W', Below wr.heap.size wr W' → W'.cell? ⟨b, t * 2 + 1, none⟩ = some (.int .i64 (Y t)) := fun W' h => (HCM.out t (by omega) W' (bl_then HB.out h)).2
          have HO3 : Hid (okP (X k) (Y k) = true ∧ okP (X f) (Y f) = true ∧ okP (X t) (Y t) = true) := ⟨HOK.out k (by omega), HOK.out f (by omega), HOK.out t (by omega)⟩
          go_wp2_with fail
          go_region_held3 (fun W' => Below wr.heap.size wr W') ((repeat (first | exact Below.refl _ _ | assumption | refine Below.drew ?_ | refine bl_alloc ?_ _ | refine bl_then ?_ (by assumption) | refine Below.setCell ?_ (by first | omega | (simp; done) | (simp; omega)) _ | refine bl_store ?_ ?_ _ _)))
            (first | (go_at_call 159; refine (l1Near_any _ _ _ _ _ _ _ _ HO3.out.1 HO3.out.2.1 HO3.out.2.2 hr0 hr1).mono ?_; rintro e w' ⟨rfl, hb⟩))
          go_wp2_with fail
          rename_i hfin
          go_roundw
          case rel => exact ⟨k + 1, by omega, by omega, by go_num, by rw [HST.out]; rfl, bl_then HB.out hfin⟩
          case measure => simp [intOf]; omega
        · rw [hfar] at hst
          simp only [Bool.true_or] at hst
          have HST : Hid (farTo X Y r f t (k + 1) = true) := hst
          clear hst hfar
          go_wp2_with fail
          refine wp_region_noPanic ?_
          refine wp_region_held_drew (S := fun W' => Below wr.heap.size wr W') (by kernel_rfl) (by (repeat (first | exact Below.refl _ _ | assumption | refine Below.drew ?_ | refine bl_alloc ?_ _ | refine bl_then ?_ (by assumption)))) (fun hHeld => ?_)
          refine takeD (i := 0) (d := some 19) (v := ?v0) rfl rfl (by kernel_rfl) (by kernel_rfl) (by kernel_rfl) (fun _ _ _ h => h) (Or.inl ⟨by rfl, ?hy0⟩) (by assumption) ?_
          case hy0 => (intro w hSw; (try dsimp only at hSw); go_simp <;> with_reducible rfl)
          simp only [Act.put, List.setIfInBounds_toArray, List.set_cons_zero, List.set_cons_succ]
          refine takeD (i := 1) (d := some 20) (v := ?v1) rfl rfl (by kernel_rfl) (by kernel_rfl) (by kernel_rfl) (fun _ _ _ h => h) (Or.inl ⟨by rfl, ?hy1⟩) (by assumption) ?_
          case hy1 => (intro w hSw; (try dsimp only at hSw); go_simp <;> with_reducible rfl)
          simp only [Act.put, List.setIfInBounds_toArray, List.set_cons_zero, List.set_cons_succ]
          refine passD (i := 2) (d := some 21) rfl rfl (by kernel_rfl) (by kernel_rfl) (by kernel_rfl) (fun _ _ _ h => h) (by rfl) (by assumption) ?_
          simp only [Act.put, List.setIfInBounds_toArray, List.set_cons_zero, List.set_cons_succ]
          refine passD (i := 3) (d := some 22) rfl rfl (by kernel_rfl) (by kernel_rfl) (by kernel_rfl) (fun _ _ _ h => h) (by rfl) (by assumption) ?_
          simp only [Act.put, List.setIfInBounds_toArray, List.set_cons_zero, List.set_cons_succ]
          refine passD (i := 4) (d := some 23) rfl rfl (by kernel_rfl) (by kernel_rfl) (by kernel_rfl) (fun _ _ _ h => h) (by rfl) (by assumption) ?_
          simp only [Act.put, List.setIfInBounds_toArray, List.set_cons_zero, List.set_cons_succ]
          refine passD (i := 5) (d := some 24) rfl rfl (by kernel_rfl) (by kernel_rfl) (by kernel_rfl) (fun _ _ _ h => h) (by rfl) (by assumption) ?_
          simp only [Act.put, List.setIfInBounds_toArray, List.set_cons_zero, List.set_cons_succ]
          refine passD (i := 6) (d := some 25) rfl rfl (by kernel_rfl) (by kernel_rfl) (by kernel_rfl) (fun _ _ _ h => h) (by rfl) (by assumption) ?_
          simp only [Act.put, List.setIfInBounds_toArray, List.set_cons_zero, List.set_cons_succ]
          refine passD (i := 7) (d := some 26) rfl rfl (by kernel_rfl) (by kernel_rfl) (by kernel_rfl) (fun _ _ _ h => h) (by rfl) (by assumption) ?_
          simp only [Act.put, List.setIfInBounds_toArray, List.set_cons_zero, List.set_cons_succ]
          refine passD (i := 8) (d := some 27) rfl rfl (by kernel_rfl) (by kernel_rfl) (by kernel_rfl) (fun _ _ _ h => h) (by rfl) (by assumption) ?_
          simp only [Act.put, List.setIfInBounds_toArray, List.set_cons_zero, List.set_cons_succ]
          refine passD (i := 9) (d := some 28) rfl rfl (by kernel_rfl) (by kernel_rfl) (by kernel_rfl) (fun _ _ _ h => h) (by rfl) (by assumption) ?_
          simp only [Act.put, List.setIfInBounds_toArray, List.set_cons_zero, List.set_cons_succ]
          refine passD (i := 10) (d := some 29) rfl rfl (by kernel_rfl) (by kernel_rfl) (by kernel_rfl) (fun _ _ _ h => h) (by rfl) (by assumption) ?_
          simp only [Act.put, List.setIfInBounds_toArray, List.set_cons_zero, List.set_cons_succ]
          refine passD (i := 11) (d := some 30) rfl rfl (by kernel_rfl) (by kernel_rfl) (by kernel_rfl) (fun _ _ _ h => h) (by rfl) (by assumption) ?_
          simp only [Act.put, List.setIfInBounds_toArray, List.set_cons_zero, List.set_cons_succ]
          refine passD (i := 12) (d := some 31) rfl rfl (by kernel_rfl) (by kernel_rfl) (by kernel_rfl) (fun _ _ _ h => h) (by rfl) (by assumption) ?_
          simp only [Act.put, List.setIfInBounds_toArray, List.set_cons_zero, List.set_cons_succ]
          refine passD (i := 13) (d := some 32) rfl rfl (by kernel_rfl) (by kernel_rfl) (by kernel_rfl) (fun _ _ _ h => h) (by rfl) (by assumption) ?_
          simp only [Act.put, List.setIfInBounds_toArray, List.set_cons_zero, List.set_cons_succ]
          refine passD (i := 14) (d := some 33) rfl rfl (by kernel_rfl) (by kernel_rfl) (by kernel_rfl) (fun _ _ _ h => h) (by rfl) (by assumption) ?_
          simp only [Act.put, List.setIfInBounds_toArray, List.set_cons_zero, List.set_cons_succ]
          refine passD (i := 15) (d := some 34) rfl rfl (by kernel_rfl) (by kernel_rfl) (by kernel_rfl) (fun _ _ _ h => h) (by rfl) (by assumption) ?_
          simp only [Act.put, List.setIfInBounds_toArray, List.set_cons_zero, List.set_cons_succ]
          refine passD (i := 16) (d := some 35) rfl rfl (by kernel_rfl) (by kernel_rfl) (by kernel_rfl) (fun _ _ _ h => h) (by rfl) (by assumption) ?_
          simp only [Act.put, List.setIfInBounds_toArray, List.set_cons_zero, List.set_cons_succ]
          refine takeD (i := 17) (d := some 36) (v := ?v17) rfl rfl (by kernel_rfl) (by kernel_rfl) (by kernel_rfl) (fun _ _ _ h => h) (Or.inl ⟨by rfl, ?hy17⟩) (by assumption) ?_
          case hy17 => (intro w hSw; (try dsimp only at hSw); go_simp <;> with_reducible rfl)
          simp only [Act.put, List.setIfInBounds_toArray, List.set_cons_zero, List.set_cons_succ]
          refine takeD (i := 18) (d := some 9) (v := ?v18) rfl rfl (by kernel_rfl) (by kernel_rfl) (by kernel_rfl) (fun _ _ _ h => h) (Or.inl ⟨by rfl, ?hy18⟩) (by assumption) ?_
          case hy18 => (intro w hSw; (try dsimp only at hSw); go_simp <;> with_reducible rfl)
          simp only [Act.put, List.setIfInBounds_toArray, List.set_cons_zero, List.set_cons_succ]
          refine wpAnyH_done (by kernel_rfl) ?_ _
          refine NoPanic.normal ?_
          go_wp2_with fail
          go_roundw
          case rel => exact ⟨k + 1, by omega, by omega, by go_num, by rw [HST.out], bl_then HB.out (by (repeat (first | exact Below.refl _ _ | assumption | refine Below.drew ?_ | refine bl_alloc ?_ _ | refine bl_then ?_ (by assumption) | refine Below.setCell ?_ (by first | omega | (simp; done) | (simp; omega)) _ | refine bl_store ?_ ?_ _ _)))⟩
          case measure => simp [intOf]; omega
      · have hke : k = t := by omega
        subst hke
        rw [farTo_end]
        obtain ⟨cf0, cf1⟩ := HCM.out f (by omega) wr HB.out
        have f0 : (0 : Int) ≤ (f : Int) := by omega
        have f1 : (f : Int) < (n : Int) := by omega
        cases hfar : farB X Y r f k
        · have HF : Hid (Thin X Y r f k [f]) := .near f k hfar
          have hs := HB.out.size
          clear hfar
          go_wp2_with fail
          go_ret
          refine ⟨_, [f], rfl, HF.out, ?_, by have HB' := HB.out; (repeat (first | exact Below.refl _ _ | assumption | refine Below.drew ?_ | refine bl_alloc ?_ _ | refine bl_then ?_ (by assumption) | refine Below.setCell ?_ (by first | omega | (simp; done) | (simp; omega)) _ | refine bl_store ?_ ?_ _ _))⟩
          have := World.ownsRow_lit (base := w.heap.size) (e := 111) (size := 2) wr #[.int .i64 (X f), .int .i64 (Y f)] 1 hs (by decide) rfl
          exact this
        · obtain ⟨j, q1, q2, _⟩ := (farB_iff X Y r f k).1 hfar
          have HFar : Hid (farB X Y r f k = true) := hfar
          clear hfar cf0 cf1
          go_wp2_with fail
          refine (l3Farthest_any b n cap f k X Y wr (HP.out.below HB.out hbl) (Nat.lt_of_lt_of_le hbl HB.out.size) hn (by omega) (by omega) HOK.out).mono ?_
          rintro e w1 ⟨m, rfl, hM, hb1⟩
          have m1 := hM.lo
          have m2 := hM.hi
          have HM : Hid (Far X Y f k (f + 1) k m) := hM
          have HB1 : Hid (Below w.heap.size w w1) := bl_then HB.out hb1
          clear hM hb1
          go_wp2_with fail
          refine (IH.out f m (by have := HD.out; omega) (by omega) (by omega) w1 (HP.out.below HB1.out hbl) (Nat.lt_of_lt_of_le hbl HB1.out.size)).mono ?_
          rintro e w2 ⟨v1, l1, rfl, hT1, hR1, hb2⟩
          have HT1 : Hid (Thin X Y r f m l1) := hT1
          have HR1 : Hid (Row w1.heap.size w2 v1 (ptsOf X Y l1)) := hR1
          have HB2 : Hid (Below w.heap.size w w2) := bl_then HB1.out hb2
          have hs12 := hb2.size
          clear hT1 hR1 hb2
          go_wp2_with fail
          refine (IH.out m k (by have := HD.out; omega) (by omega) (by omega) w2 (HP.out.below HB2.out hbl) (Nat.lt_of_lt_of_le hbl HB2.out.size)).mono ?_
          rintro e w3 ⟨v2, l2, rfl, hT2, hR2, hb3⟩
          obtain ⟨n1, n2, n3⟩ := HT1.out.len X Y (by omega)
          obtain ⟨n4, n5, n6⟩ := hT2.len X Y (by omega)
          have hlen2 : (ptsOf X Y l2).length = l2.length := by simp [ptsOf]
          have hlen1 : (ptsOf X Y l1).length = l1.length := by simp [ptsOf]
          have hl2 : 0 < l2.length := List.length_pos_iff.2 n6
          obtain ⟨g, cp, hv2⟩ : ∃ g cp, v2 = .slice (some ⟨g, 0, none⟩) (ptsOf X Y l2).length cp := by
            obtain ⟨av, cv, hv, _, h0 | ⟨g, rfl, _⟩⟩ := hR2.own
            · omega
            · exact ⟨g, cv, hv⟩
          have hc2 := World.ownsRow.cells hR2 (g := g) (by rw [hv2]; rfl)
          have HC2 := (show Hid _ from hc2)
          have HT : Hid (Thin X Y r f k (l1 ++ l2)) := .split f k m l1 l2 HFar.out HM.out HT1.out hT2
          have HR3 : Hid (Row w1.heap.size w3 v1 (ptsOf X Y l1)) := HR1.out.below hb3
          have HB3 : Hid (Below w.heap.size w w3) := bl_then HB2.out hb3
          have hs23 := hb3.size
          have HLL : Hid ((ptsOf X Y l2).length = l2.length ∧ (ptsOf X Y l1).length = l1.length) := ⟨hlen2, hlen1⟩
          subst hv2
          clear hT2 hR2 hb3 hc2 n2 n3 n5 n6 HR1 hlen1 hlen2
          go_wp2_with (first
            | (at_builtin; go_must (refine wpList_append_own _ rfl _ _ 34 rfl w1.heap.size 111 i0 (.agg #[.int .i64 0, .int .i64 0]) 2 16 Tryz.underlying34 hi hz0 hz1 hz2 rfl (by decide) _ (ptsOf X Y l1).length (cellsL (ptsOf X Y l1)) rfl HR3.out ⟨g, 0, none⟩ (ptsOf X Y l2).length cp (cellsL (ptsOf X Y l2)) rfl ?c0 ?c1 ?c2 ?c3 ?c4 ?c5 ?_)))
          case c0 => rw [cellsL_len]
          case c1 => exact HC2.out
          case c2 =>
            intro u hu
            unfold cellsL at hu
            rw [List.mem_flatMap] at hu
            obtain ⟨p, _, hp⟩ := hu
            simp at hp
            rcases hp with rfl | rfl <;> rfl
          case c3 => have := HLL.out; unfold maxLen; omega
          case c4 => have := HLL.out; omega
          case c5 => omega
          intro v' w4 hown' hgrow hnil
          clear hnil
          have HB4 : Hid (Below w.heap.size w w4) := HB3.out.trans ((Below.refl _ _).grown hgrow HB3.out.size (fun k hk => Nat.le_trans HB1.out.size (HR3.out.lt k hk).1))
          have HR4 : Hid (Row w.heap.size w4 v' (ptsOf X Y (l1 ++ l2))) := by
            show Row _ _ _ _
            have e1 : ptsOf X Y (l1 ++ l2) = ptsOf X Y l1 ++ ptsOf X Y l2 := by simp [ptsOf]
            have e2 : cellsL (ptsOf X Y l1 ++ ptsOf X Y l2) = cellsL (ptsOf X Y l1) ++ cellsL (ptsOf X Y l2) := by simp [cellsL]
            rw [e1]
            show World.ownsRow _ _ _ _ _ _ _
            rw [e2, List.length_append]
            exact Row_mono hown' HB1.out.size
          clear hown' hgrow
          go_wp2
          go_ret
          exact ⟨_, l1 ++ l2, rfl, HT.out, HR4.out, HB4.out⟩
end Go.Proofs.YtdohlnnbibnnbaaGreat
