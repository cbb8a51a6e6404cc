/- A law of requests returns true at every argument. -/
import Derived.Test.YtfcbbfhfjojoeaaWq14
import Derived.Deep.DeepCutAuto
namespace Go.Proofs.Ytfcbbfhfjojoeaa
open Go.RowKit
set_option linter.unusedSimpArgs false
set_option linter.unusedVariables false
set_option maxRecDepth 100000

set_option maxHeartbeats 8000000 in
theorem FnExactRetryAll_law (c : Int) (a : Option Addr) (n cap : Nat) (E : Nat → Req) (now : Int) (m : Nat) (R : Rfs) (k : Nat) (Z : Nat → Req) (w : World) (h : IsWs w a n E ∧ n ≤ cap ∧ cap ≤ maxLen) (hm : m ≤ 1048576) (hk : k ≤ 1048576)
    (hsp : n ≤ 1048576 → ∀ b w, WsAt w b 0 n E → b < w.heap.size → Calls Try.prog 27 #[.slice (some ⟨b, 0, none⟩) n n, .int .i64 now] w fun e w' => ∃ v1 v2, e = .returned (rqV c v1 v2) ∧ OwA w.heap.size m R k Z w' v1 v2 ∧ Below w.heap.size w w')
    (him : n ≤ 1048576 → ∀ b w, WsAt w b 0 n E → b < w.heap.size → Calls Try.prog 14 #[.slice (some ⟨b, 0, none⟩) n n, .int .i64 now] w fun e w' => ∃ v1 v2, e = .returned (rqV c v1 v2) ∧ OwA w.heap.size m R k Z w' v1 v2 ∧ Below w.heap.size w w') :
    Calls Try.prog 7 #[.slice a n cap, .int .i64 now] w fun e w' => e = .returned (.bool true) ∧ Below w.heap.size w w' := by
  obtain ⟨hf, hc, hmx⟩ := h
  have HI : Hid (IsWs w a n E) := hf
  have HM : Hid (n ≤ maxLen) := Nat.le_trans hc hmx
  clear hf hc hmx
  by_cases hbig : 1048576 < n
  · clear hsp him
    go_enter Try.func7, Try.ntmps7
    go_wp2_with (go_at_call 17; refine (szRequestS_no a n cap 1048576 _ (by omega) hbig HM.out).mono ?_; rintro e w' ⟨rfl, hb⟩)
    go_ret
    exact ⟨rfl, by (repeat (first | exact Below.refl _ _ | assumption | refine Below.drew ?_ | refine bl_alloc ?_ _ | refine bl_then ?_ (by assumption) | refine Below.setCell ?_ (by first | omega | (simp; done) | (simp; omega)) _ | refine bl_store ?_ ?_ _ _))⟩
  have hn : n ≤ 1048576 := by omega
  have Hsp : Hid (∀ b w, WsAt w b 0 n E → b < w.heap.size → Calls Try.prog 27 #[.slice (some ⟨b, 0, none⟩) n n, .int .i64 now] w fun e w' => ∃ v1 v2, e = .returned (rqV c v1 v2) ∧ OwA w.heap.size m R k Z w' v1 v2 ∧ Below w.heap.size w w') := hsp hn
  have Him : Hid (∀ b w, WsAt w b 0 n E → b < w.heap.size → Calls Try.prog 14 #[.slice (some ⟨b, 0, none⟩) n n, .int .i64 now] w fun e w' => ∃ v1 v2, e = .returned (rqV c v1 v2) ∧ OwA w.heap.size m R k Z w' v1 v2 ∧ Below w.heap.size w w') := him hn
  have hneg : ¬ (1048576 : Int) - (n : Int) < 0 := by omega
  clear hbig hsp him
  go_enter Try.func7, Try.ntmps7
  go_wp2_with fail
  refine (szRequestS_ok a n cap 1048576 w (by omega) hn).mono ?_
  rintro e w1 ⟨rfl, hB1⟩
  have HTQ : Hid (∀ W', Below w1.heap.size w1 W' → Calls Try.prog 19 #[.slice a n cap] W' fun e w' => ∃ b, e = .returned (.slice (some ⟨b, 0, none⟩) n n) ∧ W'.heap.size ≤ b ∧ b < w'.heap.size ∧ WsAt w' b 0 n E ∧ There w' b (n * 5) ∧ Below W'.heap.size W' w') := fun W' h => toRequestS_any a n cap E W' (HI.out.below (bl_then hB1 h)) hn
  have hrf : Below w1.heap.size w1 w1 := Below.refl _ _
  go_wp2_with fail
  refine (HTQ.out _ hrf).mono ?_
  rintro e wfa ⟨bqf, rfl, _, hlf, hqf, _, hbfa⟩
  go_wp2_with fail
  refine (Hsp.out _ _ hqf hlf).mono ?_
  rintro e wfb ⟨v1, v2, rfl, hOf, hbfb⟩
  obtain ⟨a1, p1, a2, p2, rfl, rfl, _, _⟩ := hOf.is
  have hIf := hOf.is
  have hBx : Below w1.heap.size w1 wfb := bl_then hbfa hbfb
  clear hbfa hbfb hqf hlf hOf
  go_wp2_with fail
  generalize hwA : (World.alloc _ _ : World) = w2
  have hbA : Below wfb.heap.size wfb w2 := by subst hwA; (repeat (first | exact Below.refl _ _ | assumption | refine Below.drew ?_ | refine bl_alloc ?_ _ | refine bl_then ?_ (by assumption) | refine Below.setCell ?_ (by first | omega | (simp; done) | (simp; omega)) _ | refine bl_store ?_ ?_ _ _))
  have g0 : w2.cell? ⟨wfb.heap.size, 0, none⟩ = some (.int .i64 c) := by subst hwA; simp [go_sem]
  have g1 : w2.cell? ⟨wfb.heap.size, 1, none⟩ = some (.slice a1 m p1) := by subst hwA; simp [go_sem]
  have g2 : w2.cell? ⟨wfb.heap.size, 2, none⟩ = some (.slice a2 k p2) := by subst hwA; simp [go_sem]
  clear hwA
  have hIx : IsA m R k Z w2 (.slice a1 m p1) (.slice a2 k p2) := hIf.below hbA
  have hbx : w1.heap.size ≤ wfb.heap.size := hBx.size
  have hBy : Below w1.heap.size w1 w2 := bl_then hBx hbA
  generalize wfb.heap.size = bw at *
  clear hIf hBx hbA
  have hB2 : Below w1.heap.size w1 w2 := hBy
  have HS12 : Hid (w1.heap.size ≤ w2.heap.size) := hB2.size
  have hbw2 : bw < w2.heap.size := World.block_lt_of_cell? _ _ g0
  have HU2 : Hid (UnA w2.heap.size m R k Z w2 (.slice a1 m p1) (.slice a2 k p2)) := hIx.un
  clear hIx hBy hbx
  refine (HTQ.out _ hB2).mono ?_
  rintro e w4 ⟨b4, rfl, hge4, hlt4, hE4, hT4, hb4⟩
  have hB4 : Below w1.heap.size w1 w4 := bl_then hB2 hb4
  have HE4 : Hid (WsAt w4 b4 0 n E) := hE4
  have HT4 : Hid (There w4 b4 (n * 5)) := hT4
  have hg0 := bl_cellR hb4 g0
  have hg1 := bl_cellR hb4 g1
  have hg2 := bl_cellR hb4 g2
  have HU4 : Hid (UnA w2.heap.size m R k Z w4 (.slice a1 m p1) (.slice a2 k p2)) := HU2.out.below hb4 (Nat.le_refl _)
  have hs24 := hb4.size
  clear hE4 hT4 hb4 g0 g1 g2 HU2 hB2
  have HE4a := HE4.out
  have hlt4a := hlt4
  have HTa : Hid (There w4 b4 (n * 5)) := HT4.out
  have HEa : Hid (WsAt w4 b4 0 n E) := HE4.out
  have hB4a := hB4
  have HU4a := HU4
  have hs4a : w4.heap.size ≤ w4.heap.size := Nat.le_refl _
  have i0 := hg0
  have i1 := hg1
  have i2 := hg2
  clear hg0 hg1 hg2 HT4 HE4 HU4 hB4
  go_wp2_with fail
  refine (Him.out _ _ HE4a hlt4a).mono ?_
  rintro e w5 ⟨v3, v4, rfl, hO5, hb5⟩
  obtain ⟨a3, p3, a4, p4, rfl, rfl, _, _⟩ := hO5.is
  have HO5 : Hid (OwA w4.heap.size m R k Z w5 (.slice a3 m p3) (.slice a4 k p4)) := hO5
  have HUI : Hid (UnA w5.heap.size m R k Z w5 (.slice a3 m p3) (.slice a4 k p4)) := hO5.is.un
  have hB5 : Below w1.heap.size w1 w5 := bl_then hB4a hb5
  have hs5 := hb5.size
  have HT5 : Hid (There w5 b4 (n * 5)) := HTa.out.below hb5
  have HE5 : Hid (WsAt w5 b4 0 n E) := HEa.out.below hb5 hlt4a
  have HU5 : Hid (UnA w2.heap.size m R k Z w5 (.slice a1 m p1) (.slice a2 k p2)) := HU4a.out.below hb5 (by omega)
  have j0 := bl_cellR hb5 i0
  have j1 := bl_cellR hb5 i1
  have j2 := bl_cellR hb5 i2
  clear hO5 hb5 i0 i1 i2 HE4a HTa HEa HU4a hB4a
  have hlw5 : bw < w5.heap.size := World.block_lt_of_cell? _ _ j0
  go_wp2_with fail
  generalize hW6 : (World.alloc _ _ : World) = w6
  have hb6 : Below w5.heap.size w5 w6 := by subst hW6; (repeat (first | exact Below.refl _ _ | assumption | refine Below.drew ?_ | refine bl_alloc ?_ _ | refine bl_then ?_ (by assumption) | refine Below.setCell ?_ (by first | omega | (simp; done) | (simp; omega)) _ | refine bl_store ?_ ?_ _ _))
  have d0 : w6.cell? ⟨w5.heap.size, 0, none⟩ = some (.int .i64 c) := by subst hW6; simp [go_sem]
  have d1 : w6.cell? ⟨w5.heap.size, 1, none⟩ = some (.slice a3 m p3) := by subst hW6; simp [go_sem]
  have d2 : w6.cell? ⟨w5.heap.size, 2, none⟩ = some (.slice a4 k p4) := by subst hW6; simp [go_sem]
  clear hW6
  have hB6 : Below w1.heap.size w1 w6 := bl_then hB5 hb6
  have hs6 := hb6.size
  have HO6 : Hid (OwA w4.heap.size m R k Z w6 (.slice a3 m p3) (.slice a4 k p4)) := HO5.out.below hb6
  have HT6 : Hid (There w6 b4 (n * 5)) := HT5.out.below hb6
  have HE6 : Hid (WsAt w6 b4 0 n E) := HE5.out.below hb6 (by omega)
  have HU6 : Hid (UnA w2.heap.size m R k Z w6 (.slice a1 m p1) (.slice a2 k p2)) := HU5.out.below hb6 (by omega)
  have j6_0 := bl_cellR hb6 j0
  have j6_1 := bl_cellR hb6 j1
  have j6_2 := bl_cellR hb6 j2
  clear j0 j1 j2
  clear HO5 HT5 HE5 HU5 hB5 hb6
  have hlt56 : w5.heap.size < w6.heap.size := World.block_lt_of_cell? _ _ d0
  refine (eqA c m R k Z _ _ _ _ _ HO6.out.is (HU6.out.is (by omega)) hm hk).mono ?_
  rintro e w7 ⟨rfl, hb7⟩
  have hB7 : Below w1.heap.size w1 w7 := bl_then hB6 hb7
  have hs7 := hb7.size
  have HO7 : Hid (OwA w4.heap.size m R k Z w7 (.slice a3 m p3) (.slice a4 k p4)) := HO6.out.below hb7
  have HT7 : Hid (There w7 b4 (n * 5)) := HT6.out.below hb7
  have HE7 : Hid (WsAt w7 b4 0 n E) := HE6.out.below hb7 (by omega)
  have HU7 : Hid (UnA w2.heap.size m R k Z w7 (.slice a1 m p1) (.slice a2 k p2)) := HU6.out.below hb7 (by omega)
  have j7_0 := bl_cellR hb7 j6_0
  have j7_1 := bl_cellR hb7 j6_1
  have j7_2 := bl_cellR hb7 j6_2
  clear j6_0 j6_1 j6_2
  have d7_0 := bl_cellR hb7 d0
  have d7_1 := bl_cellR hb7 d1
  have d7_2 := bl_cellR hb7 d2
  clear d0 d1 d2
  clear HO6 HT6 HE6 HU6 hB6 hb7
  go_wp2_with fail
  refine (HTQ.out _ hB7).mono ?_
  rintro e w8 ⟨b8, rfl, hge8, hlt8, hE8, _, hb8⟩
  have HP8 : Hid (WsAt w8 b8 0 n E) := hE8
  clear hE8
  have hB8 : Below w1.heap.size w1 w8 := bl_then hB7 hb8
  have hs8 := hb8.size
  have HO8 : Hid (OwA w4.heap.size m R k Z w8 (.slice a3 m p3) (.slice a4 k p4)) := HO7.out.below hb8
  have HT8 : Hid (There w8 b4 (n * 5)) := HT7.out.below hb8
  have HE8 : Hid (WsAt w8 b4 0 n E) := HE7.out.below hb8 (by omega)
  have HU8 : Hid (UnA w2.heap.size m R k Z w8 (.slice a1 m p1) (.slice a2 k p2)) := HU7.out.below hb8 (by omega)
  have j8_0 := bl_cellR hb8 j7_0
  have j8_1 := bl_cellR hb8 j7_1
  have j8_2 := bl_cellR hb8 j7_2
  clear j7_0 j7_1 j7_2
  have d8_0 := bl_cellR hb8 d7_0
  have d8_1 := bl_cellR hb8 d7_1
  have d8_2 := bl_cellR hb8 d7_2
  clear d7_0 d7_1 d7_2
  clear HO7 HT7 HE7 HU7 hB7 hb8
  go_wp2_with fail
  refine (eqRequestS_any _ _ n _ _ E _ (.inr ⟨b4, 0, rfl, by omega, HE8.out⟩) (.inr ⟨b8, 0, rfl, hlt8, HP8.out⟩) hn).mono ?_
  rintro e w9 ⟨rfl, hb9⟩
  have hB9 : Below w1.heap.size w1 w9 := bl_then hB8 hb9
  have hs9 := hb9.size
  have HO9 : Hid (OwA w4.heap.size m R k Z w9 (.slice a3 m p3) (.slice a4 k p4)) := HO8.out.below hb9
  have HT9 : Hid (There w9 b4 (n * 5)) := HT8.out.below hb9
  have HE9 : Hid (WsAt w9 b4 0 n E) := HE8.out.below hb9 (by omega)
  have HU9 : Hid (UnA w2.heap.size m R k Z w9 (.slice a1 m p1) (.slice a2 k p2)) := HU8.out.below hb9 (by omega)
  have j9_0 := bl_cellR hb9 j8_0
  have j9_1 := bl_cellR hb9 j8_1
  have j9_2 := bl_cellR hb9 j8_2
  clear j8_0 j8_1 j8_2
  have d9_0 := bl_cellR hb9 d8_0
  have d9_1 := bl_cellR hb9 d8_1
  have d9_2 := bl_cellR hb9 d8_2
  clear d8_0 d8_1 d8_2
  clear HO8 HT8 HE8 HU8 hB8 hb9
  go_wp2_with fail
  refine (markRequestS_mk b4 n n 1 _ HT9.out hn (by omega)).mono ?_
  rintro e wa ⟨rfl, hGa, _, _⟩
  have hMa : MidB w2.heap.size w4.heap.size w9 wa := MidB.of_grown hGa hge4 hlt4
  have hK0 : ¬ ((1 + 5 * n : Nat) : Int) < 0 := by omega
  generalize ((1 + 5 * n : Nat) : Int) = KK at *
  have hs12 : w1.heap.size ≤ w2.heap.size := HS12.out
  have hsa := hMa.size
  have HOa : Hid (OwA w4.heap.size m R k Z wa (.slice a3 m p3) (.slice a4 k p4)) := HO9.out.mid hMa (by omega)
  have HUa : Hid (UnA w2.heap.size m R k Z wa (.slice a1 m p1) (.slice a2 k p2)) := HU9.out.mid hMa (by omega)
  have ja_0 := hMa.cell j9_0 (.inl (by omega))
  have ja_1 := hMa.cell j9_1 (.inl (by omega))
  have ja_2 := hMa.cell j9_2 (.inl (by omega))
  clear j9_0 j9_1 j9_2
  have da_0 := hMa.cell d9_0 (.inr (by omega))
  have da_1 := hMa.cell d9_1 (.inr (by omega))
  have da_2 := hMa.cell d9_2 (.inr (by omega))
  clear d9_0 d9_1 d9_2
  have hBa : Below w1.heap.size w1 wa := hB9.trans ((hMa.below (by omega)).mono (by omega))
  clear HO9 HT9 HE9 HU9 hB9 hMa
  clear hGa HP8
  go_wp2_with fail
  refine (eqA c m R k Z _ _ _ _ _ HOa.out.is (HUa.out.is (by omega)) hm hk).mono ?_
  rintro e wb ⟨rfl, hbb⟩
  have hBb : Below w1.heap.size w1 wb := bl_then hBa hbb
  have hsb := hbb.size
  have HOb : Hid (OwA w4.heap.size m R k Z wb (.slice a3 m p3) (.slice a4 k p4)) := HOa.out.below hbb
  have HUb : Hid (UnA w2.heap.size m R k Z wb (.slice a1 m p1) (.slice a2 k p2)) := HUa.out.below hbb (by omega)
  have jb_0 := bl_cellR hbb ja_0
  have jb_1 := bl_cellR hbb ja_1
  have jb_2 := bl_cellR hbb ja_2
  clear ja_0 ja_1 ja_2
  have db_0 := bl_cellR hbb da_0
  have db_1 := bl_cellR hbb da_1
  have db_2 := bl_cellR hbb da_2
  clear da_0 da_1 da_2
  clear HOa HUa hBa hbb
  go_wp2_with fail
  refine (markA c w4.heap.size w5.heap.size m R k Z _ _ _ w5 HOb.out HUI.out hm hk).mono ?_
  rintro e wc ⟨rfl, hMc, hKc⟩
  have HKc : Hid (MkA w4.heap.size m k wc (.slice a3 m p3) (.slice a4 k p4)) := hKc
  clear hKc
  clear HOb
  have hsc := hMc.size
  have HUc : Hid (UnA w2.heap.size m R k Z wc (.slice a1 m p1) (.slice a2 k p2)) := HUb.out.mid hMc (by omega)
  have jc_0 := hMc.cell jb_0 (.inl (by omega))
  have jc_1 := hMc.cell jb_1 (.inl (by omega))
  have jc_2 := hMc.cell jb_2 (.inl (by omega))
  clear jb_0 jb_1 jb_2
  have dc_0 := hMc.cell db_0 (.inr (by omega))
  have dc_1 := hMc.cell db_1 (.inr (by omega))
  have dc_2 := hMc.cell db_2 (.inr (by omega))
  clear db_0 db_1 db_2
  have hBc : Below w1.heap.size w1 wc := hBb.trans ((hMc.below (by omega)).mono (by omega))
  clear HUb hBb hMc
  have hqm : ¬ ((1 + 3 * m + 5 * k : Nat) : Int) < 0 := by omega
  have Hheld : Hid (∀ w, MkA w4.heap.size m k w (.slice a3 m p3) (.slice a4 k p4) → Calls Try.prog 25 #[rqV c (.slice a3 m p3) (.slice a4 k p4), .int .i64 1] w fun e w' => e = .returned (.int .i64 ((1 + 3 * m + 5 * k : Nat) : Int)) ∧ Below w.heap.size w w') := fun w h => heldA c _ m k _ _ w h hm hk
  generalize ((1 + 3 * m + 5 * k : Nat) : Int) = qm at *
  go_wp2_with fail
  refine (Hheld.out _ HKc.out).mono ?_
  rintro e wd ⟨rfl, hbd⟩
  have HKd : Hid (MkA w4.heap.size m k wd (.slice a3 m p3) (.slice a4 k p4)) := HKc.out.below hbd
  clear HKc
  have hBd : Below w1.heap.size w1 wd := bl_then hBc hbd
  have hsd := hbd.size
  have HUd : Hid (UnA w2.heap.size m R k Z wd (.slice a1 m p1) (.slice a2 k p2)) := HUc.out.below hbd (by omega)
  have jd_0 := bl_cellR hbd jc_0
  have jd_1 := bl_cellR hbd jc_1
  have jd_2 := bl_cellR hbd jc_2
  clear jc_0 jc_1 jc_2
  have dd_0 := bl_cellR hbd dc_0
  have dd_1 := bl_cellR hbd dc_1
  have dd_2 := bl_cellR hbd dc_2
  clear dc_0 dc_1 dc_2
  clear HUc hBc hbd
  have hB1d := hBd
  have hrg : Below w1.heap.size w1 wd := hB1d
  go_wp2_with fail
  refine (HTQ.out _ hrg).mono ?_
  rintro e wga ⟨bqg, rfl, _, hlg, hqg, _, hbga⟩
  go_wp2_with fail
  refine (Him.out _ _ hqg hlg).mono ?_
  rintro e wgb ⟨v1, v2, rfl, hOg, hbgb⟩
  obtain ⟨a5, p5, a6, p6, rfl, rfl, _, _⟩ := hOg.is
  have hIg := hOg.is
  have hBx : Below wd.heap.size wd wgb := bl_then hbga hbgb
  have jg0 := bl_cellR hBx jd_0
  have jg1 := bl_cellR hBx jd_1
  have jg2 := bl_cellR hBx jd_2
  have hlwg : bw < wgb.heap.size := World.block_lt_of_cell? _ _ jg0
  clear hbga hbgb hqg hlg hOg
  go_wp2_with fail
  generalize hwA : (World.alloc _ _ : World) = wf
  have hbA : Below wgb.heap.size wgb wf := by subst hwA; (repeat (first | exact Below.refl _ _ | assumption | refine Below.drew ?_ | refine bl_alloc ?_ _ | refine bl_then ?_ (by assumption) | refine Below.setCell ?_ (by first | omega | (simp; done) | (simp; omega)) _ | refine bl_store ?_ ?_ _ _))
  have g0 : wf.cell? ⟨wgb.heap.size, 0, none⟩ = some (.int .i64 c) := by subst hwA; simp [go_sem]
  have g1 : wf.cell? ⟨wgb.heap.size, 1, none⟩ = some (.slice a5 m p5) := by subst hwA; simp [go_sem]
  have g2 : wf.cell? ⟨wgb.heap.size, 2, none⟩ = some (.slice a6 k p6) := by subst hwA; simp [go_sem]
  clear hwA
  have hIx : IsA m R k Z wf (.slice a5 m p5) (.slice a6 k p6) := hIg.below hbA
  have hbx : wd.heap.size ≤ wgb.heap.size := hBx.size
  have hBy : Below wd.heap.size wd wf := bl_then hBx hbA
  generalize wgb.heap.size = bx at *
  clear hIg hBx hbA
  have HKf : Hid (MkA w4.heap.size m k wf (.slice a3 m p3) (.slice a4 k p4)) := HKd.out.below hBy
  have HJf : Hid (IsA m R k Z wf (.slice a5 m p5) (.slice a6 k p6)) := hIx
  clear HKd hIx
  have hBf : Below w1.heap.size w1 wf := bl_then hBd hBy
  have hsf := hBy.size
  have HUf : Hid (UnA w2.heap.size m R k Z wf (.slice a1 m p1) (.slice a2 k p2)) := HUd.out.below hBy (by omega)
  have jf_0 := bl_cellR hBy jd_0
  have jf_1 := bl_cellR hBy jd_1
  have jf_2 := bl_cellR hBy jd_2
  clear jd_0 jd_1 jd_2
  have df_0 := bl_cellR hBy dd_0
  have df_1 := bl_cellR hBy dd_1
  have df_2 := bl_cellR hBy dd_2
  clear dd_0 dd_1 dd_2
  clear HUd hBd hBy
  refine (eqA c m R k Z _ _ _ _ _ HJf.out (HUf.out.is (by omega)) hm hk).mono ?_
  rintro e wh ⟨rfl, hbh⟩
  have HKh : Hid (MkA w4.heap.size m k wh (.slice a3 m p3) (.slice a4 k p4)) := HKf.out.below hbh
  clear HKf HJf g0 g1 g2
  have hBh : Below w1.heap.size w1 wh := bl_then hBf hbh
  have hsh := hbh.size
  have HUh : Hid (UnA w2.heap.size m R k Z wh (.slice a1 m p1) (.slice a2 k p2)) := HUf.out.below hbh (by omega)
  have jh_0 := bl_cellR hbh jf_0
  have jh_1 := bl_cellR hbh jf_1
  have jh_2 := bl_cellR hbh jf_2
  clear jf_0 jf_1 jf_2
  have dh_0 := bl_cellR hbh df_0
  have dh_1 := bl_cellR hbh df_1
  have dh_2 := bl_cellR hbh df_2
  clear df_0 df_1 df_2
  clear HUf hBf hbh
  go_wp2_with fail
  refine (Hheld.out _ HKh.out).mono ?_
  rintro e wi ⟨rfl, hbi⟩
  have HBi : Hid (Below w.heap.size w wi) := bl_then hB1 (bl_then hBh hbi)
  clear hbi
  go_wp2
  go_ret
  exact ⟨rfl, HBi.out⟩
theorem rt_len (n : Nat) (E : Nat → Req) (now : Int) : (rtS n E now).length ≤ 8 ∧ (rtL n E now).length ≤ 8 := by
  by_cases h : retC n E now = 0
  · have h8 := reqsC_le (retC_zero h).1
    rw [(rtL_nw h).1]
    unfold rtS
    rw [if_pos h]
    exact ⟨Nat.le_trans (keptL_le _ _ _) h8, h8⟩
  · unfold rtS rtL
    rw [if_neg h, if_neg h]
    simp
theorem FnExactRetryAll_walk (a : Option Addr) (n cap : Nat) (E : Nat → Req) (now : Int) (w : World) (h : IsWs w a n E ∧ n ≤ cap ∧ cap ≤ maxLen) :
    Calls Try.prog 7 #[.slice a n cap, .int .i64 now] w fun e w' => e = .returned (.bool true) ∧ Below w.heap.size w w' := by
  refine FnExactRetryAll_law (retC n E now) a n cap E now (rtS n E now).length (rfsOf (rtS n E now)) (rtL n E now).length (nw (rtL n E now)) w h (Nat.le_trans (rt_len _ _ _).1 (by omega)) (Nat.le_trans (rt_len _ _ _).2 (by omega)) (fun hn b w hE hb => ?_) (fun hn b w hE hb => ?_)
  · exact spec_RetryAll_any ⟨b, 0, none⟩ n n E now w (.inr ⟨b, 0, rfl, hb, hE⟩) hn
  · exact (impl_RetryAll_any _ n n E now w (.inr ⟨b, 0, rfl, hb, hE⟩) hn (Nat.le_refl _)).mono fun e w' ⟨v1, v2, he, h1, h2, hb⟩ => ⟨v1, v2, he, RowS.ans h1 h2, hb⟩
end Go.Proofs.Ytfcbbfhfjojoeaa
