/- Several texts in one. -/
import Derived.Test.YtnlmndlchobfeaaVDoesCover35
import Derived.Test.YtnlmndlchobfeaaVDoesCover4
import Derived.Test.YtnlmndlchobfeaaVDoesCover36
import Derived.Deep.DeepCutAuto
import Derived.Test.YtnlmndlchobfeaaVDoesCover25

/- The model's copy of a feature. -/

namespace Go.Proofs.Ytnlmndlchobfeaa
open Go.RowKit
set_option linter.unusedSimpArgs false
set_option linter.unusedVariables false
set_option maxRecDepth 100000

theorem resC (T : Array Value) (Wf : World) (r : Nat) (v0 v1 v2 v3 v4 v5 v6 : Value) (hT : T[2]?.getD undef = .pointer (some ⟨r, 0, none⟩)) (h0 : Wf.cell? ⟨r, 0, none⟩ = some v0) (h1 : Wf.cell? ⟨r, 1, none⟩ = some v1) (h2 : Wf.cell? ⟨r, 2, none⟩ = some v2) (h3 : Wf.cell? ⟨r, 3, none⟩ = some v3) (h4 : Wf.cell? ⟨r, 4, none⟩ = some v4) (h5 : Wf.cell? ⟨r, 5, none⟩ = some v5) (h6 : Wf.cell? ⟨r, 6, none⟩ = some v6) :
    (results Try.f43 T).run Try.prog Wf = .ok (.agg #[v0, v1, v2, v3, v4, v5, v6]) Wf := by
  simp [results, Try.results43, go_sem, hT, h0, h1, h2, h3, h4, h5, h6]

set_option maxRecDepth 8000 in
set_option maxHeartbeats 4000000 in
theorem l2CopyOne_row {off : Nat} (id la ki wi : Int) (b n cap : Nat) (X Y : Nat → Int) (lab : ByteArray) (pr : Int) (w : World) (hp : PtsAt w b off n X Y) (hbl : b < w.heap.size) (hn : n ≤ 1048576) :
    Calls Try.prog 43 #[.agg #[.int .i64 id, .int .i64 la, .int .i64 ki, .int .i64 wi, .slice (some ⟨b, off, none⟩) n cap, .string lab, .int .i64 pr]] w fun e w' => ∃ a c, e = .returned (.agg #[.int .i64 id, .int .i64 la, .int .i64 ki, .int .i64 wi, .slice a n c, .string lab, .int .i64 pr]) ∧ Row (w.heap.size + 1 + 1) w' (.slice a n c) (ptsOf X Y (List.range n)) ∧ Below w.heap.size w w' := by
  obtain ⟨i0, hi, hz0, hz1, hz2⟩ := info_parts (show (Try.prog.info? 44).map (fun i => (i.zero, i.size, i.bytes)) = some (some (.agg #[.int .i64 0, .int .i64 0]), 2, 16) by kernel_rfl)
  have HP : Hid (PtsAt w b off n X Y) := hp
  have HLEN : Hid ((ptsOf X Y (List.range n)).length = n) := by show _ = _; simp [ptsOf]
  clear hp
  obtain ⟨W, hWd⟩ : ∃ W, W = (((w.alloc (.cells #[.int .i64 id, .int .i64 la, .int .i64 ki, .int .i64 wi, .slice (some ⟨b, off, none⟩) n cap, .string lab, .int .i64 pr] 29)).alloc (.cells #[.int .i64 0, .int .i64 0, .int .i64 0, .int .i64 0, .slice none 0 0, .string ⟨#[]⟩, .int .i64 0] 29)) : World) := ⟨_, rfl⟩
  have hB0 : Below w.heap.size w W := by subst hWd; (repeat (first | exact Below.refl _ _ | assumption | refine Below.drew ?_ | refine bl_alloc ?_ _ | refine bl_then ?_ (by assumption) | refine Below.setCell ?_ (by first | omega | (simp; done) | (simp; omega)) _ | refine bl_store ?_ ?_ _ _))
  have hO : OutAt W w.heap.size id la ki wi (.slice (some ⟨b, off, none⟩) n cap) lab pr := by
    subst hWd
    unfold OutAt
    rw [Below.heap_alloc _ _ _ (by simp)]
    exact heap_alloc_new w _
  have hT : There W (w.heap.size + 1) 7 := by
    subst hWd
    have := there7 (w.alloc (.cells #[.int .i64 id, .int .i64 la, .int .i64 ki, .int .i64 wi, .slice (some ⟨b, off, none⟩) n cap, .string lab, .int .i64 pr] 29)) (.int .i64 0) (.int .i64 0) (.int .i64 0) (.int .i64 0) (.slice none 0 0) (.string ⟨#[]⟩) (.int .i64 0) 29
    simpa using this
  have hsW : W.heap.size = w.heap.size + 2 := by subst hWd; simp
  have HB0 := (show Hid _ from hB0)
  have HO := (show Hid _ from hO)
  have HT : Hid (There W (w.heap.size + 1) 7) := hT
  have HSW := (show Hid _ from hsW)
  have HWD := (show Hid _ from hWd)
  clear hB0 hO hT hsW hWd
  go_enter Try.func43, Try.ntmps43
  go_wp2_with (first
    | (at_builtin; go_must (refine wpList_append_own _ rfl _ _ 27 rfl (w.heap.size + 1 + 1) 44 i0 (.agg #[.int .i64 0, .int .i64 0]) 2 16 Try.underlying27 hi hz0 hz1 hz2 rfl (by decide) (.slice (some ⟨w.heap.size + 1 + 1, 0, none⟩) 0 0) 0 [] rfl ?c6 ⟨b, off, none⟩ n cap (cellsL (ptsOf X Y (List.range n))) rfl ?c0 ?c1 ?c2 ?c3 ?c4 ?c5 ?_)))
  case c6 =>
    have := World.ownsRow_lit (base := w.heap.size + 1 + 1) (e := 44) (size := 2) W #[] 0 (by rw [HSW.out]; exact Nat.le_refl _) (Nat.zero_le _) rfl
    rw [HSW.out, HWD.out] at this
    exact this
  case c0 => rw [cellsL_len, HLEN.out]
  case c1 =>
    intro q u hq
    have hb : Below w.heap.size w (W.alloc (.cells #[] 44)) := bl_alloc HB0.out _
    rw [HWD.out] at hb
    have h1 := pts_cellsO (HP.out.below hb hbl) q u hq
    by_cases hq0 : q = 0
    · subst hq0; simpa [Addr.add] using h1
    · simpa [Addr.add, hq0] using h1
  case c2 =>
    intro u hu
    unfold cellsL at hu
    rw [List.mem_flatMap] at hu
    obtain ⟨p, _, hp⟩ := hu
    simp at hp
    rcases hp with rfl | rfl <;> rfl
  case c3 => unfold maxLen; omega
  case c4 => omega
  case c5 => first | omega | (simp; done) | (simp; omega)
  intro v' w2 hown' hgrow hnil
  clear hnil
  obtain ⟨a', c', hv'⟩ : ∃ a' c', v' = .slice a' n c' := by
    obtain ⟨_, h2 | ⟨g, cp, cur, hv, _⟩⟩ := hown'
    · exact ⟨none, 0, by have e := h2.2; have e2 : n = 0 := by omega
                         subst e2; exact h2.1⟩
    · exact ⟨_, cp, by rw [hv]⟩
  have HOWN : Hid (Row (w.heap.size + 1 + 1) w2 v' (ptsOf X Y (List.range n))) := by
    show Row _ _ _ _
    unfold Row
    rw [HLEN.out]
    simpa using hown'
  have hgb : Below (w.heap.size + 1 + 1) (W.alloc (.cells #[] 44)) w2 := by
    rw [HWD.out]
    exact (Below.refl _ _).grown hgrow (by simp) (fun k hk => by simp [Value.ownBlock] at hk; omega)
  have hWa : Below W.heap.size W (W.alloc (.cells #[] 44)) := (Below.refl _ _).alloc (Nat.le_refl _) _
  have hW2 : Below (w.heap.size + 2) W w2 := (hWa.mono (by rw [HSW.out]; exact Nat.le_refl _)).trans hgb
  have hO2 : OutAt w2 w.heap.size id la ki wi (.slice (some ⟨b, off, none⟩) n cap) lab pr := (hW2.block _ (by omega)).trans HO.out
  have hT2 : There w2 (w.heap.size + 1) 7 := There.belowB' HT.out hW2 (by omega)
  have hB2 : Below w.heap.size w w2 := HB0.out.trans (hW2.mono (by omega))
  have hs2 : w.heap.size + 2 < w2.heap.size ∨ True := .inr trivial
  obtain ⟨⟨u0, u1, u2, u3, u4, u5, u6⟩, f4⟩ := hO2.cells
  have hlw := hO2.lt
  have t0 := hT2.cell 0 (by omega)
  have t1 := hT2.cell 1 (by omega)
  have t2 := hT2.cell 2 (by omega)
  have t3 := hT2.cell 3 (by omega)
  have t4 := hT2.cell 4 (by omega)
  have t5 := hT2.cell 5 (by omega)
  have t6 := hT2.cell 6 (by omega)
  have z0 := (hT2 0 (by omega)).2
  have z1 := (hT2 1 (by omega)).2
  have z2 := (hT2 2 (by omega)).2
  have z3 := (hT2 3 (by omega)).2
  have z4 := (hT2 4 (by omega)).2
  have z5 := (hT2 5 (by omega)).2
  have z6 := (hT2 6 (by omega)).2
  have HT9 : Hid (There (w2.setCell ⟨w.heap.size, 4, none⟩ v') (w.heap.size + 1) 7) := There.out hT2 (by omega)
  have HB9 : Hid (Below w.heap.size w w2) := hB2
  subst hv'
  clear hown' hgrow hgb hWa hW2 hO2 hT2 hB2 hs2
  go_wp2_with fail
  obtain ⟨y0, y1, y2, y3, y4, y5, y6⟩ := set7_at (v0 := .int .i64 id) (v1 := .int .i64 la) (v2 := .int .i64 ki) (v3 := .int .i64 wi) (v4 := .slice a' n c') (v5 := .string lab) (v6 := .int .i64 pr) HT9.out
  exact bodyPost_ret (resC _ _ (w.heap.size + 1) _ _ _ _ _ _ _ rfl y0 y1 y2 y3 y4 y5 y6) rfl ⟨a', c', rfl, ((((((((HOWN.out.setB (by omega)).setB (by omega)).setB (by omega)).setB (by omega)).setB (by omega)).setB (by omega)).setB (by omega)).setB (by omega)), below7 (HB9.out.setCell (Nat.le_refl _) _) (Nat.le_succ _)⟩
theorem l2CopyOne_any {off : Nat} (id la ki wi : Int) (b n cap : Nat) (X Y : Nat → Int) (lab : ByteArray) (pr : Int) (w : World) (hp : PtsAt w b off n X Y) (hbl : b < w.heap.size) (hn : n ≤ 1048576) :
    Calls Try.prog 43 #[.agg #[.int .i64 id, .int .i64 la, .int .i64 ki, .int .i64 wi, .slice (some ⟨b, off, none⟩) n cap, .string lab, .int .i64 pr]] w fun e w' => ∃ a m c, e = .returned (.agg #[.int .i64 id, .int .i64 la, .int .i64 ki, .int .i64 wi, .slice a m c, .string lab, .int .i64 pr]) ∧ Below w.heap.size w w' :=
  (l2CopyOne_row id la ki wi b n cap X Y lab pr w hp hbl hn).mono fun e w' ⟨a, c, he, _, hb⟩ => ⟨a, n, c, he, hb⟩
end Go.Proofs.Ytnlmndlchobfeaa
/- The model's farthest point. -/

namespace Go.Proofs.Ytnlmndlchobfeaa
open Go.RowKit
set_option linter.unusedSimpArgs false
set_option linter.unusedVariables false

set_option maxRecDepth 8000 in
set_option maxHeartbeats 4000000 in
theorem l3Farthest_any (b n cap f t : Nat) (X Y : Nat → Int) (w : World) (hp : PtsAt w b 0 n X Y) (hbl : b < w.heap.size) (hn : n ≤ 40) (hft : f + 1 < t) (htn : t < n) (hok : ∀ i, i < n → okP (X i) (Y i) = true) :
    Calls Try.prog 82 #[.slice (some ⟨b, 0, none⟩) n cap, .int .i64 (f : Int), .int .i64 (t : Int)] w fun e w' => ∃ m : Nat, e = .returned (.int .i64 (m : Int)) ∧ Far X Y f t (f + 1) t m ∧ Below w.heap.size w w' := by
  have HP : Hid (PtsAt w b 0 n X Y) := hp
  have HOK : Hid (∀ i, i < n → okP (X i) (Y i) = true) := hok
  have cm : ∀ i, i < n → ∀ W', Below w.heap.size w W' → W'.cell? ⟨b, i * 2, none⟩ = some (.int .i64 (X i)) ∧ W'.cell? ⟨b, i * 2 + 1, none⟩ = some (.int .i64 (Y i)) := fun i hi W' h => by
    have := (HP.out.below h hbl) i hi
    simpa using this
  have HCM : Hid _ := cm
  clear hp hok
  obtain ⟨k, hk⟩ : ∃ k, k = f + 1 := ⟨_, rfl⟩
  have hki : (f : Int) + 1 = (k : Int) := by omega
  have HK : Hid (k = f + 1) := hk
  have k0 : (0 : Int) ≤ (k : Int) := by omega
  have k1 : (k : Int) < (n : Int) := by omega
  have f0 : (0 : Int) ≤ (f : Int) := by omega
  have f1 : (f : Int) < (n : Int) := by omega
  have t0 : (0 : Int) ≤ (t : Int) := by omega
  have t1 : (t : Int) < (n : Int) := by omega
  have hkn : k < n := by omega
  have ck0 : ∀ W', Below w.heap.size w W' → W'.cell? ⟨b, k * 2, none⟩ = some (.int .i64 (X k)) := fun W' h => (cm k hkn W' h).1
  have ck1 : ∀ W', Below w.heap.size w W' → W'.cell? ⟨b, k * 2 + 1, none⟩ = some (.int .i64 (Y k)) := fun W' h => (cm k hkn W' h).2
  have cf0 : ∀ W', Below w.heap.size w W' → W'.cell? ⟨b, f * 2, none⟩ = some (.int .i64 (X f)) := fun W' h => (cm f (by omega) W' h).1
  have cf1 : ∀ W', Below w.heap.size w W' → W'.cell? ⟨b, f * 2 + 1, none⟩ = some (.int .i64 (Y f)) := fun W' h => (cm f (by omega) W' h).2
  have ct0 : ∀ W', Below w.heap.size w W' → W'.cell? ⟨b, t * 2, none⟩ = some (.int .i64 (X t)) := fun W' h => (cm t htn W' h).1
  have ct1 : ∀ W', Below w.heap.size w W' → W'.cell? ⟨b, t * 2 + 1, none⟩ = some (.int .i64 (Y t)) := fun W' h => (cm t htn W' h).2
  have hr : Below w.heap.size w w := Below.refl _ _
  clear cm hk
  go_enter Try.func82, Try.ntmps82
  go_wp2_with fail
  have HO3 : Hid (okP (X k) (Y k) = true ∧ okP (X f) (Y f) = true ∧ okP (X t) (Y t) = true) := ⟨HOK.out k hkn, HOK.out f (by omega), HOK.out t htn⟩
  go_cut [8, 9] (fun u d wc => u = .int .i64 (gO X Y f t k) ∧ d = .int .i64 (gU X Y f t k) ∧ Below w.heap.size w wc)
  case first =>
    go_region_held3 (fun W' => Below w.heap.size w W') ((repeat (first | exact Below.refl _ _ | assumption | refine Below.drew ?_ | refine bl_alloc ?_ _ | refine bl_then ?_ (by assumption) | refine Below.setCell ?_ (by first | omega | (simp; done) | (simp; omega)) _ | refine bl_store ?_ ?_ _ _)))
      (first | (go_at_call 87; refine (l3Far_any _ _ _ _ _ _ _ HO3.out.1 HO3.out.2.1 HO3.out.2.2).mono ?_; rintro e w' ⟨rfl, hb⟩))
    go_wp2_with fail
    go_meet
    case rel => exact ⟨rfl, rfl, by assumption⟩
  case rest =>
    obtain ⟨rfl, rfl, hbc⟩ := hcut
    have HBc : Hid (Below w.heap.size w wc) := hbc
    clear hbc
    generalize wc = wA at *
    go_wp2_with fail
    go_loopw [7, 8, 9, 10] (fun s7 s8 s9 s10 wr => ∃ i q : Nat, f + 2 ≤ i ∧ i ≤ t ∧ s10 = .int .i64 (i : Int) ∧ s7 = .int .i64 (q : Int) ∧ s8 = .int .i64 (gO X Y f t q) ∧ s9 = .int .i64 (gU X Y f t q) ∧ Far X Y f t (f + 1) i q ∧ Below w.heap.size w wr) (fun _ _ _ s10 _ => t - (intOf s10).toNat)
    case atStart =>
      have e := HK.out
      refine ⟨f + 2, k, by omega, by omega, by go_num, rfl, rfl, rfl, ?_, HBc.out⟩
      rw [e]
      exact Far.one X Y f t (f + 1)
    case round =>
      obtain ⟨i, q, hi2, hit, rfl, rfl, rfl, rfl, hF, hB⟩ := hrel
      have HF : Hid (Far X Y f t (f + 1) i q) := hF
      have HB : Hid (Below w.heap.size w wr) := hB
      have hqi : q < i := hF.hi
      clear hF hB ck0 ck1
      by_cases hlt : i < t
      · have hii : (i : Int) < (t : Int) := by omega
        have hin : i < n := by omega
        have i0 : (0 : Int) ≤ (i : Int) := by omega
        have i1 : (i : Int) < (n : Int) := by omega
        have ci0 : ∀ W', Below wr.heap.size wr W' → W'.cell? ⟨b, i * 2, none⟩ = some (.int .i64 (X i)) := fun W' h => (HCM.out i hin W' (bl_then HB.out h)).1
        have ci1 : ∀ W', Below wr.heap.size wr W' → W'.cell? ⟨b, i * 2 + 1, none⟩ = some (.int .i64 (Y i)) := fun W' h => (HCM.out i hin W' (bl_then HB.out h)).2
        have cg0 : ∀ W', Below wr.heap.size wr W' → W'.cell? ⟨b, f * 2, none⟩ = some (.int .i64 (X f)) := fun W' h => cf0 W' (bl_then HB.out h)
        have cg1 : ∀ W', Below wr.heap.size wr W' → W'.cell? ⟨b, f * 2 + 1, none⟩ = some (.int .i64 (Y f)) := fun W' h => cf1 W' (bl_then HB.out h)
        have cu0 : ∀ W', Below wr.heap.size wr W' → W'.cell? ⟨b, t * 2, none⟩ = some (.int .i64 (X t)) := fun W' h => ct0 W' (bl_then HB.out h)
        have cu1 : ∀ W', Below wr.heap.size wr W' → W'.cell? ⟨b, t * 2 + 1, none⟩ = some (.int .i64 (Y t)) := fun W' h => ct1 W' (bl_then HB.out h)
        have hrr : Below wr.heap.size wr wr := Below.refl _ _
        have HOi : Hid (okP (X i) (Y i) = true) := HOK.out i hin
        obtain ⟨a1, a2, a3, a4⟩ := gO_bd X Y (f := f) (t := t) (i := i) HO3.out.2.1 HO3.out.2.2 HOi.out
        obtain ⟨e1, e2, e3, e4⟩ := gO_bd X Y (f := f) (t := t) (i := q) HO3.out.2.1 HO3.out.2.2 (HOK.out q (by omega))
        clear cf0 cf1 ct0 ct1
        go_wp2_with fail
        go_cut [11, 12] (fun u d wc => u = .int .i64 (gO X Y f t i) ∧ d = .int .i64 (gU X Y f t i) ∧ Below wr.heap.size wr wc)
        case first =>
          go_region_held3 (fun W' => Below wr.heap.size wr W') ((repeat (first | exact Below.refl _ _ | assumption | refine Below.drew ?_ | refine bl_alloc ?_ _ | refine bl_then ?_ (by assumption) | refine Below.setCell ?_ (by first | omega | (simp; done) | (simp; omega)) _ | refine bl_store ?_ ?_ _ _)))
            (first | (go_at_call 87; refine (l3Far_any _ _ _ _ _ _ _ HOi.out HO3.out.2.1 HO3.out.2.2).mono ?_; rintro e w' ⟨rfl, hb⟩))
          go_wp2_with fail
          go_meet
          case rel => exact ⟨rfl, rfl, by assumption⟩
        case rest =>
          obtain ⟨rfl, rfl, hbd⟩ := hcut
          have HB2 : Hid (Below w.heap.size w wc) := bl_then HB.out hbd
          clear hbd ci0 ci1 cg0 cg1 cu0 cu1 hrr
          go_wp2_with fail
          refine (l3More_any _ _ _ _ _ a1 a2 a3 a4 e1 e2 e3 e4).mono ?_
          rintro e w3 ⟨rfl, hb3⟩
          have HB3 : Hid (Below w.heap.size w w3) := bl_then HB2.out hb3
          clear hb3
          have hga : aboveB (gO X Y f t i) (gU X Y f t i) (gO X Y f t q) (gU X Y f t q) = gA X Y f t i q := rfl
          rw [hga]
          clear hga
          cases hg : gA X Y f t i q
          · have HF2 : Hid (Far X Y f t (f + 1) (i + 1) q) := by
              show Far _ _ _ _ _ _ _
              have := HF.out.step X Y
              rw [hg] at this
              simpa using this
            clear a1 a2 a3 a4 e1 e2 e3 e4 hg
            go_wp2_with fail
            go_roundw
            case rel => exact ⟨i + 1, q, by omega, by omega, by go_num, rfl, rfl, rfl, HF2.out, HB3.out⟩
            case measure => simp [intOf]; omega
          · have HF2 : Hid (Far X Y f t (f + 1) (i + 1) i) := by
              show Far _ _ _ _ _ _ _
              have := HF.out.step X Y
              rw [hg] at this
              simpa using this
            clear a1 a2 a3 a4 e1 e2 e3 e4 hg
            go_wp2_with fail
            go_roundw
            case rel => exact ⟨i + 1, i, by omega, by omega, by go_num, rfl, rfl, rfl, HF2.out, HB3.out⟩
            case measure => simp [intOf]; omega
      · have hie : i = t := by omega
        subst hie
        go_wp2
        go_ret
        exact ⟨q, rfl, HF.out, HB.out⟩
end Go.Proofs.Ytnlmndlchobfeaa
