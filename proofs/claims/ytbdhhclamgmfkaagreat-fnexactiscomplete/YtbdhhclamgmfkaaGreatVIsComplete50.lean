/- Several texts in one. -/
import Derived.Test.YtbdhhclamgmfkaaGreatVIsComplete49
import Derived.Test.YtbdhhclamgmfkaaGreatVIsComplete47

/- The laws of CacheFault, HasTile and NearestIn return true at every cache and every ref. -/

namespace Go.Proofs.YtbdhhclamgmfkaaGreat
open Go.RowKit
set_option linter.unusedSimpArgs false
set_option linter.unusedVariables false
set_option maxRecDepth 100000

theorem KpOwn.feats {w : World} {B : Nat} {k a : Kp} (h : KpOwn w B k a) : ∀ i, i < k.fn → (a.F i).same (k.F i) := by
  obtain ⟨_, ⟨fb, _, _, _, ho⟩, _⟩ := h
  exact fun i hi => (ho.2.2.2 i hi).1
theorem KpOwn.rt {w : World} {B : Nat} {k a : Kp} (h : KpOwn w B k a) : rtC a.z a.x a.y a.fn a.F = rtC k.z k.x k.y k.fn k.F ∧ rtL a.z a.x a.y a.fn a.F = rtL k.z k.x k.y k.fn k.F := by
  have hf := h.feats
  obtain ⟨⟨e1, e2, e3⟩, ⟨fb, _, e4, _⟩, _⟩ := h
  rw [e1, e2, e3, e4]
  exact rt_same hf
theorem KpOwn.tC {w : World} {B : Nat} {k a : Kp} (h : KpOwn w B k a) : Go.Proofs.YtbdhhclamgmfkaaGreat.tC a = Go.Proofs.YtbdhhclamgmfkaaGreat.tC k := by
  obtain ⟨r1, r2⟩ := h.rt
  obtain ⟨_, _, ib, _, e5, _, e7, _⟩ := h
  unfold Go.Proofs.YtbdhhclamgmfkaaGreat.tC
  rw [r1, r2, e5, e7]
theorem KpOwn.small {w : World} {B : Nat} {k a : Kp} (h : KpOwn w B k a) (hs : SmallK k) : SmallK a := by
  have hf := h.feats
  obtain ⟨_, ⟨fb, _, e4, _⟩, ib, _, e5, _⟩ := h
  refine ⟨⟨by rw [e4]; exact hs.1.1, fun i hi => ?_⟩, by rw [e5]; exact hs.2⟩
  rw [e4] at hi
  obtain ⟨_, _, _, _, f5, _, _, f8, _⟩ := hf i hi
  rw [f5, f8]
  exact hs.1.2 i hi
theorem OwnKs.small {w : World} {B b n : Nat} {K A : Nat → Kp} (h : OwnKs w B b n K A) (hs : SmallKs n K) : SmallKs n A := ⟨hs.1, fun i hi => (h.2.2 i hi).2.small (hs.2 i hi)⟩
theorem OwnKs.caps {w : World} {B b n : Nat} {K A : Nat → Kp} (h : OwnKs w B b n K A) : ∀ i, i < n → (A i).fn ≤ (A i).fc := fun i hi => by
  obtain ⟨_, ⟨fb, _, e4, e6, _⟩, _⟩ := (h.2.2 i hi).2
  rw [e4, e6]; exact Nat.le_refl _
theorem OwnKs.ref {w : World} {B b n : Nat} {K A : Nat → Kp} (h : OwnKs w B b n K A) {i : Nat} (hi : i < n) : (A i).z = (K i).z ∧ (A i).x = (K i).x ∧ (A i).y = (K i).y := (h.2.2 i hi).2.1
theorem OwnKs.atK {w : World} {B b n : Nat} {K A : Nat → Kp} (h : OwnKs w B b n K A) (z x y : Int) : ∀ m, m ≤ n → Go.Proofs.YtbdhhclamgmfkaaGreat.atK m A z x y = Go.Proofs.YtbdhhclamgmfkaaGreat.atK m K z x y := fun m hm => by
  have e : ∀ i, i < m → isK (A i) z x y = isK (K i) z x y := fun i hi => by
    obtain ⟨e1, e2, e3⟩ := h.ref (show i < n by omega)
    unfold isK; rw [e1, e2, e3]
  unfold Go.Proofs.YtbdhhclamgmfkaaGreat.atK
  rcases firstI_or (fun i => isK (A i) z x y) m with ⟨h1, h2⟩ | ⟨i, hi, hg, hf, hn⟩
  · rw [h1]
    exact (firstI_no (fun i hi => (e i hi).symm.trans (h2 i hi))).symm
  · rw [hf]
    exact (firstI_yes hi ((e i hi).symm.trans hg) (fun j hj => (e j (by omega)).symm.trans (hn j hj))).symm
theorem OwnKs.kC {w : World} {B b n : Nat} {K A : Nat → Kp} (h : OwnKs w B b n K A) : ∀ i, i < n → Go.Proofs.YtbdhhclamgmfkaaGreat.kC A i = Go.Proofs.YtbdhhclamgmfkaaGreat.kC K i := fun i hi => by
  obtain ⟨e1, e2, e3⟩ := h.ref hi
  unfold Go.Proofs.YtbdhhclamgmfkaaGreat.kC
  rw [(h.2.2 i hi).2.tC, e1, e2, e3, h.atK _ _ _ i (by omega)]
theorem OwnKs.cacheC {w : World} {B b n : Nat} {K A : Nat → Kp} (h : OwnKs w B b n K A) (s : Int) : Go.Proofs.YtbdhhclamgmfkaaGreat.cacheC s n A = Go.Proofs.YtbdhhclamgmfkaaGreat.cacheC s n K := by
  have e : scanC (Go.Proofs.YtbdhhclamgmfkaaGreat.kC A) 0 n = scanC (Go.Proofs.YtbdhhclamgmfkaaGreat.kC K) 0 n := by
    by_cases hall : ∀ j, j < n → Go.Proofs.YtbdhhclamgmfkaaGreat.kC K j = 0
    · rw [scan_none _ _ _ (fun j _ hj => hall j (by omega)), scan_none _ _ _ (fun j _ hj => (h.kC j (by omega)).trans (hall j (by omega)))]
    · obtain ⟨k, hk, hne, hno⟩ : ∃ k, k < n ∧ Go.Proofs.YtbdhhclamgmfkaaGreat.kC K k ≠ 0 ∧ ∀ l, l < k → Go.Proofs.YtbdhhclamgmfkaaGreat.kC K l = 0 := by
        have : ∀ m, (∃ i, i < m ∧ Go.Proofs.YtbdhhclamgmfkaaGreat.kC K i ≠ 0) → ∃ i, i < m ∧ Go.Proofs.YtbdhhclamgmfkaaGreat.kC K i ≠ 0 ∧ ∀ l, l < i → Go.Proofs.YtbdhhclamgmfkaaGreat.kC K l = 0 := by
          intro m
          induction m with
          | zero => rintro ⟨i, hi, _⟩; omega
          | succ m ih =>
            rintro ⟨i, hi, h⟩
            by_cases hx : ∃ i, i < m ∧ Go.Proofs.YtbdhhclamgmfkaaGreat.kC K i ≠ 0
            · obtain ⟨i, h1, h2⟩ := ih hx; exact ⟨i, by omega, h2⟩
            · refine ⟨i, hi, h, fun l hl => ?_⟩
              by_cases e : Go.Proofs.YtbdhhclamgmfkaaGreat.kC K l = 0
              · exact e
              · exact absurd ⟨l, by omega, e⟩ hx
        refine this n ?_
        by_cases hx : ∃ i, i < n ∧ Go.Proofs.YtbdhhclamgmfkaaGreat.kC K i ≠ 0
        · exact hx
        · exact absurd (fun j hj => by
            by_cases e : Go.Proofs.YtbdhhclamgmfkaaGreat.kC K j = 0
            · exact e
            · exact absurd ⟨j, hj, e⟩ hx) hall
      rw [scan_first (Go.Proofs.YtbdhhclamgmfkaaGreat.kC K) n 0 k (fun l _ hl => hno l hl) (by omega) (by omega) hne,
        scan_first (Go.Proofs.YtbdhhclamgmfkaaGreat.kC A) n 0 k (fun l _ hl => (h.kC l (by omega)).trans (hno l hl)) (by omega) (by omega) (by rw [h.kC k hk]; exact hne), h.kC k hk]
  unfold Go.Proofs.YtbdhhclamgmfkaaGreat.cacheC
  rw [e]
end Go.Proofs.YtbdhhclamgmfkaaGreat
/- The law of ViewerFault returns true at every viewer. -/

namespace Go.Proofs.YtbdhhclamgmfkaaGreat
open Go.RowKit
set_option linter.unusedSimpArgs false
set_option linter.unusedVariables false
set_option maxRecDepth 100000

theorem OwnKs.viewC {w : World} {B b n : Nat} {K A : Nat → Kp} (h : OwnKs w B b n K A) (z x y wd ht now s : Int) (rn : Nat) (E : Nat → Req) (bad : Int) : Go.Proofs.YtbdhhclamgmfkaaGreat.viewC z x y wd ht now s n A rn E bad = Go.Proofs.YtbdhhclamgmfkaaGreat.viewC z x y wd ht now s n K rn E bad := by
  have e : strC z x y wd ht n A E = strC z x y wd ht n K E := by
    funext i
    unfold strC
    rw [h.atK _ _ _ n (Nat.le_refl _)]
  unfold Go.Proofs.YtbdhhclamgmfkaaGreat.viewC
  rw [h.cacheC, e]
end Go.Proofs.YtbdhhclamgmfkaaGreat
/- The law of IsComplete returns true at every viewer. -/

namespace Go.Proofs.YtbdhhclamgmfkaaGreat
open Go.RowKit
set_option linter.unusedSimpArgs false
set_option linter.unusedVariables false
set_option maxRecDepth 100000

theorem OwnKs.misL {w : World} {B b n : Nat} {K A : Nat → Kp} (h : OwnKs w B b n K A) (R : Rfs) : ∀ k, Go.Proofs.YtbdhhclamgmfkaaGreat.misL n A R k = Go.Proofs.YtbdhhclamgmfkaaGreat.misL n K R k
  | 0 => rfl
  | k + 1 => by
    rw [Go.Proofs.YtbdhhclamgmfkaaGreat.misL, Go.Proofs.YtbdhhclamgmfkaaGreat.misL, h.atK _ _ _ n (Nat.le_refl _), OwnKs.misL h R k]
theorem OwnKs.cmpV {w : World} {B b n : Nat} {K A : Nat → Kp} (h : OwnKs w B b n K A) (z x y wd ht now s : Int) (rn : Nat) (E : Nat → Req) (bad : Int) : Go.Proofs.YtbdhhclamgmfkaaGreat.cmpV z x y wd ht now s n A rn E bad = Go.Proofs.YtbdhhclamgmfkaaGreat.cmpV z x y wd ht now s n K rn E bad := by
  unfold Go.Proofs.YtbdhhclamgmfkaaGreat.cmpV
  rw [h.viewC, h.misL]
set_option maxHeartbeats 8000000 in
theorem FnExactIsComplete_walk (z x y wd ht now s : Int) (a : Option Addr) (n cap : Nat) (K : Nat → Kp) (ra : Option Addr) (rn rc : Nat) (E : Nat → Req) (bad : Int) (w : World) (h : (IsKs w a n K ∧ CameKs n K) ∧ IsWs w ra rn E ∧ rn ≤ rc ∧ rc ≤ maxLen) :
    Calls Tryz.prog 4 #[vwV z x y wd ht now s (.slice a n cap) (.slice ra rn rc) bad] w fun e w' => e = .returned (.bool true) ∧ Below w.heap.size w w' := by
  obtain ⟨⟨hf, hc⟩, hr, hrc, hrm⟩ := h
  have HI : Hid (IsKs w a n K) := hf
  have HC : Hid (CameKs n K) := hc
  have HRq : Hid (IsWs w ra rn E) := hr
  have hrl : rn ≤ maxLen := Nat.le_trans hrc hrm
  clear hf hc hr hrc hrm
  obtain ⟨RC, hRC⟩ : ∃ RC, cmpV z x y wd ht now s n K rn E bad = RC := ⟨_, rfl⟩
  have Hspec : Hid (SmallKs n K → rn ≤ 1048576 → ∀ (W : World) (b rb : Nat) (A : Nat → Kp), OwnV W b n K A rb rn E → Calls Tryz.prog 15 #[vwV z x y wd ht now s (.slice (some ⟨b, 0, none⟩) n n) (.slice (some ⟨rb, 0, none⟩) rn rn) bad] W fun e w' => e = .returned (.bool RC) ∧ Below W.heap.size W w') := fun hS hn W b rb A hO => by
    have := spec_IsComplete_any z x y wd ht now s b n n A (some ⟨rb, 0, none⟩) rn rn E bad W hO.1.ko (hO.1.small hS) (.inr ⟨rb, 0, rfl, hO.2.1, hO.2.2⟩) hn
    rw [hO.1.cmpV, hRC] at this
    exact this
  have Himpl : Hid (SmallKs n K → rn ≤ 1048576 → ∀ (W : World) (b rb : Nat) (A : Nat → Kp), OwnV W b n K A rb rn E → Calls Tryz.prog 16 #[vwV z x y wd ht now s (.slice (some ⟨b, 0, none⟩) n n) (.slice (some ⟨rb, 0, none⟩) rn rn) bad] W fun e w' => e = .returned (.bool RC) ∧ Below W.heap.size W w') := fun hS hn W b rb A hO => by
    have := impl_IsComplete_any z x y wd ht now s b n n A (some ⟨rb, 0, none⟩) rn rn E bad W hO.1.ko (hO.1.small hS) hO.1.caps (Nat.le_refl _) (.inr ⟨rb, 0, rfl, hO.2.1, hO.2.2⟩) hn (Nat.le_refl _)
    rw [hO.1.cmpV, hRC] at this
    exact this
  clear hRC
  go_enter Tryz.func4, Tryz.ntmps4
  go_wp2_with fail
  generalize hW : (w.alloc _ : World) = W
  have HB0 : Hid (Below w.heap.size w W) := by show Below _ _ _; subst hW; (repeat (first | exact Below.refl _ _ | assumption | refine Below.drew ?_ | refine bl_alloc ?_ _ | refine bl_then ?_ (by assumption) | refine Below.setCell ?_ (by first | omega | (simp; done) | (simp; omega)) _ | refine bl_store ?_ ?_ _ _))
  have HV : Hid (Blk W w.heap.size [.int .i64 z, .int .i64 x, .int .i64 y, .int .i64 wd, .int .i64 ht, .int .i64 now, .int .i64 s, .slice a n cap, .slice ra rn rc, .int .i64 bad]) := by show Blk _ _ _; subst hW; exact Blk.new _ _ _
  have hvl : w.heap.size < W.heap.size := HV.out.lt
  clear hW
  refine (szViewer_any z x y wd ht now s a n cap K ra rn rc bad W (HI.out.below HB0.out) HC.out hrl).mono ?_
  rintro e w1 ⟨rfl | ⟨m, hS, hrn, rfl⟩, hb1⟩
  · have HB1 : Hid (Below w.heap.size w w1) := bl_then HB0.out hb1
    clear hb1 Hspec Himpl
    go_wp2
    go_ret
    exact ⟨rfl, HB1.out⟩
  have HS : Hid (SmallKs n K) := hS
  have hneg : ¬ ((m : Nat) : Int) < 0 := by omega
  have Hsp : Hid (∀ (W : World) (b rb : Nat) (A : Nat → Kp), OwnV W b n K A rb rn E → Calls Tryz.prog 15 #[vwV z x y wd ht now s (.slice (some ⟨b, 0, none⟩) n n) (.slice (some ⟨rb, 0, none⟩) rn rn) bad] W fun e w' => e = .returned (.bool RC) ∧ Below W.heap.size W w') := Hspec.out hS hrn
  have Him : Hid (∀ (W : World) (b rb : Nat) (A : Nat → Kp), OwnV W b n K A rb rn E → Calls Tryz.prog 16 #[vwV z x y wd ht now s (.slice (some ⟨b, 0, none⟩) n n) (.slice (some ⟨rb, 0, none⟩) rn rn) bad] W fun e w' => e = .returned (.bool RC) ∧ Below W.heap.size W w') := Himpl.out hS hrn
  have HBw : Hid (Below w.heap.size w w1) := bl_then HB0.out hb1
  have HTo : Hid (∀ W', Below w1.heap.size w1 W' → Calls Tryz.prog 8 #[vwV z x y wd ht now s (.slice a n cap) (.slice ra rn rc) bad] W' fun e w' => ∃ b A rb, e = .returned (vwV z x y wd ht now s (.slice (some ⟨b, 0, none⟩) n n) (.slice (some ⟨rb, 0, none⟩) rn rn) bad) ∧ W'.heap.size ≤ b ∧ W'.heap.size ≤ rb ∧ OwnV w' b n K A rb rn E ∧ Below W'.heap.size W' w') := fun W' h => toViewer_any z x y wd ht now s a n cap K ra rn rc E bad W' (HI.out.below (bl_then HBw.out h)) HS.out (HRq.out.below (bl_then HBw.out h)) hrn
  have HEq : Hid (∀ (W : World) (b b' rb rb' : Nat) (A H : Nat → Kp), OwnV W b n K A rb rn E → OwnV W b' n K H rb' rn E → Calls Tryz.prog 11 #[vwV z x y wd ht now s (.slice (some ⟨b, 0, none⟩) n n) (.slice (some ⟨rb, 0, none⟩) rn rn) bad, vwV z x y wd ht now s (.slice (some ⟨b', 0, none⟩) n n) (.slice (some ⟨rb', 0, none⟩) rn rn) bad] W fun e w' => e = .returned (.bool true) ∧ Below W.heap.size W w') := fun W b b' rb rb' A H h1 h2 => eqViewer_any z x y wd ht now s n rn b b' rb rb' K A H E bad W h1 h2 HS.out hrn
  have HV1 : Hid (∀ W', Below w1.heap.size w1 W' → Blk W' w.heap.size [.int .i64 z, .int .i64 x, .int .i64 y, .int .i64 wd, .int .i64 ht, .int .i64 now, .int .i64 s, .slice a n cap, .slice ra rn rc, .int .i64 bad]) := fun W' h => HV.out.below hvl (bl_then hb1 h)
  have hv1 := HV1.out w1 (Below.refl _ _)
  have d0 := hv1.cell 0 rfl
  have d1 := hv1.cell 1 rfl
  have d2 := hv1.cell 2 rfl
  have d3 := hv1.cell 3 rfl
  have d4 := hv1.cell 4 rfl
  have d5 := hv1.cell 5 rfl
  have d6 := hv1.cell 6 rfl
  have d7 := hv1.cell 7 rfl
  have d8 := hv1.cell 8 rfl
  have d9 := hv1.cell 9 rfl
  clear hS hb1 Hspec Himpl HI HC HRq HB0 HV hv1
  go_wp2_with fail
  refine Calls.mono (HTo.out _ (Below.refl _ _)) ?_
  rintro e w2 ⟨b2, A2, rb2, rfl, hle2, hlr2, hO2, hb2⟩
  go_wp2_with fail
  refine Calls.mono (Hsp.out _ _ _ _ hO2) ?_
  rintro e w3 ⟨rfl, hb3⟩
  have HB3 : Hid (Below w1.heap.size w1 w3) := bl_then hb2 hb3
  have hv3 := HV1.out w3 HB3.out
  clear d0
  clear d1
  clear d2
  clear d3
  clear d4
  clear d5
  clear d6
  clear d7
  clear d8
  clear d9
  have d0 := hv3.cell 0 rfl
  have d1 := hv3.cell 1 rfl
  have d2 := hv3.cell 2 rfl
  have d3 := hv3.cell 3 rfl
  have d4 := hv3.cell 4 rfl
  have d5 := hv3.cell 5 rfl
  have d6 := hv3.cell 6 rfl
  have d7 := hv3.cell 7 rfl
  have d8 := hv3.cell 8 rfl
  have d9 := hv3.cell 9 rfl
  clear hO2 hb2 hb3 Hsp hv3
  go_wp2_with fail
  refine Calls.mono (HTo.out _ HB3.out) ?_
  rintro e w4 ⟨b4, A4, rb4, rfl, hle4, hlr4, hO4, hb4⟩
  have HO4 : Hid (OwnV w4 b4 n K A4 rb4 rn E) := hO4
  have HB4 : Hid (Below w1.heap.size w1 w4) := bl_then HB3.out hb4
  clear d0
  clear d1
  clear d2
  clear d3
  clear d4
  clear d5
  clear d6
  clear d7
  clear d8
  clear d9
  clear hO4 hb4
  go_wp2_with fail
  generalize hwA : (w4.alloc _ : World) = w5
  have hb5 : Below w4.heap.size w4 w5 := by subst hwA; (repeat (first | exact Below.refl _ _ | assumption | refine Below.drew ?_ | refine bl_alloc ?_ _ | refine bl_then ?_ (by assumption) | refine Below.setCell ?_ (by first | omega | (simp; done) | (simp; omega)) _ | refine bl_store ?_ ?_ _ _))
  have HX5 : Hid (Blk w5 w4.heap.size [.int .i64 z, .int .i64 x, .int .i64 y, .int .i64 wd, .int .i64 ht, .int .i64 now, .int .i64 s, .slice (some ⟨b4, 0, none⟩) n n, .slice (some ⟨rb4, 0, none⟩) rn rn, .int .i64 bad]) := by show Blk _ _ _; subst hwA; exact Blk.new _ _ _
  clear hwA
  have HO5 : Hid (OwnV w5 b4 n K A4 rb4 rn E) := HO4.out.below hb5
  have HB5 : Hid (Below w1.heap.size w1 w5) := bl_then HB4.out hb5
  generalize w4.heap.size = bx at *
  clear hb5 HO4 HB4 HB3
  refine Calls.mono (Him.out _ _ _ _ HO5.out) ?_
  rintro e w6 ⟨rfl, hb6⟩
  have HO6 : Hid (OwnV w6 b4 n K A4 rb4 rn E) := HO5.out.below hb6
  have HB6 : Hid (Below w1.heap.size w1 w6) := bl_then HB5.out hb6
  have HX6 : Hid (Blk w6 bx [.int .i64 z, .int .i64 x, .int .i64 y, .int .i64 wd, .int .i64 ht, .int .i64 now, .int .i64 s, .slice (some ⟨b4, 0, none⟩) n n, .slice (some ⟨rb4, 0, none⟩) rn rn, .int .i64 bad]) := HX5.out.below HX5.out.lt hb6
  have hxl : bx < w6.heap.size := HX6.out.lt
  clear hb6 HX5 HO5 HB5 Him
  go_wp2_with fail
  have hx : ∀ W', Below w6.heap.size w6 W' → Blk W' bx [.int .i64 z, .int .i64 x, .int .i64 y, .int .i64 wd, .int .i64 ht, .int .i64 now, .int .i64 s, .slice (some ⟨b4, 0, none⟩) n n, .slice (some ⟨rb4, 0, none⟩) rn rn, .int .i64 bad] := fun W' h => HX6.out.below hxl h
  have hv : ∀ W', Below w6.heap.size w6 W' → Blk W' w.heap.size [.int .i64 z, .int .i64 x, .int .i64 y, .int .i64 wd, .int .i64 ht, .int .i64 now, .int .i64 s, .slice a n cap, .slice ra rn rc, .int .i64 bad] := fun W' h => HV1.out W' (bl_then HB6.out h)
  have x0 : ∀ W', Below w6.heap.size w6 W' → W'.cell? ⟨bx, 0, none⟩ = _ := fun W' h => (hx W' h).cell 0 rfl
  have x1 : ∀ W', Below w6.heap.size w6 W' → W'.cell? ⟨bx, 1, none⟩ = _ := fun W' h => (hx W' h).cell 1 rfl
  have x2 : ∀ W', Below w6.heap.size w6 W' → W'.cell? ⟨bx, 2, none⟩ = _ := fun W' h => (hx W' h).cell 2 rfl
  have x3 : ∀ W', Below w6.heap.size w6 W' → W'.cell? ⟨bx, 3, none⟩ = _ := fun W' h => (hx W' h).cell 3 rfl
  have x4 : ∀ W', Below w6.heap.size w6 W' → W'.cell? ⟨bx, 4, none⟩ = _ := fun W' h => (hx W' h).cell 4 rfl
  have x5 : ∀ W', Below w6.heap.size w6 W' → W'.cell? ⟨bx, 5, none⟩ = _ := fun W' h => (hx W' h).cell 5 rfl
  have x6 : ∀ W', Below w6.heap.size w6 W' → W'.cell? ⟨bx, 6, none⟩ = _ := fun W' h => (hx W' h).cell 6 rfl
  have x7 : ∀ W', Below w6.heap.size w6 W' → W'.cell? ⟨bx, 7, none⟩ = _ := fun W' h => (hx W' h).cell 7 rfl
  have x8 : ∀ W', Below w6.heap.size w6 W' → W'.cell? ⟨bx, 8, none⟩ = _ := fun W' h => (hx W' h).cell 8 rfl
  have x9 : ∀ W', Below w6.heap.size w6 W' → W'.cell? ⟨bx, 9, none⟩ = _ := fun W' h => (hx W' h).cell 9 rfl
  have v0 : ∀ W', Below w6.heap.size w6 W' → W'.cell? ⟨w.heap.size, 0, none⟩ = _ := fun W' h => (hv W' h).cell 0 rfl
  have v1 : ∀ W', Below w6.heap.size w6 W' → W'.cell? ⟨w.heap.size, 1, none⟩ = _ := fun W' h => (hv W' h).cell 1 rfl
  have v2 : ∀ W', Below w6.heap.size w6 W' → W'.cell? ⟨w.heap.size, 2, none⟩ = _ := fun W' h => (hv W' h).cell 2 rfl
  have v3 : ∀ W', Below w6.heap.size w6 W' → W'.cell? ⟨w.heap.size, 3, none⟩ = _ := fun W' h => (hv W' h).cell 3 rfl
  have v4 : ∀ W', Below w6.heap.size w6 W' → W'.cell? ⟨w.heap.size, 4, none⟩ = _ := fun W' h => (hv W' h).cell 4 rfl
  have v5 : ∀ W', Below w6.heap.size w6 W' → W'.cell? ⟨w.heap.size, 5, none⟩ = _ := fun W' h => (hv W' h).cell 5 rfl
  have v6 : ∀ W', Below w6.heap.size w6 W' → W'.cell? ⟨w.heap.size, 6, none⟩ = _ := fun W' h => (hv W' h).cell 6 rfl
  have v7 : ∀ W', Below w6.heap.size w6 W' → W'.cell? ⟨w.heap.size, 7, none⟩ = _ := fun W' h => (hv W' h).cell 7 rfl
  have v8 : ∀ W', Below w6.heap.size w6 W' → W'.cell? ⟨w.heap.size, 8, none⟩ = _ := fun W' h => (hv W' h).cell 8 rfl
  have v9 : ∀ W', Below w6.heap.size w6 W' → W'.cell? ⟨w.heap.size, 9, none⟩ = _ := fun W' h => (hv W' h).cell 9 rfl
  clear hx hv
  refine wp_region_noPanic ?_
  refine wp_region_held_drew (S := fun W' => Below w6.heap.size w6 W') (by kernel_rfl) (by have := Below.refl w6.heap.size w6; (repeat (first | exact Below.refl _ _ | assumption | refine Below.drew ?_ | refine bl_alloc ?_ _ | refine bl_then ?_ (by assumption) | refine Below.setCell ?_ (by first | omega | (simp; done) | (simp; omega)) _ | refine bl_store ?_ ?_ _ _))) (fun hHeld => ?_)
  have hX0 : Below w6.heap.size w6 w6.drew := hHeld
  refine takeD (i := 0) (d := some 22) (v := ?va0) rfl rfl (by kernel_rfl) (by kernel_rfl) (by kernel_rfl) (fun _ _ _ h => h) (Or.inl ⟨by rfl, ?hya0⟩) (by assumption) ?_
  case hya0 => (intro w hSw; (try dsimp only at hSw); go_simp <;> with_reducible rfl)
  try simp only [Act.put, List.setIfInBounds_toArray, List.set_cons_zero, List.set_cons_succ]
  refine takeD (i := 1) (d := some 23) (v := ?va1) rfl rfl (by kernel_rfl) (by kernel_rfl) (by kernel_rfl) (fun _ _ _ h => h) (Or.inl ⟨by rfl, ?hya1⟩) (by assumption) ?_
  case hya1 => (intro w hSw; (try dsimp only at hSw); go_simp <;> with_reducible rfl)
  try simp only [Act.put, List.setIfInBounds_toArray, List.set_cons_zero, List.set_cons_succ]
  generalize w6.drew = wk0 at *
  refine wpAnyH_ready (rs := [2]) (by kernel_rfl) (by simp) ?_
  refine (AllReadyH.cons rfl (fun K hK => ?_) AllReadyH.nil)
  rw [if_pos (by rfl)]
  go_simp
  refine Calls.mono (HTo.out _ (bl_then HB6.out hX0)) ?_
  rintro e wk1 ⟨bq, Aq, rq, rfl, hge, hgr, hOq, hb1⟩
  have hX1 : Below w6.heap.size w6 wk1 := bl_then hX0 hb1
  go_wp2_with fail
  refine hK.out _ _ (by assumption) (fun hHeld => ?_)
  clear hK K
  try simp only [Act.put, List.setIfInBounds_toArray, List.set_cons_zero, List.set_cons_succ]
  refine wpAnyH_ready (rs := [3]) (by kernel_rfl) (by simp) ?_
  refine (AllReadyH.cons rfl (fun K hK => ?_) AllReadyH.nil)
  rw [if_pos (by rfl)]
  go_simp
  refine Calls.mono (HEq.out _ _ _ _ _ _ _ (HO6.out.below hX1) hOq) ?_
  rintro e wk2 ⟨rfl, hb2⟩
  have hX2 : Below w6.heap.size w6 wk2 := bl_then hX1 hb2
  go_wp2_with fail
  refine hK.out _ _ (by assumption) (fun hHeld => ?_)
  clear hK K
  try simp only [Act.put, List.setIfInBounds_toArray, List.set_cons_zero, List.set_cons_succ]
  refine takeD (i := 4) (d := some 26) (v := ?vb4) rfl rfl (by kernel_rfl) (by kernel_rfl) (by kernel_rfl) (fun _ _ _ h => h) (Or.inl ⟨by rfl, ?hyb4⟩) (by assumption) ?_
  case hyb4 => (intro w hSw; (try dsimp only at hSw); go_simp <;> with_reducible rfl)
  try simp only [Act.put, List.setIfInBounds_toArray, List.set_cons_zero, List.set_cons_succ]
  refine wpAnyH_done (by kernel_rfl) ?_ _
  refine NoPanic.normal ?_
  have HB9 : Hid (Below w.heap.size w wk2) := bl_then HBw.out (bl_then HB6.out hX2)
  clear x0 v0
  clear x1 v1
  clear x2 v2
  clear x3 v3
  clear x4 v4
  clear x5 v5
  clear x6 v6
  clear x7 v7
  clear x8 v8
  clear x9 v9
  go_wp2
  go_ret
  exact ⟨rfl, HB9.out⟩
end Go.Proofs.YtbdhhclamgmfkaaGreat
