/- Caches are measured, copied and compared. -/
import Derived.Test.YtciidkmonfmipaaGreatVPutTile20
namespace Go.Proofs.YtciidkmonfmipaaGreat
open Go.RowKit
set_option linter.unusedSimpArgs false
set_option linter.unusedVariables false
set_option maxRecDepth 100000

/-- A cache as a value. -/
abbrev caV (s : Int) (v : Value) : Value := .agg #[.int .i64 s, v]
set_option maxHeartbeats 4000000 in
theorem eqKeptS_any (B C b d n : Nat) (K A H : Nat → Kp) (w : World) (ha : OwnKs w B b n K A) (hh : OwnKs w C d n K H) (hs : SmallKs n K) :
    Calls Tryz.prog 35 #[.slice (some ⟨b, 0, none⟩) n n, .slice (some ⟨d, 0, none⟩) n n] w fun e w' => e = .returned (.bool true) ∧ Below w.heap.size w w' := by
  have HA : Hid (OwnKs w B b n K A) := ha
  have HH : Hid (OwnKs w C d n K H) := hh
  have HS : Hid (SmallKs n K) := hs
  have hn := hs.1
  clear ha hh hs
  go_enter Tryz.func35, Tryz.ntmps35
  go_wp2
  go_loopw [5] (fun i wr => ∃ k : Nat, k ≤ n ∧ i = .int .i64 k ∧ Below w.heap.size w wr) (fun i _ => n - (intOf i).toNat)
  case atStart => exact ⟨0, by omega, rfl, Below.refl _ _⟩
  case round =>
    obtain ⟨k, hk, rfl, hB⟩ := hrel
    by_cases hlt : k < n
    · have HAr : Hid (OwnKs wr B b n K A) := HA.out.below hB
      have HHr : Hid (OwnKs wr C d n K H) := HH.out.below hB
      have a0 : ∀ W', Below wr.heap.size wr W' → W'.cell? ⟨b, k * 5, none⟩ = some (.int .i64 (A k).z) := fun W' h => ((HAr.out.below h).2.2 k hlt).1.1
      have a1 : ∀ W', Below wr.heap.size wr W' → W'.cell? ⟨b, k * 5 + 1, none⟩ = some (.int .i64 (A k).x) := fun W' h => ((HAr.out.below h).2.2 k hlt).1.2.1
      have a2 : ∀ W', Below wr.heap.size wr W' → W'.cell? ⟨b, k * 5 + 2, none⟩ = some (.int .i64 (A k).y) := fun W' h => ((HAr.out.below h).2.2 k hlt).1.2.2.1
      have a3 : ∀ W', Below wr.heap.size wr W' → W'.cell? ⟨b, k * 5 + 3, none⟩ = some (.slice (A k).fa (A k).fn (A k).fc) := fun W' h => ((HAr.out.below h).2.2 k hlt).1.2.2.2.1
      have a4 : ∀ W', Below wr.heap.size wr W' → W'.cell? ⟨b, k * 5 + 4, none⟩ = some (.slice (A k).ia (A k).m (A k).ic) := fun W' h => ((HAr.out.below h).2.2 k hlt).1.2.2.2.2
      have h0 : ∀ W', Below wr.heap.size wr W' → W'.cell? ⟨d, k * 5, none⟩ = some (.int .i64 (H k).z) := fun W' h => ((HHr.out.below h).2.2 k hlt).1.1
      have h1 : ∀ W', Below wr.heap.size wr W' → W'.cell? ⟨d, k * 5 + 1, none⟩ = some (.int .i64 (H k).x) := fun W' h => ((HHr.out.below h).2.2 k hlt).1.2.1
      have h2 : ∀ W', Below wr.heap.size wr W' → W'.cell? ⟨d, k * 5 + 2, none⟩ = some (.int .i64 (H k).y) := fun W' h => ((HHr.out.below h).2.2 k hlt).1.2.2.1
      have h3 : ∀ W', Below wr.heap.size wr W' → W'.cell? ⟨d, k * 5 + 3, none⟩ = some (.slice (H k).fa (H k).fn (H k).fc) := fun W' h => ((HHr.out.below h).2.2 k hlt).1.2.2.2.1
      have h4 : ∀ W', Below wr.heap.size wr W' → W'.cell? ⟨d, k * 5 + 4, none⟩ = some (.slice (H k).ia (H k).m (H k).ic) := fun W' h => ((HHr.out.below h).2.2 k hlt).1.2.2.2.2
      have HEQ : Hid (∀ W', Below wr.heap.size wr W' → Calls Tryz.prog 71 #[kpV (A k), kpV (H k)] W' fun e w' => e = .returned (.bool true) ∧ Below W'.heap.size W' w') := fun W' h => eqKept_any B C (K k) (A k) (H k) W' ((HAr.out.below h).2.2 k hlt).2 ((HHr.out.below h).2.2 k hlt).2 (HS.out.2 k hlt)
      have HB : Hid (Below w.heap.size w wr) := hB
      have HLT : Hid (k < n) := hlt
      have hr : Below wr.heap.size wr wr := Below.refl _ _
      clear hB
      have hi : (k : Int) < (n : Int) := by omega
      have hi0 : (0 : Int) ≤ (k : Int) := by omega
      go_wp2
      go_region_held3 (fun W' => Below wr.heap.size wr W') ((repeat (first | exact Below.refl _ _ | assumption | refine Below.drew ?_ | refine bl_alloc ?_ _ | refine bl_then ?_ (by assumption) | refine Below.setCell ?_ (by first | omega | (simp; done) | (simp; omega)) _ | refine bl_store ?_ ?_ _ _)))
        (first
          | (go_at_call 71; refine (HEQ.out _ (by assumption)).mono ?_; rintro e w' ⟨rfl, hb⟩)
          | fail)
      go_wp2
      go_roundw
      case rel => exact ⟨k + 1, by have := HLT.out; omega, by go_num, bl_then HB.out (by assumption)⟩
      case measure => have := HLT.out; simp [intOf]; omega
    · go_wp2
      go_ret
      exact ⟨rfl, hB⟩
set_option maxHeartbeats 2000000 in
theorem szTile_l (z x y : Int) (a : Option Addr) (n cap left : Nat) (F : Nat → Feat) (w : World) (hl : left ≤ 1048576) (hf : IsFs w a n F) (hc : CameFs n F) :
    Calls Tryz.prog 7 #[tileV z x y (.slice a n cap), .int .i64 (left : Int)] w fun e w' => (e = .returned (.int .i64 (-1)) ∨ ∃ m : Nat, m ≤ left ∧ SmallFs n F ∧ e = .returned (.int .i64 m)) ∧ Below w.heap.size w w' := by
  have HF : Hid (IsFs w a n F) := hf
  have HC : Hid (CameFs n F) := hc
  clear hf hc
  go_enter Tryz.func7, Tryz.ntmps7
  go_wp2_with fail
  generalize hW : (w.alloc _ : World) = W
  have hB0 : Below w.heap.size w W := by subst hW; (repeat (first | exact Below.refl _ _ | assumption | refine Below.drew ?_ | refine bl_alloc ?_ _ | refine bl_then ?_ (by assumption) | refine Below.setCell ?_ (by first | omega | (simp; done) | (simp; omega)) _ | refine bl_store ?_ ?_ _ _))
  clear hW
  refine (szFeatureS_any a n cap F left _ hl (HF.out.below hB0) HC.out).mono ?_
  rintro e w1 ⟨rfl | ⟨m, hm, hS, rfl⟩, hb1⟩
  · go_wp2
    go_ret
    exact ⟨.inl rfl, by (repeat (first | exact Below.refl _ _ | assumption | refine Below.drew ?_ | refine bl_alloc ?_ _ | refine bl_then ?_ (by assumption) | refine Below.setCell ?_ (by first | omega | (simp; done) | (simp; omega)) _ | refine bl_store ?_ ?_ _ _))⟩
  · have hneg : ¬ ((m : Nat) : Int) < 0 := by omega
    have HS : Hid (SmallFs n F) := hS
    clear hS
    go_wp2
    go_ret
    exact ⟨.inr ⟨m, hm, HS.out, rfl⟩, by (repeat (first | exact Below.refl _ _ | assumption | refine Below.drew ?_ | refine bl_alloc ?_ _ | refine bl_then ?_ (by assumption) | refine Below.setCell ?_ (by first | omega | (simp; done) | (simp; omega)) _ | refine bl_store ?_ ?_ _ _))⟩
theorem szInt64S_l (a : Option Addr) (n cap left : Nat) (w : World) (hl : left ≤ 1048576) (hn : n ≤ maxLen) :
    Calls Tryz.prog 78 #[.slice a n cap, .int .i64 (left : Int)] w fun e w' => (e = .returned (.int .i64 (-1)) ∨ ∃ m : Nat, m ≤ left ∧ n ≤ 1048576 ∧ e = .returned (.int .i64 m)) ∧ Below w.heap.size w w' := by
  unfold maxLen at hn
  by_cases h : left < n
  · have hneg : (left : Int) - (n : Int) < 0 := by omega
    go_enter Tryz.func78, Tryz.ntmps78
    go_wp2
    go_ret
    exact ⟨.inl rfl, by (repeat (first | exact Below.refl _ _ | assumption | refine Below.drew ?_ | refine bl_alloc ?_ _ | refine bl_then ?_ (by assumption) | refine Below.setCell ?_ (by first | omega | (simp; done) | (simp; omega)) _ | refine bl_store ?_ ?_ _ _))⟩
  · have hneg : ¬ (left : Int) - (n : Int) < 0 := by omega
    go_enter Tryz.func78, Tryz.ntmps78
    go_wp2
    go_ret
    exact ⟨.inr ⟨left - n, by omega, by omega, ret_int (by omega)⟩, by (repeat (first | exact Below.refl _ _ | assumption | refine Below.drew ?_ | refine bl_alloc ?_ _ | refine bl_then ?_ (by assumption) | refine Below.setCell ?_ (by first | omega | (simp; done) | (simp; omega)) _ | refine bl_store ?_ ?_ _ _))⟩
set_option maxHeartbeats 2000000 in
theorem szKept_l (k : Kp) (left : Nat) (w : World) (hl : left ≤ 1048576) (hk : KpIs w k) (hc : CameK k) :
    Calls Tryz.prog 47 #[kpV k, .int .i64 (left : Int)] w fun e w' => (e = .returned (.int .i64 (-1)) ∨ ∃ m : Nat, m ≤ left ∧ SmallK k ∧ e = .returned (.int .i64 m)) ∧ Below w.heap.size w w' := by
  have HK : Hid (KpIs w k) := hk
  have HC : Hid (CameK k) := hc
  clear hk hc
  go_enter Tryz.func47, Tryz.ntmps47
  go_wp2_with fail
  generalize hW : (w.alloc _ : World) = W
  have hB0 : Below w.heap.size w W := by subst hW; (repeat (first | exact Below.refl _ _ | assumption | refine Below.drew ?_ | refine bl_alloc ?_ _ | refine bl_then ?_ (by assumption) | refine Below.setCell ?_ (by first | omega | (simp; done) | (simp; omega)) _ | refine bl_store ?_ ?_ _ _))
  have c4 : ∀ W', Below W.heap.size W W' → W'.cell? ⟨w.heap.size, 4, none⟩ = some (.slice k.ia k.m k.ic) := fun W' h => by rw [h.cell (by subst hW; simp)]; subst hW; simp [go_sem]
  clear hW
  refine (szTile_l k.z k.x k.y k.fa k.fn k.fc left k.F W hl (HK.out.below hB0).1 HC.out.1).mono ?_
  rintro e w1 ⟨rfl | ⟨m, hm, hS, rfl⟩, hb1⟩
  · go_wp2
    go_ret
    exact ⟨.inl rfl, bl_then hB0 hb1⟩
  · have hneg : ¬ ((m : Nat) : Int) < 0 := by omega
    have g4 := c4 w1 hb1
    have HS : Hid (SmallFs k.fn k.F) := hS
    have hB1 : Below w.heap.size w w1 := bl_then hB0 hb1
    clear hS hb1 hB0 c4
    go_wp2_with fail
    refine (szInt64S_l k.ia k.m k.ic m w1 (by omega) HC.out.2).mono ?_
    rintro e w2 ⟨rfl | ⟨q, hq, hS2, rfl⟩, hb2⟩
    · go_wp2
      go_ret
      exact ⟨.inl rfl, bl_then hB1 hb2⟩
    · have hneg2 : ¬ ((q : Nat) : Int) < 0 := by omega
      have HS2 : Hid (k.m ≤ 1048576) := hS2
      clear hS2
      go_wp2
      go_ret
      exact ⟨.inr ⟨q, by omega, ⟨HS.out, HS2.out⟩, rfl⟩, bl_then hB1 hb2⟩
set_option maxHeartbeats 4000000 in
theorem szKeptS_l (a : Option Addr) (n cap left : Nat) (K : Nat → Kp) (w : World) (hl : left ≤ 1048576) (hk : IsKs w a n K) (hc : CameKs n K) :
    Calls Tryz.prog 24 #[.slice a n cap, .int .i64 (left : Int)] w fun e w' => (e = .returned (.int .i64 (-1)) ∨ ∃ m : Nat, m ≤ left ∧ SmallKs n K ∧ e = .returned (.int .i64 m)) ∧ Below w.heap.size w w' := by
  have HK : Hid (IsKs w a n K) := hk
  obtain ⟨hc1, hc2⟩ := hc
  have HC : Hid (∀ i, i < n → CameK (K i)) := hc2
  unfold maxLen at hc1
  clear hk hc2
  by_cases h : left < n
  · have hneg : (left : Int) - (n : Int) < 0 := by omega
    go_enter Tryz.func24, Tryz.ntmps24
    go_wp2
    go_ret
    exact ⟨.inl rfl, by (repeat (first | exact Below.refl _ _ | assumption | refine Below.drew ?_ | refine bl_alloc ?_ _ | refine bl_then ?_ (by assumption) | refine Below.setCell ?_ (by first | omega | (simp; done) | (simp; omega)) _ | refine bl_store ?_ ?_ _ _))⟩
  · have hneg : ¬ (left : Int) - (n : Int) < 0 := by omega
    go_enter Tryz.func24, Tryz.ntmps24
    go_wp2_with fail
    go_loopw [1, 5] (fun v i wr => ∃ k m : Nat, k ≤ n ∧ i = .int .i64 (k : Int) ∧ v = .int .i64 (m : Int) ∧ m ≤ left ∧ (∀ j, j < k → SmallK (K j)) ∧ Below w.heap.size w wr) (fun _ i _ => n - (intOf i).toNat)
    case atStart => exact ⟨0, left - n, by omega, rfl, by congr 1; omega, by omega, fun j hj => absurd hj (Nat.not_lt_zero _), Below.refl _ _⟩
    case round =>
      obtain ⟨k, m, hk, rfl, rfl, hm, hS, hB⟩ := hrel
      have HS : Hid (∀ j, j < k → SmallK (K j)) := hS
      have HB : Hid (Below w.heap.size w wr) := hB
      clear hS
      by_cases hlt : k < n
      · rcases HK.out with h0 | ⟨b, off, rfl, hbl, hpt⟩
        · omega
        obtain ⟨⟨f0, f1, f2, f3, f4⟩, hkis⟩ := (hpt.below hB hbl) k hlt
        have HKI : Hid (KpIs wr (K k)) := hkis
        have HLT : Hid (k < n) := hlt
        have hi : (k : Int) < (n : Int) := by omega
        have hi0 : (0 : Int) ≤ (k : Int) := by omega
        clear hB hpt hkis
        go_wp2_with fail
        refine (szKept_l (K k) m _ (by omega) HKI.out (HC.out k hlt)).mono ?_
        rintro e w1 ⟨rfl | ⟨q, hq, hS1, rfl⟩, hb1⟩
        · go_wp2
          go_ret
          exact ⟨.inl rfl, bl_then HB.out hb1⟩
        · have hneg2 : ¬ ((q : Nat) : Int) < 0 := by omega
          have HS1 : Hid (SmallK (K k)) := hS1
          have HB1 : Hid (Below w.heap.size w w1) := bl_then HB.out hb1
          clear hS1 hb1 f0 f1 f2 f3 f4
          go_wp2_with fail
          go_roundw
          case rel => exact ⟨k + 1, q, by have := HLT.out; omega, by go_num, rfl, by omega, fun j hj => by
              by_cases e : j = k
              · rw [e]; exact HS1.out
              · exact HS.out j (by omega), HB1.out⟩
          case measure => have := HLT.out; simp [intOf]; omega
      · obtain rfl : n = k := by omega
        go_wp2
        go_ret
        exact ⟨.inr ⟨m, hm, ⟨by omega, HS.out⟩, rfl⟩, HB.out⟩
theorem OwnKs.mid {w w' : World} {B C b n lo hi : Nat} {K A : Nat → Kp} (h : OwnKs w B b n K A) (hM : MidB lo hi w w') (hh : hi ≤ b) : OwnKs w' B b n K A :=
  ⟨h.1, Nat.lt_of_lt_of_le h.2.1 hM.size, fun i hi' => by
    obtain ⟨⟨h0, h1, h2, h3, h4⟩, h5⟩ := h.2.2 i hi'
    exact ⟨⟨hM.cell h0 (.inr hh), hM.cell h1 (.inr hh), hM.cell h2 (.inr hh), hM.cell h3 (.inr hh), hM.cell h4 (.inr hh)⟩, h5.mid hM (by have := h.1; omega) (Nat.le_refl _)⟩⟩
theorem there2k (V : World) (a b : Value) (t : TypeId) : There (V.alloc (.cells #[a, b] t)) V.heap.size 2 := fun o ho => by
  have hc : o = 0 ∨ o = 1 := by omega
  rcases hc with rfl | rfl <;> exact ⟨⟨_, by simp [go_sem]; rfl⟩, by simp [go_sem]⟩
theorem resTC {T : Array Value} {Wf : World} {r : Nat} {s : Int} {v : Value} (hT : T[2]?.getD undef = .pointer (some ⟨r, 0, none⟩)) (h0 : Wf.cell? ⟨r, 0, none⟩ = some (.int .i64 s)) (h1 : Wf.cell? ⟨r, 1, none⟩ = some v) :
    (results Tryz.f9 T).run Tryz.prog Wf = .ok (caV s v) Wf := by
  simp [results, Tryz.results9, go_sem, hT, h0, h1]
set_option maxHeartbeats 2000000 in
theorem eqCache_any (s : Int) (B C b d n : Nat) (K A H : Nat → Kp) (w : World) (ha : OwnKs w B b n K A) (hh : OwnKs w C d n K H) (hs : SmallKs n K) :
    Calls Tryz.prog 13 #[caV s (.slice (some ⟨b, 0, none⟩) n n), caV s (.slice (some ⟨d, 0, none⟩) n n)] w fun e w' => e = .returned (.bool true) ∧ Below w.heap.size w w' := by
  have HA : Hid (OwnKs w B b n K A) := ha
  have HH : Hid (OwnKs w C d n K H) := hh
  clear ha hh
  go_enter Tryz.func13, Tryz.ntmps13
  go_wp2_with fail
  generalize hW : ((w.alloc _).alloc _ : World) = W
  have hB0 : Below w.heap.size w W := by subst hW; (repeat (first | exact Below.refl _ _ | assumption | refine Below.drew ?_ | refine bl_alloc ?_ _ | refine bl_then ?_ (by assumption) | refine Below.setCell ?_ (by first | omega | (simp; done) | (simp; omega)) _ | refine bl_store ?_ ?_ _ _))
  clear hW
  refine (eqKeptS_any B C b d n K A H W (HA.out.below hB0) (HH.out.below hB0) hs).mono ?_
  rintro e w1 ⟨rfl, hb1⟩
  go_wp2
  go_ret
  exact ⟨rfl, bl_then hB0 hb1⟩
end Go.Proofs.YtciidkmonfmipaaGreat
