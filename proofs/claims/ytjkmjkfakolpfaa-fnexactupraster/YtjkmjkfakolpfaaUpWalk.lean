/- The law of UpRaster returns true at every list of numbers and every two refs. -/
import Derived.Test.YtjkmjkfakolpfaaU8d
import Derived.Test.YtjkmjkfakolpfaaNi
import Derived.Deep.DeepCutAuto
namespace Go.Proofs.Ytjkmjkfakolpfaa
open Go.RowKit
set_option linter.unusedSimpArgs false
set_option linter.unusedVariables false
set_option maxRecDepth 100000

theorem There.lt2u {W : World} {r : Nat} (h : There W r 2) : r < W.heap.size := by
  obtain ⟨⟨v, hv⟩, _⟩ := h 0 (by omega)
  exact World.block_lt_of_cell? _ _ hv
/-- Where the numbers of an answer lie. -/
theorem OwnN.blk {w : World} {base : Nat} {a : Option Addr} {n cap : Nat} {Z : Nat → Int} (h : OwnN w base (.slice a n cap) n Z) : ∀ s, n ≠ 0 → a = some ⟨s, 0, none⟩ → base ≤ s ∧ s < w.heap.size := fun s hn hs => by
  obtain ⟨a', cap', hv, hc, h0 | ⟨b, ha, hbb, hl, hp, ht⟩⟩ := h
  · exact absurd h0 hn
  · injection hv with h1 h2 h3
    subst h1
    rw [hs] at ha
    injection ha with ha
    injection ha with ha
    subst ha
    exact ⟨hbb, hl⟩
theorem OwnN.row {w w' : World} {base s : Nat} {v : Value} {n : Nat} {Z : Nat → Int} (h : OwnN w base v n Z) (hg : w.grownBy w' (some s)) (hs : s < base) : OwnN w' base v n Z := by
  obtain ⟨a, cap, hv, hc, h0 | ⟨b, ha, hbb, hl, hp, ht⟩⟩ := h
  · exact ⟨a, cap, hv, hc, .inl h0⟩
  · have hne : b ≠ s := by omega
    refine ⟨a, cap, hv, hc, .inr ⟨b, ha, hbb, Nat.lt_of_lt_of_le hl hg.size, fun i hi => hg.cell (hp i hi) (fun e => hne (by injection e)), fun o ho => ?_⟩⟩
    obtain ⟨⟨x, hx⟩, hf⟩ := ht o ho
    refine ⟨⟨x, hg.cell hx (fun e => hne (by injection e))⟩, ?_⟩
    have he := hg.block b hl (fun e => hne (by injection e))
    unfold World.frozen? at hf ⊢
    simp only [he]
    exact hf
theorem mark_ownU (c : Int) (base n cap : Nat) (a : Option Addr) (Z : Nat → Int) (w : World) (h : OwnN w base (.slice a n cap) n Z) (hmax : n ≤ 1048576) :
    ∃ row : Option Nat, (∀ s, row = some s → base ≤ s ∧ n ≠ 0 ∧ a = some ⟨s, 0, none⟩) ∧ Calls Try.prog 17 #[.agg #[.int .i64 c, .slice a n cap], .int .i64 1] w fun e w' => e = .returned (.int .i64 ((1 + n : Nat) : Int)) ∧ w.grownBy w' row ∧ OwnN w' base (.slice a n cap) n (mkN 1) := by
  obtain ⟨a', cap', hv, hc, h0 | ⟨b, ha, hbb, hl, hp, ht⟩⟩ := h
  · subst h0
    exact ⟨none, (fun s hs => by cases hs), (markIntsResult_none c a cap w).mono fun e w' ⟨he, hb⟩ => ⟨he, grown_belowN hb, a', cap', hv, hc, .inl rfl⟩⟩
  · injection hv with h1 h2 h3
    subst h1 h3 ha
    by_cases h0 : n = 0
    · subst h0
      exact ⟨none, (fun s hs => by cases hs), (markIntsResult_none c _ cap w).mono fun e w' ⟨he, hb⟩ => ⟨he, grown_belowN hb, _, cap, rfl, hc, .inl rfl⟩⟩
    · exact ⟨some b, (fun s hs => by injection hs with hs; subst hs; exact ⟨hbb, h0, rfl⟩), (markIntsResult_some c b n cap w ht hl hmax).mono fun e w' ⟨he, hg, ht', hp'⟩ => ⟨he, hg, _, cap, rfl, hc, .inr ⟨b, rfl, hbb, Nat.lt_of_lt_of_le hl hg.size, hp', ht'⟩⟩⟩
theorem FnExactUpRaster_big (a : Option Addr) (n cap : Nat) (fz fx fy tz tx ty : Int) (w : World) (h : 1048576 < n) :
    Calls Try.prog 4 #[.slice a n cap, refV fz fx fy, refV tz tx ty] w fun e w' => e = .returned (.bool true) ∧ Below w.heap.size w w' := by
  have hbi : (1048576 : Int) < (n : Int) := by omega
  go_enter Try.func4, Try.ntmps4
  go_wp2
  go_ret
  exact ⟨rfl, by (repeat (first | exact Below.refl _ _ | assumption | refine Below.drew ?_ | refine bl_alloc ?_ _ | refine bl_then ?_ (by assumption) | refine Below.setCell ?_ (by first | omega | (simp; done) | (simp; omega)) _ | refine bl_store ?_ ?_ _ _))⟩
set_option maxHeartbeats 16000000 in
theorem FnExactUpRaster_law (c : Int) (a : Option Addr) (n cap m : Nat) (Zs Z : Nat → Int) (fz fx fy tz tx ty : Int) (w : World) (hI : IsNs w a n Zs) (hn : n ≤ 1048576) (hm : m ≤ 1048576)
    (hsp : ∀ b W, NsAt W b 0 n Zs → b < W.heap.size → Calls Try.prog 8 #[.slice (some ⟨b, 0, none⟩) n n, refV fz fx fy, refV tz tx ty] W fun e w' => ∃ v, e = .returned (.agg #[.int .i64 c, v]) ∧ OwnN w' W.heap.size v m Z ∧ Below W.heap.size W w')
    (him : ∀ b W, NsAt W b 0 n Zs → b < W.heap.size → Calls Try.prog 7 #[.slice (some ⟨b, 0, none⟩) n n, refV fz fx fy, refV tz tx ty] W fun e w' => ∃ v, e = .returned (.agg #[.int .i64 c, v]) ∧ OwnN w' W.heap.size v m Z ∧ Below W.heap.size W w') :
    Calls Try.prog 4 #[.slice a n cap, refV fz fx fy, refV tz tx ty] w fun e w' => e = .returned (.bool true) ∧ Below w.heap.size w w' := by
  have hbi : ¬ (1048576 : Int) < (n : Int) := by omega
  have HI : Hid (IsNs w a n Zs) := hI
  have Hsp := (show Hid _ from hsp)
  have Him := (show Hid _ from him)
  clear hI hsp him
  go_enter Try.func4, Try.ntmps4
  go_wp2_with fail
  generalize hW : ((w.alloc _).alloc _ : World) = w1
  have hB1 : Below w.heap.size w w1 := by subst hW; (repeat (first | exact Below.refl _ _ | assumption | refine Below.drew ?_ | refine bl_alloc ?_ _ | refine bl_then ?_ (by assumption) | refine Below.setCell ?_ (by first | omega | (simp; done) | (simp; omega)) _ | refine bl_store ?_ ?_ _ _))
  have c00 : ∀ W', Below w1.heap.size w1 W' → W'.cell? ⟨w.heap.size, 0, none⟩ = some (.int .i64 fz) := fun W' h => by
    rw [h.cell (by subst hW; simp <;> omega)]; subst hW; simp [go_sem]
  have c01 : ∀ W', Below w1.heap.size w1 W' → W'.cell? ⟨w.heap.size, 1, none⟩ = some (.int .i64 fx) := fun W' h => by
    rw [h.cell (by subst hW; simp <;> omega)]; subst hW; simp [go_sem]
  have c02 : ∀ W', Below w1.heap.size w1 W' → W'.cell? ⟨w.heap.size, 2, none⟩ = some (.int .i64 fy) := fun W' h => by
    rw [h.cell (by subst hW; simp <;> omega)]; subst hW; simp [go_sem]
  have c10 : ∀ W', Below w1.heap.size w1 W' → W'.cell? ⟨w.heap.size + 1, 0, none⟩ = some (.int .i64 tz) := fun W' h => by
    rw [h.cell (by subst hW; simp <;> omega)]; subst hW; simp [go_sem]
  have c11 : ∀ W', Below w1.heap.size w1 W' → W'.cell? ⟨w.heap.size + 1, 1, none⟩ = some (.int .i64 tx) := fun W' h => by
    rw [h.cell (by subst hW; simp <;> omega)]; subst hW; simp [go_sem]
  have c12 : ∀ W', Below w1.heap.size w1 W' → W'.cell? ⟨w.heap.size + 1, 2, none⟩ = some (.int .i64 ty) := fun W' h => by
    rw [h.cell (by subst hW; simp <;> omega)]; subst hW; simp [go_sem]
  have hsz1 : w.heap.size + 1 < w1.heap.size := by subst hW; simp
  clear hW
  have HTN : Hid (∀ W', Below w1.heap.size w1 W' → Calls Try.prog 12 #[.slice a n cap] W' fun e w' => ∃ b, e = .returned (.slice (some ⟨b, 0, none⟩) n n) ∧ b < w'.heap.size ∧ NsAt w' b 0 n Zs ∧ Below W'.heap.size W' w') := fun W' h => (toInt64S_own a n cap Zs W' (HI.out.below (bl_then hB1 h)) hn).mono fun e w' ⟨b, he, _, hl, hp, _, hb⟩ => ⟨b, he, hl, hp, hb⟩
  go_cut [7] (fun t w3 => ∃ (b : Nat) (a0 : Option Addr) (cap0 : Nat), t = .pointer (some ⟨b, 0, none⟩) ∧ Below w1.heap.size w1 w3 ∧ w1.heap.size ≤ b ∧ b < w3.heap.size ∧ w3.cell? ⟨b, 0, none⟩ = some (.int .i64 c) ∧ w3.cell? ⟨b, 1, none⟩ = some (.slice a0 m cap0) ∧ OwnN w3 w1.heap.size (.slice a0 m cap0) m Z ∧ (∀ s, m ≠ 0 → a0 = some ⟨s, 0, none⟩ → s ≠ b))
  case first =>
    refine wp_region_noPanic ?_
    refine wp_region_held_drew (S := fun W' => Below w1.heap.size w1 W') (by kernel_rfl) (by (repeat (first | exact Below.refl _ _ | assumption | refine Below.drew ?_ | refine bl_alloc ?_ _ | refine bl_then ?_ (by assumption) | refine Below.setCell ?_ (by first | omega | (simp; done) | (simp; omega)) _ | refine bl_store ?_ ?_ _ _))) (fun hHeld => ?_)
    have hX0 : Below w1.heap.size w1 w1.drew := hHeld
    refine takeD (i := 0) (d := some 17) (v := ?vf0) rfl rfl (by kernel_rfl) (by kernel_rfl) (by kernel_rfl) (fun _ _ _ h => h) (Or.inl ⟨by rfl, ?hyf0⟩) (by assumption) ?_
    case hyf0 => (intro w hSw; (try dsimp only at hSw); go_simp <;> with_reducible rfl)
    try simp only [Act.put, List.setIfInBounds_toArray, List.set_cons_zero, List.set_cons_succ]
    refine takeD (i := 2) (d := some 19) (v := ?vf2) rfl rfl (by kernel_rfl) (by kernel_rfl) (by kernel_rfl) (fun _ _ _ h => h) (Or.inl ⟨by rfl, ?hyf2⟩) (by assumption) ?_
    case hyf2 => (intro w hSw; (try dsimp only at hSw); go_simp <;> with_reducible rfl)
    try simp only [Act.put, List.setIfInBounds_toArray, List.set_cons_zero, List.set_cons_succ]
    refine takeD (i := 4) (d := some 21) (v := ?vf4) rfl rfl (by kernel_rfl) (by kernel_rfl) (by kernel_rfl) (fun _ _ _ h => h) (Or.inl ⟨by rfl, ?hyf4⟩) (by assumption) ?_
    case hyf4 => (intro w hSw; (try dsimp only at hSw); go_simp <;> with_reducible rfl)
    try simp only [Act.put, List.setIfInBounds_toArray, List.set_cons_zero, List.set_cons_succ]
    refine wpAnyH_ready (rs := [1, 7]) (by kernel_rfl) (by simp) ?_
    refine (AllReadyH.cons rfl (fun K hK => ?_) (AllReadyH.cons rfl (fun K hK => ?_) AllReadyH.nil))
    · rw [if_pos (by rfl)]
      go_simp
      refine Calls.mono (HTN.out _ hX0) ?_
      rintro e wf1 ⟨bq, rfl, hl1, hq1, hb1⟩
      have hXf1 : Below w1.heap.size w1 wf1 := bl_then hX0 hb1
      go_wp2_with fail
      refine hK.out _ _ hXf1 (fun hHeld => ?_)
      clear hK K
      try simp only [Act.put, List.setIfInBounds_toArray, List.set_cons_zero, List.set_cons_succ]
      refine wpAnyH_ready (rs := [3, 7]) (by kernel_rfl) (by simp) ?_
      refine (AllReadyH.cons rfl (fun K hK => ?_) (AllReadyH.cons rfl (fun K hK => ?_) AllReadyH.nil))
      · rw [if_pos (by rfl)]
        go_simp
        refine Calls.mono (toRef_any _ _ _ _) ?_
        rintro e wf2 ⟨rfl, hb2⟩
        have hq2 := NsAt.below hq1 hb2 hl1
        have hl2 := Nat.lt_of_lt_of_le hl1 (Below.size hb2)
        have hXf2 : Below w1.heap.size w1 wf2 := bl_then hXf1 hb2
        go_wp2_with fail
        refine hK.out _ _ hXf2 (fun hHeld => ?_)
        clear hK K
        try simp only [Act.put, List.setIfInBounds_toArray, List.set_cons_zero, List.set_cons_succ]
        refine wpAnyH_ready (rs := [5, 7]) (by kernel_rfl) (by simp) ?_
        refine (AllReadyH.cons rfl (fun K hK => ?_) (AllReadyH.cons rfl (fun K hK => ?_) AllReadyH.nil))
        · rw [if_pos (by rfl)]
          go_simp
          refine Calls.mono (toRef_any _ _ _ _) ?_
          rintro e wf3 ⟨rfl, hb3⟩
          have hq3 := NsAt.below hq2 hb3 hl2
          have hl3 := Nat.lt_of_lt_of_le hl2 (Below.size hb3)
          have hXf3 : Below w1.heap.size w1 wf3 := bl_then hXf2 hb3
          go_wp2_with fail
          refine hK.out _ _ hXf3 (fun hHeld => ?_)
          clear hK K
          try simp only [Act.put, List.setIfInBounds_toArray, List.set_cons_zero, List.set_cons_succ]
          refine wpAnyH_ready (rs := [6, 7]) (by kernel_rfl) (by simp) ?_
          refine (AllReadyH.cons rfl (fun K hK => ?_) (AllReadyH.cons rfl (fun K hK => ?_) AllReadyH.nil))
          · rw [if_pos (by rfl)]
            go_simp
            refine Calls.mono (Hsp.out _ _ hq3 hl3) ?_
            rintro e wf4 ⟨v0, rfl, hO4, hb4⟩
            obtain ⟨a0, cap0, rfl, hc0, hI0⟩ := hO4.pts
            have hk4 := hO4.blk
            have hXf4 : Below w1.heap.size w1 wf4 := bl_then hXf3 hb4
            go_wp2_with fail
            refine hK.out _ _ hXf4 (fun hHeld => ?_)
            clear hK K
            try simp only [Act.put, List.setIfInBounds_toArray, List.set_cons_zero, List.set_cons_succ]
            refine wpAnyH_ready (rs := [7]) (by kernel_rfl) (by simp) ?_
            refine (AllReadyH.cons rfl (fun K hK => ?_) AllReadyH.nil)
            rw [if_pos (by rfl)]
            go_simp
            generalize hwA : (World.alloc _ _ : World) = wf5
            have hb5 : Below wf4.heap.size wf4 wf5 := by subst hwA; (repeat (first | exact Below.refl _ _ | assumption | refine Below.drew ?_ | refine bl_alloc ?_ _ | refine bl_then ?_ (by assumption) | refine Below.setCell ?_ (by first | omega | (simp; done) | (simp; omega)) _ | refine bl_store ?_ ?_ _ _))
            have hT5 : There wf5 wf4.heap.size 2 := by subst hwA; exact there2u wf4 _ _ _
            clear hwA
            have hXf5 : Below w1.heap.size w1 wf5 := bl_then hXf4 hb5
            have hs5 : w1.heap.size ≤ wf4.heap.size := Below.size hXf4
            have hz5 : wf4.heap.size < wf5.heap.size := There.lt2u hT5
            refine hK.out _ _ hXf5 (fun hHeld => ?_)
            clear hK K
            try simp only [Act.put, List.setIfInBounds_toArray, List.set_cons_zero, List.set_cons_succ]
            refine wpAnyH_ready (rs := [8]) (by kernel_rfl) (by simp) ?_
            refine (AllReadyH.cons rfl (fun K hK => ?_) AllReadyH.nil)
            rw [if_pos (by rfl)]
            have t0 := hT5.cell 0 (by omega)
            have t1 := hT5.cell 1 (by omega)
            have f0 := (hT5 0 (by omega)).2
            have f1 := (hT5 1 (by omega)).2
            go_simp
            refine hK.out _ _ ((hXf5.setCell hs5 _).setCell hs5 _) (fun hHeld => ?_)
            clear hK K
            try simp only [Act.put, List.setIfInBounds_toArray, List.set_cons_zero, List.set_cons_succ]
            obtain ⟨q0, q1⟩ := set2_at (r := wf4.heap.size) (u := .int .i64 c) (v := .slice a0 m cap0) (show (0 : Nat) ≠ 1 by omega) (by rw [t0]; rfl) (by rw [t1]; rfl)
            have hBf : Below w1.heap.size w1 ((wf5.setCell ⟨wf4.heap.size, 0, none⟩ (.int .i64 c)).setCell ⟨wf4.heap.size, 1, none⟩ (.slice a0 m cap0)) := (hXf5.setCell hs5 _).setCell hs5 _
            have hBs := Below.size hXf3
            have hOf : OwnN ((wf5.setCell ⟨wf4.heap.size, 0, none⟩ (.int .i64 c)).setCell ⟨wf4.heap.size, 1, none⟩ (.slice a0 m cap0)) w1.heap.size (.slice a0 m cap0) m Z := (hO4.below ((hb5.setCell (Nat.le_refl _) _).setCell (Nat.le_refl _) _)).widen hBs
            have hNe : ∀ s, m ≠ 0 → a0 = some ⟨s, 0, none⟩ → s ≠ wf4.heap.size := fun s hm0 hs => by have := hk4 s hm0 hs; omega
            have hrl : wf4.heap.size < (((wf5.setCell ⟨wf4.heap.size, 0, none⟩ (.int .i64 c)).setCell ⟨wf4.heap.size, 1, none⟩ (.slice a0 m cap0)) : World).heap.size := by simpa [World.setCell] using hz5
            refine wpAnyH_done (by kernel_rfl) ?_ _
            refine NoPanic.normal ?_
            go_wp2_with fail
            go_meet
            case rel => exact ⟨_, a0, cap0, rfl, hBf, hs5, hrl, q0, q1, hOf, hNe⟩
          · rw [if_pos (by rfl)]
            go_simp
            generalize hwA : (World.alloc _ _ : World) = wf6
            have hb6 : Below wf3.heap.size wf3 wf6 := by subst hwA; (repeat (first | exact Below.refl _ _ | assumption | refine Below.drew ?_ | refine bl_alloc ?_ _ | refine bl_then ?_ (by assumption) | refine Below.setCell ?_ (by first | omega | (simp; done) | (simp; omega)) _ | refine bl_store ?_ ?_ _ _))
            have hT6 : There wf6 wf3.heap.size 2 := by subst hwA; exact there2u wf3 _ _ _
            clear hwA
            have hXf6 : Below w1.heap.size w1 wf6 := bl_then hXf3 hb6
            have hs6 : w1.heap.size ≤ wf3.heap.size := Below.size hXf3
            have hz6 : wf3.heap.size < wf6.heap.size := There.lt2u hT6
            have hq6 := NsAt.below hq3 hb6 hl3
            have hl6 := Nat.lt_of_lt_of_le hl3 (Below.size hb6)
            refine hK.out _ _ hXf6 (fun hHeld => ?_)
            clear hK K
            try simp only [Act.put, List.setIfInBounds_toArray, List.set_cons_zero, List.set_cons_succ]
            refine wpAnyH_ready (rs := [6]) (by kernel_rfl) (by simp) ?_
            refine (AllReadyH.cons rfl (fun K hK => ?_) AllReadyH.nil)
            rw [if_pos (by rfl)]
            go_simp
            refine Calls.mono (Hsp.out _ _ hq6 hl6) ?_
            rintro e wf7 ⟨v0, rfl, hO7, hb7⟩
            obtain ⟨a0, cap0, rfl, hc0, hI0⟩ := hO7.pts
            have hk7 := hO7.blk
            have hXf7 : Below w1.heap.size w1 wf7 := bl_then hXf6 hb7
            have hT7 := There.below hT6 hb7
            have hz7 : wf3.heap.size < wf7.heap.size := There.lt2u hT7
            go_wp2_with fail
            refine hK.out _ _ hXf7 (fun hHeld => ?_)
            clear hK K
            try simp only [Act.put, List.setIfInBounds_toArray, List.set_cons_zero, List.set_cons_succ]
            refine wpAnyH_ready (rs := [8]) (by kernel_rfl) (by simp) ?_
            refine (AllReadyH.cons rfl (fun K hK => ?_) AllReadyH.nil)
            rw [if_pos (by rfl)]
            have t0 := hT7.cell 0 (by omega)
            have t1 := hT7.cell 1 (by omega)
            have f0 := (hT7 0 (by omega)).2
            have f1 := (hT7 1 (by omega)).2
            go_simp
            refine hK.out _ _ ((hXf7.setCell hs6 _).setCell hs6 _) (fun hHeld => ?_)
            clear hK K
            try simp only [Act.put, List.setIfInBounds_toArray, List.set_cons_zero, List.set_cons_succ]
            obtain ⟨q0, q1⟩ := set2_at (r := wf3.heap.size) (u := .int .i64 c) (v := .slice a0 m cap0) (show (0 : Nat) ≠ 1 by omega) (by rw [t0]; rfl) (by rw [t1]; rfl)
            have hBf : Below w1.heap.size w1 ((wf7.setCell ⟨wf3.heap.size, 0, none⟩ (.int .i64 c)).setCell ⟨wf3.heap.size, 1, none⟩ (.slice a0 m cap0)) := (hXf7.setCell hs6 _).setCell hs6 _
            have hBs := Below.size hXf6
            have hOf : OwnN ((wf7.setCell ⟨wf3.heap.size, 0, none⟩ (.int .i64 c)).setCell ⟨wf3.heap.size, 1, none⟩ (.slice a0 m cap0)) w1.heap.size (.slice a0 m cap0) m Z := ((hO7.set (by omega)).set (by omega)).widen hBs
            have hNe : ∀ s, m ≠ 0 → a0 = some ⟨s, 0, none⟩ → s ≠ wf3.heap.size := fun s hm0 hs => by have := hk7 s hm0 hs; omega
            have hrl : wf3.heap.size < (((wf7.setCell ⟨wf3.heap.size, 0, none⟩ (.int .i64 c)).setCell ⟨wf3.heap.size, 1, none⟩ (.slice a0 m cap0)) : World).heap.size := by simpa [World.setCell] using hz7
            refine wpAnyH_done (by kernel_rfl) ?_ _
            refine NoPanic.normal ?_
            go_wp2_with fail
            go_meet
            case rel => exact ⟨_, a0, cap0, rfl, hBf, hs6, hrl, q0, q1, hOf, hNe⟩
        · rw [if_pos (by rfl)]
          go_simp
          generalize hwA : (World.alloc _ _ : World) = wf8
          have hb8 : Below wf2.heap.size wf2 wf8 := by subst hwA; (repeat (first | exact Below.refl _ _ | assumption | refine Below.drew ?_ | refine bl_alloc ?_ _ | refine bl_then ?_ (by assumption) | refine Below.setCell ?_ (by first | omega | (simp; done) | (simp; omega)) _ | refine bl_store ?_ ?_ _ _))
          have hT8 : There wf8 wf2.heap.size 2 := by subst hwA; exact there2u wf2 _ _ _
          clear hwA
          have hXf8 : Below w1.heap.size w1 wf8 := bl_then hXf2 hb8
          have hs8 : w1.heap.size ≤ wf2.heap.size := Below.size hXf2
          have hz8 : wf2.heap.size < wf8.heap.size := There.lt2u hT8
          have hq8 := NsAt.below hq2 hb8 hl2
          have hl8 := Nat.lt_of_lt_of_le hl2 (Below.size hb8)
          refine hK.out _ _ hXf8 (fun hHeld => ?_)
          clear hK K
          try simp only [Act.put, List.setIfInBounds_toArray, List.set_cons_zero, List.set_cons_succ]
          refine wpAnyH_ready (rs := [5]) (by kernel_rfl) (by simp) ?_
          refine (AllReadyH.cons rfl (fun K hK => ?_) AllReadyH.nil)
          rw [if_pos (by rfl)]
          go_simp
          refine Calls.mono (toRef_any _ _ _ _) ?_
          rintro e wf9 ⟨rfl, hb9⟩
          have hq9 := NsAt.below hq8 hb9 hl8
          have hl9 := Nat.lt_of_lt_of_le hl8 (Below.size hb9)
          have hXf9 : Below w1.heap.size w1 wf9 := bl_then hXf8 hb9
          have hT9 := There.below hT8 hb9
          have hz9 : wf2.heap.size < wf9.heap.size := There.lt2u hT9
          go_wp2_with fail
          refine hK.out _ _ hXf9 (fun hHeld => ?_)
          clear hK K
          try simp only [Act.put, List.setIfInBounds_toArray, List.set_cons_zero, List.set_cons_succ]
          refine wpAnyH_ready (rs := [6]) (by kernel_rfl) (by simp) ?_
          refine (AllReadyH.cons rfl (fun K hK => ?_) AllReadyH.nil)
          rw [if_pos (by rfl)]
          go_simp
          refine Calls.mono (Hsp.out _ _ hq9 hl9) ?_
          rintro e wf10 ⟨v0, rfl, hO10, hb10⟩
          obtain ⟨a0, cap0, rfl, hc0, hI0⟩ := hO10.pts
          have hk10 := hO10.blk
          have hXf10 : Below w1.heap.size w1 wf10 := bl_then hXf9 hb10
          have hT10 := There.below hT9 hb10
          have hz10 : wf2.heap.size < wf10.heap.size := There.lt2u hT10
          go_wp2_with fail
          refine hK.out _ _ hXf10 (fun hHeld => ?_)
          clear hK K
          try simp only [Act.put, List.setIfInBounds_toArray, List.set_cons_zero, List.set_cons_succ]
          refine wpAnyH_ready (rs := [8]) (by kernel_rfl) (by simp) ?_
          refine (AllReadyH.cons rfl (fun K hK => ?_) AllReadyH.nil)
          rw [if_pos (by rfl)]
          have t0 := hT10.cell 0 (by omega)
          have t1 := hT10.cell 1 (by omega)
          have f0 := (hT10 0 (by omega)).2
          have f1 := (hT10 1 (by omega)).2
          go_simp
          refine hK.out _ _ ((hXf10.setCell hs8 _).setCell hs8 _) (fun hHeld => ?_)
          clear hK K
          try simp only [Act.put, List.setIfInBounds_toArray, List.set_cons_zero, List.set_cons_succ]
          obtain ⟨q0, q1⟩ := set2_at (r := wf2.heap.size) (u := .int .i64 c) (v := .slice a0 m cap0) (show (0 : Nat) ≠ 1 by omega) (by rw [t0]; rfl) (by rw [t1]; rfl)
          have hBf : Below w1.heap.size w1 ((wf10.setCell ⟨wf2.heap.size, 0, none⟩ (.int .i64 c)).setCell ⟨wf2.heap.size, 1, none⟩ (.slice a0 m cap0)) := (hXf10.setCell hs8 _).setCell hs8 _
          have hBs := Below.size hXf9
          have hOf : OwnN ((wf10.setCell ⟨wf2.heap.size, 0, none⟩ (.int .i64 c)).setCell ⟨wf2.heap.size, 1, none⟩ (.slice a0 m cap0)) w1.heap.size (.slice a0 m cap0) m Z := ((hO10.set (by omega)).set (by omega)).widen hBs
          have hNe : ∀ s, m ≠ 0 → a0 = some ⟨s, 0, none⟩ → s ≠ wf2.heap.size := fun s hm0 hs => by have := hk10 s hm0 hs; omega
          have hrl : wf2.heap.size < (((wf10.setCell ⟨wf2.heap.size, 0, none⟩ (.int .i64 c)).setCell ⟨wf2.heap.size, 1, none⟩ (.slice a0 m cap0)) : World).heap.size := by simpa [World.setCell] using hz10
          refine wpAnyH_done (by kernel_rfl) ?_ _
          refine NoPanic.normal ?_
          go_wp2_with fail
          go_meet
          case rel => exact ⟨_, a0, cap0, rfl, hBf, hs8, hrl, q0, q1, hOf, hNe⟩
      · rw [if_pos (by rfl)]
        go_simp
        generalize hwA : (World.alloc _ _ : World) = wf11
        have hb11 : Below wf1.heap.size wf1 wf11 := by subst hwA; (repeat (first | exact Below.refl _ _ | assumption | refine Below.drew ?_ | refine bl_alloc ?_ _ | refine bl_then ?_ (by assumption) | refine Below.setCell ?_ (by first | omega | (simp; done) | (simp; omega)) _ | refine bl_store ?_ ?_ _ _))
        have hT11 : There wf11 wf1.heap.size 2 := by subst hwA; exact there2u wf1 _ _ _
        clear hwA
        have hXf11 : Below w1.heap.size w1 wf11 := bl_then hXf1 hb11
        have hs11 : w1.heap.size ≤ wf1.heap.size := Below.size hXf1
        have hz11 : wf1.heap.size < wf11.heap.size := There.lt2u hT11
        have hq11 := NsAt.below hq1 hb11 hl1
        have hl11 := Nat.lt_of_lt_of_le hl1 (Below.size hb11)
        refine hK.out _ _ hXf11 (fun hHeld => ?_)
        clear hK K
        try simp only [Act.put, List.setIfInBounds_toArray, List.set_cons_zero, List.set_cons_succ]
        refine wpAnyH_ready (rs := [3]) (by kernel_rfl) (by simp) ?_
        refine (AllReadyH.cons rfl (fun K hK => ?_) AllReadyH.nil)
        rw [if_pos (by rfl)]
        go_simp
        refine Calls.mono (toRef_any _ _ _ _) ?_
        rintro e wf12 ⟨rfl, hb12⟩
        have hq12 := NsAt.below hq11 hb12 hl11
        have hl12 := Nat.lt_of_lt_of_le hl11 (Below.size hb12)
        have hXf12 : Below w1.heap.size w1 wf12 := bl_then hXf11 hb12
        have hT12 := There.below hT11 hb12
        have hz12 : wf1.heap.size < wf12.heap.size := There.lt2u hT12
        go_wp2_with fail
        refine hK.out _ _ hXf12 (fun hHeld => ?_)
        clear hK K
        try simp only [Act.put, List.setIfInBounds_toArray, List.set_cons_zero, List.set_cons_succ]
        refine wpAnyH_ready (rs := [5]) (by kernel_rfl) (by simp) ?_
        refine (AllReadyH.cons rfl (fun K hK => ?_) AllReadyH.nil)
        rw [if_pos (by rfl)]
        go_simp
        refine Calls.mono (toRef_any _ _ _ _) ?_
        rintro e wf13 ⟨rfl, hb13⟩
        have hq13 := NsAt.below hq12 hb13 hl12
        have hl13 := Nat.lt_of_lt_of_le hl12 (Below.size hb13)
        have hXf13 : Below w1.heap.size w1 wf13 := bl_then hXf12 hb13
        have hT13 := There.below hT12 hb13
        have hz13 : wf1.heap.size < wf13.heap.size := There.lt2u hT13
        go_wp2_with fail
        refine hK.out _ _ hXf13 (fun hHeld => ?_)
        clear hK K
        try simp only [Act.put, List.setIfInBounds_toArray, List.set_cons_zero, List.set_cons_succ]
        refine wpAnyH_ready (rs := [6]) (by kernel_rfl) (by simp) ?_
        refine (AllReadyH.cons rfl (fun K hK => ?_) AllReadyH.nil)
        rw [if_pos (by rfl)]
        go_simp
        refine Calls.mono (Hsp.out _ _ hq13 hl13) ?_
        rintro e wf14 ⟨v0, rfl, hO14, hb14⟩
        obtain ⟨a0, cap0, rfl, hc0, hI0⟩ := hO14.pts
        have hk14 := hO14.blk
        have hXf14 : Below w1.heap.size w1 wf14 := bl_then hXf13 hb14
        have hT14 := There.below hT13 hb14
        have hz14 : wf1.heap.size < wf14.heap.size := There.lt2u hT14
        go_wp2_with fail
        refine hK.out _ _ hXf14 (fun hHeld => ?_)
        clear hK K
        try simp only [Act.put, List.setIfInBounds_toArray, List.set_cons_zero, List.set_cons_succ]
        refine wpAnyH_ready (rs := [8]) (by kernel_rfl) (by simp) ?_
        refine (AllReadyH.cons rfl (fun K hK => ?_) AllReadyH.nil)
        rw [if_pos (by rfl)]
        have t0 := hT14.cell 0 (by omega)
        have t1 := hT14.cell 1 (by omega)
        have f0 := (hT14 0 (by omega)).2
        have f1 := (hT14 1 (by omega)).2
        go_simp
        refine hK.out _ _ ((hXf14.setCell hs11 _).setCell hs11 _) (fun hHeld => ?_)
        clear hK K
        try simp only [Act.put, List.setIfInBounds_toArray, List.set_cons_zero, List.set_cons_succ]
        obtain ⟨q0, q1⟩ := set2_at (r := wf1.heap.size) (u := .int .i64 c) (v := .slice a0 m cap0) (show (0 : Nat) ≠ 1 by omega) (by rw [t0]; rfl) (by rw [t1]; rfl)
        have hBf : Below w1.heap.size w1 ((wf14.setCell ⟨wf1.heap.size, 0, none⟩ (.int .i64 c)).setCell ⟨wf1.heap.size, 1, none⟩ (.slice a0 m cap0)) := (hXf14.setCell hs11 _).setCell hs11 _
        have hBs := Below.size hXf13
        have hOf : OwnN ((wf14.setCell ⟨wf1.heap.size, 0, none⟩ (.int .i64 c)).setCell ⟨wf1.heap.size, 1, none⟩ (.slice a0 m cap0)) w1.heap.size (.slice a0 m cap0) m Z := ((hO14.set (by omega)).set (by omega)).widen hBs
        have hNe : ∀ s, m ≠ 0 → a0 = some ⟨s, 0, none⟩ → s ≠ wf1.heap.size := fun s hm0 hs => by have := hk14 s hm0 hs; omega
        have hrl : wf1.heap.size < (((wf14.setCell ⟨wf1.heap.size, 0, none⟩ (.int .i64 c)).setCell ⟨wf1.heap.size, 1, none⟩ (.slice a0 m cap0)) : World).heap.size := by simpa [World.setCell] using hz14
        refine wpAnyH_done (by kernel_rfl) ?_ _
        refine NoPanic.normal ?_
        go_wp2_with fail
        go_meet
        case rel => exact ⟨_, a0, cap0, rfl, hBf, hs11, hrl, q0, q1, hOf, hNe⟩
    · rw [if_pos (by rfl)]
      go_simp
      generalize hwA : (World.alloc _ _ : World) = wf15
      have hb15 : Below w1.heap.size w1 wf15.drew := by subst hwA; (repeat (first | exact Below.refl _ _ | assumption | refine Below.drew ?_ | refine bl_alloc ?_ _ | refine bl_then ?_ (by assumption) | refine Below.setCell ?_ (by first | omega | (simp; done) | (simp; omega)) _ | refine bl_store ?_ ?_ _ _))
      have hT15 : There wf15.drew w1.heap.size 2 := by subst hwA; exact there2u w1 _ _ _
      clear hwA
      have hXf15 : Below w1.heap.size w1 wf15.drew := hb15
      have hs15 : w1.heap.size ≤ w1.heap.size := Nat.le_refl _
      have hz15 : w1.heap.size < wf15.drew.heap.size := There.lt2u hT15
      refine hK.out _ _ hXf15 (fun hHeld => ?_)
      clear hK K
      try simp only [Act.put, List.setIfInBounds_toArray, List.set_cons_zero, List.set_cons_succ]
      refine wpAnyH_ready (rs := [1]) (by kernel_rfl) (by simp) ?_
      refine (AllReadyH.cons rfl (fun K hK => ?_) AllReadyH.nil)
      rw [if_pos (by rfl)]
      go_simp
      refine Calls.mono (HTN.out _ hXf15) ?_
      rintro e wf16 ⟨bq, rfl, hl16, hq16, hb16⟩
      have hXf16 : Below w1.heap.size w1 wf16 := bl_then hXf15 hb16
      have hT16 := There.below hT15 hb16
      have hz16 : w1.heap.size < wf16.heap.size := There.lt2u hT16
      go_wp2_with fail
      refine hK.out _ _ hXf16 (fun hHeld => ?_)
      clear hK K
      try simp only [Act.put, List.setIfInBounds_toArray, List.set_cons_zero, List.set_cons_succ]
      refine wpAnyH_ready (rs := [3]) (by kernel_rfl) (by simp) ?_
      refine (AllReadyH.cons rfl (fun K hK => ?_) AllReadyH.nil)
      rw [if_pos (by rfl)]
      go_simp
      refine Calls.mono (toRef_any _ _ _ _) ?_
      rintro e wf17 ⟨rfl, hb17⟩
      have hq17 := NsAt.below hq16 hb17 hl16
      have hl17 := Nat.lt_of_lt_of_le hl16 (Below.size hb17)
      have hXf17 : Below w1.heap.size w1 wf17 := bl_then hXf16 hb17
      have hT17 := There.below hT16 hb17
      have hz17 : w1.heap.size < wf17.heap.size := There.lt2u hT17
      go_wp2_with fail
      refine hK.out _ _ hXf17 (fun hHeld => ?_)
      clear hK K
      try simp only [Act.put, List.setIfInBounds_toArray, List.set_cons_zero, List.set_cons_succ]
      refine wpAnyH_ready (rs := [5]) (by kernel_rfl) (by simp) ?_
      refine (AllReadyH.cons rfl (fun K hK => ?_) AllReadyH.nil)
      rw [if_pos (by rfl)]
      go_simp
      refine Calls.mono (toRef_any _ _ _ _) ?_
      rintro e wf18 ⟨rfl, hb18⟩
      have hq18 := NsAt.below hq17 hb18 hl17
      have hl18 := Nat.lt_of_lt_of_le hl17 (Below.size hb18)
      have hXf18 : Below w1.heap.size w1 wf18 := bl_then hXf17 hb18
      have hT18 := There.below hT17 hb18
      have hz18 : w1.heap.size < wf18.heap.size := There.lt2u hT18
      go_wp2_with fail
      refine hK.out _ _ hXf18 (fun hHeld => ?_)
      clear hK K
      try simp only [Act.put, List.setIfInBounds_toArray, List.set_cons_zero, List.set_cons_succ]
      refine wpAnyH_ready (rs := [6]) (by kernel_rfl) (by simp) ?_
      refine (AllReadyH.cons rfl (fun K hK => ?_) AllReadyH.nil)
      rw [if_pos (by rfl)]
      go_simp
      refine Calls.mono (Hsp.out _ _ hq18 hl18) ?_
      rintro e wf19 ⟨v0, rfl, hO19, hb19⟩
      obtain ⟨a0, cap0, rfl, hc0, hI0⟩ := hO19.pts
      have hk19 := hO19.blk
      have hXf19 : Below w1.heap.size w1 wf19 := bl_then hXf18 hb19
      have hT19 := There.below hT18 hb19
      have hz19 : w1.heap.size < wf19.heap.size := There.lt2u hT19
      go_wp2_with fail
      refine hK.out _ _ hXf19 (fun hHeld => ?_)
      clear hK K
      try simp only [Act.put, List.setIfInBounds_toArray, List.set_cons_zero, List.set_cons_succ]
      refine wpAnyH_ready (rs := [8]) (by kernel_rfl) (by simp) ?_
      refine (AllReadyH.cons rfl (fun K hK => ?_) AllReadyH.nil)
      rw [if_pos (by rfl)]
      have t0 := hT19.cell 0 (by omega)
      have t1 := hT19.cell 1 (by omega)
      have f0 := (hT19 0 (by omega)).2
      have f1 := (hT19 1 (by omega)).2
      go_simp
      refine hK.out _ _ ((hXf19.setCell hs15 _).setCell hs15 _) (fun hHeld => ?_)
      clear hK K
      try simp only [Act.put, List.setIfInBounds_toArray, List.set_cons_zero, List.set_cons_succ]
      obtain ⟨q0, q1⟩ := set2_at (r := w1.heap.size) (u := .int .i64 c) (v := .slice a0 m cap0) (show (0 : Nat) ≠ 1 by omega) (by rw [t0]; rfl) (by rw [t1]; rfl)
      have hBf : Below w1.heap.size w1 ((wf19.setCell ⟨w1.heap.size, 0, none⟩ (.int .i64 c)).setCell ⟨w1.heap.size, 1, none⟩ (.slice a0 m cap0)) := (hXf19.setCell hs15 _).setCell hs15 _
      have hBs := Below.size hXf18
      have hOf : OwnN ((wf19.setCell ⟨w1.heap.size, 0, none⟩ (.int .i64 c)).setCell ⟨w1.heap.size, 1, none⟩ (.slice a0 m cap0)) w1.heap.size (.slice a0 m cap0) m Z := ((hO19.set (by omega)).set (by omega)).widen hBs
      have hNe : ∀ s, m ≠ 0 → a0 = some ⟨s, 0, none⟩ → s ≠ w1.heap.size := fun s hm0 hs => by have := hk19 s hm0 hs; omega
      have hrl : w1.heap.size < (((wf19.setCell ⟨w1.heap.size, 0, none⟩ (.int .i64 c)).setCell ⟨w1.heap.size, 1, none⟩ (.slice a0 m cap0)) : World).heap.size := by simpa [World.setCell] using hz19
      refine wpAnyH_done (by kernel_rfl) ?_ _
      refine NoPanic.normal ?_
      go_wp2_with fail
      go_meet
      case rel => exact ⟨_, a0, cap0, rfl, hBf, hs15, hrl, q0, q1, hOf, hNe⟩
  rename World => w3
  obtain ⟨b7, a0, cap0, rfl, hB3, hb7, hl7, p0, p1, hO3, _⟩ := hcut
  have HI3 : Hid (UnderN w3.heap.size w3 a0 m Z) := hO3.is
  clear hO3
  have d0 : ∀ W', Below w3.heap.size w3 W' → W'.cell? ⟨b7, 0, none⟩ = some (.int .i64 c) := fun W' h => bl_cellN h p0
  have d1 : ∀ W', Below w3.heap.size w3 W' → W'.cell? ⟨b7, 1, none⟩ = some (.slice a0 m cap0) := fun W' h => bl_cellN h p1
  clear p0 p1
  have hw3 := hB3.size
  go_wp2_with fail
  refine (toInt64S_own a n cap Zs _ (HI.out.below (bl_then hB1 hB3)) hn).mono ?_
  rintro e w4 ⟨b4, rfl, hle4, hlt4, hp4, ht4, hb4⟩
  have HP4 : Hid (NsAt w4 b4 0 n Zs) := hp4
  have HT4 : Hid (There w4 b4 n) := ht4
  have hB4 : Below w1.heap.size w1 w4 := bl_then hB3 hb4
  have hB34 : Below w3.heap.size w3 w4 := hb4
  have c00' : ∀ W', Below w4.heap.size w4 W' → W'.cell? ⟨w.heap.size, 0, none⟩ = some (.int .i64 fz) := fun W' h => c00 W' (bl_then hB4 h)
  have c01' : ∀ W', Below w4.heap.size w4 W' → W'.cell? ⟨w.heap.size, 1, none⟩ = some (.int .i64 fx) := fun W' h => c01 W' (bl_then hB4 h)
  have c02' : ∀ W', Below w4.heap.size w4 W' → W'.cell? ⟨w.heap.size, 2, none⟩ = some (.int .i64 fy) := fun W' h => c02 W' (bl_then hB4 h)
  have c10' : ∀ W', Below w4.heap.size w4 W' → W'.cell? ⟨w.heap.size + 1, 0, none⟩ = some (.int .i64 tz) := fun W' h => c10 W' (bl_then hB4 h)
  have c11' : ∀ W', Below w4.heap.size w4 W' → W'.cell? ⟨w.heap.size + 1, 1, none⟩ = some (.int .i64 tx) := fun W' h => c11 W' (bl_then hB4 h)
  have c12' : ∀ W', Below w4.heap.size w4 W' → W'.cell? ⟨w.heap.size + 1, 2, none⟩ = some (.int .i64 ty) := fun W' h => c12 W' (bl_then hB4 h)
  have HCC : Hid (∀ W', Below w1.heap.size w1 W' → W'.cell? ⟨w.heap.size, 0, none⟩ = some (.int .i64 fz) ∧ W'.cell? ⟨w.heap.size, 1, none⟩ = some (.int .i64 fx) ∧ W'.cell? ⟨w.heap.size, 2, none⟩ = some (.int .i64 fy) ∧ W'.cell? ⟨w.heap.size + 1, 0, none⟩ = some (.int .i64 tz) ∧ W'.cell? ⟨w.heap.size + 1, 1, none⟩ = some (.int .i64 tx) ∧ W'.cell? ⟨w.heap.size + 1, 2, none⟩ = some (.int .i64 ty)) := fun W' h => ⟨c00 W' h, c01 W' h, c02 W' h, c10 W' h, c11 W' h, c12 W' h⟩
  have HI4 : Hid (UnderN w3.heap.size w4 a0 m Z) := HI3.out.below hb4 (Nat.le_refl _)
  have d0' : ∀ W', Below w4.heap.size w4 W' → W'.cell? ⟨b7, 0, none⟩ = some (.int .i64 c) := fun W' h => d0 W' (bl_then hB34 h)
  have d1' : ∀ W', Below w4.heap.size w4 W' → W'.cell? ⟨b7, 1, none⟩ = some (.slice a0 m cap0) := fun W' h => d1 W' (bl_then hB34 h)
  have hle34 := hb4.size
  clear hp4 ht4 hb4 c00 c01 c02 c10 c11 c12 d0 d1 hB34 HI3
  go_wp2_with fail
  go_cut [9] (fun t w5 => ∃ (b : Nat) (a0 : Option Addr) (cap0 : Nat), t = .pointer (some ⟨b, 0, none⟩) ∧ Below w4.heap.size w4 w5 ∧ w4.heap.size ≤ b ∧ b < w5.heap.size ∧ w5.cell? ⟨b, 0, none⟩ = some (.int .i64 c) ∧ w5.cell? ⟨b, 1, none⟩ = some (.slice a0 m cap0) ∧ OwnN w5 w4.heap.size (.slice a0 m cap0) m Z ∧ (∀ s, m ≠ 0 → a0 = some ⟨s, 0, none⟩ → s ≠ b))
  case first =>
    refine wp_region_noPanic ?_
    refine wp_region_held_drew (S := fun W' => Below w4.heap.size w4 W') (by kernel_rfl) (by (repeat (first | exact Below.refl _ _ | assumption | refine Below.drew ?_ | refine bl_alloc ?_ _ | refine bl_then ?_ (by assumption) | refine Below.setCell ?_ (by first | omega | (simp; done) | (simp; omega)) _ | refine bl_store ?_ ?_ _ _))) (fun hHeld => ?_)
    have hX0 : Below w4.heap.size w4 w4.drew := hHeld
    have hq0 : NsAt w4.drew b4 0 n Zs := NsAt.below HP4.out hX0 hlt4
    have hl0 : b4 < w4.drew.heap.size := hlt4
    refine takeD (i := 0) (d := some 26) (v := ?vg0) rfl rfl (by kernel_rfl) (by kernel_rfl) (by kernel_rfl) (fun _ _ _ h => h) (Or.inl ⟨by rfl, ?hyg0⟩) (by assumption) ?_
    case hyg0 => (intro w hSw; (try dsimp only at hSw); go_simp <;> with_reducible rfl)
    try simp only [Act.put, List.setIfInBounds_toArray, List.set_cons_zero, List.set_cons_succ]
    refine takeD (i := 1) (d := some 27) (v := ?vg1) rfl rfl (by kernel_rfl) (by kernel_rfl) (by kernel_rfl) (fun _ _ _ h => h) (Or.inl ⟨by rfl, ?hyg1⟩) (by assumption) ?_
    case hyg1 => (intro w hSw; (try dsimp only at hSw); go_simp <;> with_reducible rfl)
    try simp only [Act.put, List.setIfInBounds_toArray, List.set_cons_zero, List.set_cons_succ]
    refine takeD (i := 3) (d := some 29) (v := ?vg3) rfl rfl (by kernel_rfl) (by kernel_rfl) (by kernel_rfl) (fun _ _ _ h => h) (Or.inl ⟨by rfl, ?hyg3⟩) (by assumption) ?_
    case hyg3 => (intro w hSw; (try dsimp only at hSw); go_simp <;> with_reducible rfl)
    try simp only [Act.put, List.setIfInBounds_toArray, List.set_cons_zero, List.set_cons_succ]
    refine wpAnyH_ready (rs := [2, 6]) (by kernel_rfl) (by simp) ?_
    refine (AllReadyH.cons rfl (fun K hK => ?_) (AllReadyH.cons rfl (fun K hK => ?_) AllReadyH.nil))
    · rw [if_pos (by rfl)]
      go_simp
      refine Calls.mono (toRef_any _ _ _ _) ?_
      rintro e wg1 ⟨rfl, hb1⟩
      have hq1 := NsAt.below hq0 hb1 hl0
      have hl1 := Nat.lt_of_lt_of_le hl0 (Below.size hb1)
      have hXg1 : Below w4.heap.size w4 wg1 := bl_then hX0 hb1
      go_wp2_with fail
      refine hK.out _ _ hXg1 (fun hHeld => ?_)
      clear hK K
      try simp only [Act.put, List.setIfInBounds_toArray, List.set_cons_zero, List.set_cons_succ]
      refine wpAnyH_ready (rs := [4, 6]) (by kernel_rfl) (by simp) ?_
      refine (AllReadyH.cons rfl (fun K hK => ?_) (AllReadyH.cons rfl (fun K hK => ?_) AllReadyH.nil))
      · rw [if_pos (by rfl)]
        go_simp
        refine Calls.mono (toRef_any _ _ _ _) ?_
        rintro e wg2 ⟨rfl, hb2⟩
        have hq2 := NsAt.below hq1 hb2 hl1
        have hl2 := Nat.lt_of_lt_of_le hl1 (Below.size hb2)
        have hXg2 : Below w4.heap.size w4 wg2 := bl_then hXg1 hb2
        go_wp2_with fail
        refine hK.out _ _ hXg2 (fun hHeld => ?_)
        clear hK K
        try simp only [Act.put, List.setIfInBounds_toArray, List.set_cons_zero, List.set_cons_succ]
        refine wpAnyH_ready (rs := [5, 6]) (by kernel_rfl) (by simp) ?_
        refine (AllReadyH.cons rfl (fun K hK => ?_) (AllReadyH.cons rfl (fun K hK => ?_) AllReadyH.nil))
        · rw [if_pos (by rfl)]
          go_simp
          refine Calls.mono (Him.out _ _ hq2 hl2) ?_
          rintro e wg3 ⟨v0, rfl, hO3, hb3⟩
          obtain ⟨a0, cap0, rfl, hc0, hI0⟩ := hO3.pts
          have hk3 := hO3.blk
          have hXg3 : Below w4.heap.size w4 wg3 := bl_then hXg2 hb3
          go_wp2_with fail
          refine hK.out _ _ hXg3 (fun hHeld => ?_)
          clear hK K
          try simp only [Act.put, List.setIfInBounds_toArray, List.set_cons_zero, List.set_cons_succ]
          refine wpAnyH_ready (rs := [6]) (by kernel_rfl) (by simp) ?_
          refine (AllReadyH.cons rfl (fun K hK => ?_) AllReadyH.nil)
          rw [if_pos (by rfl)]
          go_simp
          generalize hwA : (World.alloc _ _ : World) = wg4
          have hb4 : Below wg3.heap.size wg3 wg4 := by subst hwA; (repeat (first | exact Below.refl _ _ | assumption | refine Below.drew ?_ | refine bl_alloc ?_ _ | refine bl_then ?_ (by assumption) | refine Below.setCell ?_ (by first | omega | (simp; done) | (simp; omega)) _ | refine bl_store ?_ ?_ _ _))
          have hT4 : There wg4 wg3.heap.size 2 := by subst hwA; exact there2u wg3 _ _ _
          clear hwA
          have hXg4 : Below w4.heap.size w4 wg4 := bl_then hXg3 hb4
          have hs4 : w4.heap.size ≤ wg3.heap.size := Below.size hXg3
          have hz4 : wg3.heap.size < wg4.heap.size := There.lt2u hT4
          refine hK.out _ _ hXg4 (fun hHeld => ?_)
          clear hK K
          try simp only [Act.put, List.setIfInBounds_toArray, List.set_cons_zero, List.set_cons_succ]
          refine wpAnyH_ready (rs := [7]) (by kernel_rfl) (by simp) ?_
          refine (AllReadyH.cons rfl (fun K hK => ?_) AllReadyH.nil)
          rw [if_pos (by rfl)]
          have t0 := hT4.cell 0 (by omega)
          have t1 := hT4.cell 1 (by omega)
          have f0 := (hT4 0 (by omega)).2
          have f1 := (hT4 1 (by omega)).2
          go_simp
          refine hK.out _ _ ((hXg4.setCell hs4 _).setCell hs4 _) (fun hHeld => ?_)
          clear hK K
          try simp only [Act.put, List.setIfInBounds_toArray, List.set_cons_zero, List.set_cons_succ]
          obtain ⟨q0, q1⟩ := set2_at (r := wg3.heap.size) (u := .int .i64 c) (v := .slice a0 m cap0) (show (0 : Nat) ≠ 1 by omega) (by rw [t0]; rfl) (by rw [t1]; rfl)
          have hBf : Below w4.heap.size w4 ((wg4.setCell ⟨wg3.heap.size, 0, none⟩ (.int .i64 c)).setCell ⟨wg3.heap.size, 1, none⟩ (.slice a0 m cap0)) := (hXg4.setCell hs4 _).setCell hs4 _
          have hBs := Below.size hXg2
          have hOf : OwnN ((wg4.setCell ⟨wg3.heap.size, 0, none⟩ (.int .i64 c)).setCell ⟨wg3.heap.size, 1, none⟩ (.slice a0 m cap0)) w4.heap.size (.slice a0 m cap0) m Z := (hO3.below ((hb4.setCell (Nat.le_refl _) _).setCell (Nat.le_refl _) _)).widen hBs
          have hNe : ∀ s, m ≠ 0 → a0 = some ⟨s, 0, none⟩ → s ≠ wg3.heap.size := fun s hm0 hs => by have := hk3 s hm0 hs; omega
          have hrl : wg3.heap.size < (((wg4.setCell ⟨wg3.heap.size, 0, none⟩ (.int .i64 c)).setCell ⟨wg3.heap.size, 1, none⟩ (.slice a0 m cap0)) : World).heap.size := by simpa [World.setCell] using hz4
          refine wpAnyH_done (by kernel_rfl) ?_ _
          refine NoPanic.normal ?_
          go_wp2_with fail
          go_meet
          case rel => exact ⟨_, a0, cap0, rfl, hBf, hs4, hrl, q0, q1, hOf, hNe⟩
        · rw [if_pos (by rfl)]
          go_simp
          generalize hwA : (World.alloc _ _ : World) = wg5
          have hb5 : Below wg2.heap.size wg2 wg5 := by subst hwA; (repeat (first | exact Below.refl _ _ | assumption | refine Below.drew ?_ | refine bl_alloc ?_ _ | refine bl_then ?_ (by assumption) | refine Below.setCell ?_ (by first | omega | (simp; done) | (simp; omega)) _ | refine bl_store ?_ ?_ _ _))
          have hT5 : There wg5 wg2.heap.size 2 := by subst hwA; exact there2u wg2 _ _ _
          clear hwA
          have hXg5 : Below w4.heap.size w4 wg5 := bl_then hXg2 hb5
          have hs5 : w4.heap.size ≤ wg2.heap.size := Below.size hXg2
          have hz5 : wg2.heap.size < wg5.heap.size := There.lt2u hT5
          have hq5 := NsAt.below hq2 hb5 hl2
          have hl5 := Nat.lt_of_lt_of_le hl2 (Below.size hb5)
          refine hK.out _ _ hXg5 (fun hHeld => ?_)
          clear hK K
          try simp only [Act.put, List.setIfInBounds_toArray, List.set_cons_zero, List.set_cons_succ]
          refine wpAnyH_ready (rs := [5]) (by kernel_rfl) (by simp) ?_
          refine (AllReadyH.cons rfl (fun K hK => ?_) AllReadyH.nil)
          rw [if_pos (by rfl)]
          go_simp
          refine Calls.mono (Him.out _ _ hq5 hl5) ?_
          rintro e wg6 ⟨v0, rfl, hO6, hb6⟩
          obtain ⟨a0, cap0, rfl, hc0, hI0⟩ := hO6.pts
          have hk6 := hO6.blk
          have hXg6 : Below w4.heap.size w4 wg6 := bl_then hXg5 hb6
          have hT6 := There.below hT5 hb6
          have hz6 : wg2.heap.size < wg6.heap.size := There.lt2u hT6
          go_wp2_with fail
          refine hK.out _ _ hXg6 (fun hHeld => ?_)
          clear hK K
          try simp only [Act.put, List.setIfInBounds_toArray, List.set_cons_zero, List.set_cons_succ]
          refine wpAnyH_ready (rs := [7]) (by kernel_rfl) (by simp) ?_
          refine (AllReadyH.cons rfl (fun K hK => ?_) AllReadyH.nil)
          rw [if_pos (by rfl)]
          have t0 := hT6.cell 0 (by omega)
          have t1 := hT6.cell 1 (by omega)
          have f0 := (hT6 0 (by omega)).2
          have f1 := (hT6 1 (by omega)).2
          go_simp
          refine hK.out _ _ ((hXg6.setCell hs5 _).setCell hs5 _) (fun hHeld => ?_)
          clear hK K
          try simp only [Act.put, List.setIfInBounds_toArray, List.set_cons_zero, List.set_cons_succ]
          obtain ⟨q0, q1⟩ := set2_at (r := wg2.heap.size) (u := .int .i64 c) (v := .slice a0 m cap0) (show (0 : Nat) ≠ 1 by omega) (by rw [t0]; rfl) (by rw [t1]; rfl)
          have hBf : Below w4.heap.size w4 ((wg6.setCell ⟨wg2.heap.size, 0, none⟩ (.int .i64 c)).setCell ⟨wg2.heap.size, 1, none⟩ (.slice a0 m cap0)) := (hXg6.setCell hs5 _).setCell hs5 _
          have hBs := Below.size hXg5
          have hOf : OwnN ((wg6.setCell ⟨wg2.heap.size, 0, none⟩ (.int .i64 c)).setCell ⟨wg2.heap.size, 1, none⟩ (.slice a0 m cap0)) w4.heap.size (.slice a0 m cap0) m Z := ((hO6.set (by omega)).set (by omega)).widen hBs
          have hNe : ∀ s, m ≠ 0 → a0 = some ⟨s, 0, none⟩ → s ≠ wg2.heap.size := fun s hm0 hs => by have := hk6 s hm0 hs; omega
          have hrl : wg2.heap.size < (((wg6.setCell ⟨wg2.heap.size, 0, none⟩ (.int .i64 c)).setCell ⟨wg2.heap.size, 1, none⟩ (.slice a0 m cap0)) : World).heap.size := by simpa [World.setCell] using hz6
          refine wpAnyH_done (by kernel_rfl) ?_ _
          refine NoPanic.normal ?_
          go_wp2_with fail
          go_meet
          case rel => exact ⟨_, a0, cap0, rfl, hBf, hs5, hrl, q0, q1, hOf, hNe⟩
      · rw [if_pos (by rfl)]
        go_simp
        generalize hwA : (World.alloc _ _ : World) = wg7
        have hb7 : Below wg1.heap.size wg1 wg7 := by subst hwA; (repeat (first | exact Below.refl _ _ | assumption | refine Below.drew ?_ | refine bl_alloc ?_ _ | refine bl_then ?_ (by assumption) | refine Below.setCell ?_ (by first | omega | (simp; done) | (simp; omega)) _ | refine bl_store ?_ ?_ _ _))
        have hT7 : There wg7 wg1.heap.size 2 := by subst hwA; exact there2u wg1 _ _ _
        clear hwA
        have hXg7 : Below w4.heap.size w4 wg7 := bl_then hXg1 hb7
        have hs7 : w4.heap.size ≤ wg1.heap.size := Below.size hXg1
        have hz7 : wg1.heap.size < wg7.heap.size := There.lt2u hT7
        have hq7 := NsAt.below hq1 hb7 hl1
        have hl7 := Nat.lt_of_lt_of_le hl1 (Below.size hb7)
        refine hK.out _ _ hXg7 (fun hHeld => ?_)
        clear hK K
        try simp only [Act.put, List.setIfInBounds_toArray, List.set_cons_zero, List.set_cons_succ]
        refine wpAnyH_ready (rs := [4]) (by kernel_rfl) (by simp) ?_
        refine (AllReadyH.cons rfl (fun K hK => ?_) AllReadyH.nil)
        rw [if_pos (by rfl)]
        go_simp
        refine Calls.mono (toRef_any _ _ _ _) ?_
        rintro e wg8 ⟨rfl, hb8⟩
        have hq8 := NsAt.below hq7 hb8 hl7
        have hl8 := Nat.lt_of_lt_of_le hl7 (Below.size hb8)
        have hXg8 : Below w4.heap.size w4 wg8 := bl_then hXg7 hb8
        have hT8 := There.below hT7 hb8
        have hz8 : wg1.heap.size < wg8.heap.size := There.lt2u hT8
        go_wp2_with fail
        refine hK.out _ _ hXg8 (fun hHeld => ?_)
        clear hK K
        try simp only [Act.put, List.setIfInBounds_toArray, List.set_cons_zero, List.set_cons_succ]
        refine wpAnyH_ready (rs := [5]) (by kernel_rfl) (by simp) ?_
        refine (AllReadyH.cons rfl (fun K hK => ?_) AllReadyH.nil)
        rw [if_pos (by rfl)]
        go_simp
        refine Calls.mono (Him.out _ _ hq8 hl8) ?_
        rintro e wg9 ⟨v0, rfl, hO9, hb9⟩
        obtain ⟨a0, cap0, rfl, hc0, hI0⟩ := hO9.pts
        have hk9 := hO9.blk
        have hXg9 : Below w4.heap.size w4 wg9 := bl_then hXg8 hb9
        have hT9 := There.below hT8 hb9
        have hz9 : wg1.heap.size < wg9.heap.size := There.lt2u hT9
        go_wp2_with fail
        refine hK.out _ _ hXg9 (fun hHeld => ?_)
        clear hK K
        try simp only [Act.put, List.setIfInBounds_toArray, List.set_cons_zero, List.set_cons_succ]
        refine wpAnyH_ready (rs := [7]) (by kernel_rfl) (by simp) ?_
        refine (AllReadyH.cons rfl (fun K hK => ?_) AllReadyH.nil)
        rw [if_pos (by rfl)]
        have t0 := hT9.cell 0 (by omega)
        have t1 := hT9.cell 1 (by omega)
        have f0 := (hT9 0 (by omega)).2
        have f1 := (hT9 1 (by omega)).2
        go_simp
        refine hK.out _ _ ((hXg9.setCell hs7 _).setCell hs7 _) (fun hHeld => ?_)
        clear hK K
        try simp only [Act.put, List.setIfInBounds_toArray, List.set_cons_zero, List.set_cons_succ]
        obtain ⟨q0, q1⟩ := set2_at (r := wg1.heap.size) (u := .int .i64 c) (v := .slice a0 m cap0) (show (0 : Nat) ≠ 1 by omega) (by rw [t0]; rfl) (by rw [t1]; rfl)
        have hBf : Below w4.heap.size w4 ((wg9.setCell ⟨wg1.heap.size, 0, none⟩ (.int .i64 c)).setCell ⟨wg1.heap.size, 1, none⟩ (.slice a0 m cap0)) := (hXg9.setCell hs7 _).setCell hs7 _
        have hBs := Below.size hXg8
        have hOf : OwnN ((wg9.setCell ⟨wg1.heap.size, 0, none⟩ (.int .i64 c)).setCell ⟨wg1.heap.size, 1, none⟩ (.slice a0 m cap0)) w4.heap.size (.slice a0 m cap0) m Z := ((hO9.set (by omega)).set (by omega)).widen hBs
        have hNe : ∀ s, m ≠ 0 → a0 = some ⟨s, 0, none⟩ → s ≠ wg1.heap.size := fun s hm0 hs => by have := hk9 s hm0 hs; omega
        have hrl : wg1.heap.size < (((wg9.setCell ⟨wg1.heap.size, 0, none⟩ (.int .i64 c)).setCell ⟨wg1.heap.size, 1, none⟩ (.slice a0 m cap0)) : World).heap.size := by simpa [World.setCell] using hz9
        refine wpAnyH_done (by kernel_rfl) ?_ _
        refine NoPanic.normal ?_
        go_wp2_with fail
        go_meet
        case rel => exact ⟨_, a0, cap0, rfl, hBf, hs7, hrl, q0, q1, hOf, hNe⟩
    · rw [if_pos (by rfl)]
      go_simp
      generalize hwA : (World.alloc _ _ : World) = wg10
      have hb10 : Below w4.heap.size w4 wg10.drew := by subst hwA; (repeat (first | exact Below.refl _ _ | assumption | refine Below.drew ?_ | refine bl_alloc ?_ _ | refine bl_then ?_ (by assumption) | refine Below.setCell ?_ (by first | omega | (simp; done) | (simp; omega)) _ | refine bl_store ?_ ?_ _ _))
      have hT10 : There wg10.drew w4.heap.size 2 := by subst hwA; exact there2u w4 _ _ _
      clear hwA
      have hXg10 : Below w4.heap.size w4 wg10.drew := hb10
      have hs10 : w4.heap.size ≤ w4.heap.size := Nat.le_refl _
      have hz10 : w4.heap.size < wg10.drew.heap.size := There.lt2u hT10
      have hq10 := NsAt.below HP4.out hb10 hlt4
      have hl10 := Nat.lt_of_lt_of_le hlt4 (Below.size hb10)
      refine hK.out _ _ hXg10 (fun hHeld => ?_)
      clear hK K
      try simp only [Act.put, List.setIfInBounds_toArray, List.set_cons_zero, List.set_cons_succ]
      refine wpAnyH_ready (rs := [2]) (by kernel_rfl) (by simp) ?_
      refine (AllReadyH.cons rfl (fun K hK => ?_) AllReadyH.nil)
      rw [if_pos (by rfl)]
      go_simp
      refine Calls.mono (toRef_any _ _ _ _) ?_
      rintro e wg11 ⟨rfl, hb11⟩
      have hq11 := NsAt.below hq10 hb11 hl10
      have hl11 := Nat.lt_of_lt_of_le hl10 (Below.size hb11)
      have hXg11 : Below w4.heap.size w4 wg11 := bl_then hXg10 hb11
      have hT11 := There.below hT10 hb11
      have hz11 : w4.heap.size < wg11.heap.size := There.lt2u hT11
      go_wp2_with fail
      refine hK.out _ _ hXg11 (fun hHeld => ?_)
      clear hK K
      try simp only [Act.put, List.setIfInBounds_toArray, List.set_cons_zero, List.set_cons_succ]
      refine wpAnyH_ready (rs := [4]) (by kernel_rfl) (by simp) ?_
      refine (AllReadyH.cons rfl (fun K hK => ?_) AllReadyH.nil)
      rw [if_pos (by rfl)]
      go_simp
      refine Calls.mono (toRef_any _ _ _ _) ?_
      rintro e wg12 ⟨rfl, hb12⟩
      have hq12 := NsAt.below hq11 hb12 hl11
      have hl12 := Nat.lt_of_lt_of_le hl11 (Below.size hb12)
      have hXg12 : Below w4.heap.size w4 wg12 := bl_then hXg11 hb12
      have hT12 := There.below hT11 hb12
      have hz12 : w4.heap.size < wg12.heap.size := There.lt2u hT12
      go_wp2_with fail
      refine hK.out _ _ hXg12 (fun hHeld => ?_)
      clear hK K
      try simp only [Act.put, List.setIfInBounds_toArray, List.set_cons_zero, List.set_cons_succ]
      refine wpAnyH_ready (rs := [5]) (by kernel_rfl) (by simp) ?_
      refine (AllReadyH.cons rfl (fun K hK => ?_) AllReadyH.nil)
      rw [if_pos (by rfl)]
      go_simp
      refine Calls.mono (Him.out _ _ hq12 hl12) ?_
      rintro e wg13 ⟨v0, rfl, hO13, hb13⟩
      obtain ⟨a0, cap0, rfl, hc0, hI0⟩ := hO13.pts
      have hk13 := hO13.blk
      have hXg13 : Below w4.heap.size w4 wg13 := bl_then hXg12 hb13
      have hT13 := There.below hT12 hb13
      have hz13 : w4.heap.size < wg13.heap.size := There.lt2u hT13
      go_wp2_with fail
      refine hK.out _ _ hXg13 (fun hHeld => ?_)
      clear hK K
      try simp only [Act.put, List.setIfInBounds_toArray, List.set_cons_zero, List.set_cons_succ]
      refine wpAnyH_ready (rs := [7]) (by kernel_rfl) (by simp) ?_
      refine (AllReadyH.cons rfl (fun K hK => ?_) AllReadyH.nil)
      rw [if_pos (by rfl)]
      have t0 := hT13.cell 0 (by omega)
      have t1 := hT13.cell 1 (by omega)
      have f0 := (hT13 0 (by omega)).2
      have f1 := (hT13 1 (by omega)).2
      go_simp
      refine hK.out _ _ ((hXg13.setCell hs10 _).setCell hs10 _) (fun hHeld => ?_)
      clear hK K
      try simp only [Act.put, List.setIfInBounds_toArray, List.set_cons_zero, List.set_cons_succ]
      obtain ⟨q0, q1⟩ := set2_at (r := w4.heap.size) (u := .int .i64 c) (v := .slice a0 m cap0) (show (0 : Nat) ≠ 1 by omega) (by rw [t0]; rfl) (by rw [t1]; rfl)
      have hBf : Below w4.heap.size w4 ((wg13.setCell ⟨w4.heap.size, 0, none⟩ (.int .i64 c)).setCell ⟨w4.heap.size, 1, none⟩ (.slice a0 m cap0)) := (hXg13.setCell hs10 _).setCell hs10 _
      have hBs := Below.size hXg12
      have hOf : OwnN ((wg13.setCell ⟨w4.heap.size, 0, none⟩ (.int .i64 c)).setCell ⟨w4.heap.size, 1, none⟩ (.slice a0 m cap0)) w4.heap.size (.slice a0 m cap0) m Z := ((hO13.set (by omega)).set (by omega)).widen hBs
      have hNe : ∀ s, m ≠ 0 → a0 = some ⟨s, 0, none⟩ → s ≠ w4.heap.size := fun s hm0 hs => by have := hk13 s hm0 hs; omega
      have hrl : w4.heap.size < (((wg13.setCell ⟨w4.heap.size, 0, none⟩ (.int .i64 c)).setCell ⟨w4.heap.size, 1, none⟩ (.slice a0 m cap0)) : World).heap.size := by simpa [World.setCell] using hz13
      refine wpAnyH_done (by kernel_rfl) ?_ _
      refine NoPanic.normal ?_
      go_wp2_with fail
      go_meet
      case rel => exact ⟨_, a0, cap0, rfl, hBf, hs10, hrl, q0, q1, hOf, hNe⟩
  rename World => w5
  obtain ⟨b9, a1, cap1, rfl, hB5, hb9, hl9, r0, r1, hO5, hne5⟩ := hcut
  have HO5 : Hid (OwnN w5 w4.heap.size (.slice a1 m cap1) m Z) := hO5
  have HNE : Hid (∀ s, m ≠ 0 → a1 = some ⟨s, 0, none⟩ → s ≠ b9) := hne5
  have HI5 : Hid (UnderN w3.heap.size w5 a0 m Z) := HI4.out.below hB5 hle34
  have p0 := d0' _ hB5
  have p1 := d1' _ hB5
  have HP5 : Hid (NsAt w5 b4 0 n Zs) := HP4.out.below hB5 hlt4
  have HT5 : Hid (There w5 b4 n) := HT4.out.below hB5
  have hw5 := hB5.size
  have HB5 : Hid (Below w1.heap.size w1 w5) := bl_then hB4 hB5
  clear hO5 hne5 d0' d1' c00' c01' c02' c10' c11' c12' HI4 HP4 HT4 hB4 hB5
  go_wp2_with fail
  refine (eqIntsResult_any c _ _ _ _ _ Z _ HO5.out.is (HI5.out.is (by omega)) hm).mono ?_
  rintro e w6 ⟨rfl, hb6⟩
  have hw6 := hb6.size
  have HO6 : Hid (OwnN w6 w4.heap.size (.slice a1 m cap1) m Z) := HO5.out.below hb6
  have HI6 : Hid (UnderN w3.heap.size w6 a0 m Z) := HI5.out.below hb6 (by omega)
  have HP6 : Hid (NsAt w6 b4 0 n Zs) := HP5.out.below hb6 (by omega)
  have HT6 : Hid (There w6 b4 n) := HT5.out.below hb6
  have HB6 : Hid (Below w1.heap.size w1 w6) := bl_then HB5.out hb6
  have g0 := bl_cellN hb6 r0
  have g1 := bl_cellN hb6 r1
  have h0 := bl_cellN hb6 p0
  have h1 := bl_cellN hb6 p1
  clear r0 r1 p0 p1 hb6 HO5 HI5 HP5 HT5 HB5
  go_wp2_with fail
  refine (toInt64S_own a n cap Zs _ (HI.out.below (bl_then hB1 HB6.out)) hn).mono ?_
  rintro e w7 ⟨b7', rfl, hle7, hlt7, hp7, ht7, hb7'⟩
  have HQ7 : Hid (NsAt w7 b7' 0 n Zs) := hp7
  have hw7 := hb7'.size
  have HO7 : Hid (OwnN w7 w4.heap.size (.slice a1 m cap1) m Z) := HO6.out.below hb7'
  have HI7 : Hid (UnderN w3.heap.size w7 a0 m Z) := HI6.out.below hb7' (by omega)
  have HP7 : Hid (NsAt w7 b4 0 n Zs) := HP6.out.below hb7' (by omega)
  have HT7 : Hid (There w7 b4 n) := HT6.out.below hb7'
  have HB7 : Hid (Below w1.heap.size w1 w7) := bl_then HB6.out hb7'
  have r0 := bl_cellN hb7' g0
  have r1 := bl_cellN hb7' g1
  have p0 := bl_cellN hb7' h0
  have p1 := bl_cellN hb7' h1
  clear g0 g1 h0 h1 hb7' HO6 HI6 HP6 HT6 HB6 hp7 ht7
  go_wp2_with fail
  refine (eqInt64S_any _ _ _ _ _ Zs _ (HP7.out.is (by omega)) (HQ7.out.is hlt7) hn).mono ?_
  rintro e w8 ⟨rfl, hb8⟩
  have hw8 := hb8.size
  have HO8 : Hid (OwnN w8 w4.heap.size (.slice a1 m cap1) m Z) := HO7.out.below hb8
  have HI8 : Hid (UnderN w3.heap.size w8 a0 m Z) := HI7.out.below hb8 (by omega)
  have HT8 : Hid (There w8 b4 n) := HT7.out.below hb8
  have HB8 : Hid (Below w1.heap.size w1 w8) := bl_then HB7.out hb8
  have g0 := bl_cellN hb8 r0
  have g1 := bl_cellN hb8 r1
  have h0 := bl_cellN hb8 p0
  have h1 := bl_cellN hb8 p1
  clear r0 r1 p0 p1 hb8 HO7 HI7 HP7 HQ7 HT7 HB7
  have HK : Hid (∀ W, There W b4 n → b4 < W.heap.size → Calls Try.prog 16 #[.slice (some ⟨b4, 0, none⟩) n n, .int .i64 1] W fun e w' => e = .returned (.int .i64 ((1 + n : Nat) : Int)) ∧ W.grownBy w' (some b4)) := fun W hT hl => (markInt64S_any b4 n n 1 W hT hl hn (by omega)).mono fun e w' ⟨he, hg, _, _⟩ => ⟨he, hg⟩
  have hqn : ¬ ((1 + n : Nat) : Int) < 0 := by omega
  generalize ((1 + n : Nat) : Int) = qn at *
  go_wp2_with fail
  -- the argument is marked
  refine Calls.mono (HK.out _ HT8.out (by omega)) ?_
  rintro e wa ⟨rfl, hGa⟩
  have hwa := hGa.size
  have l0 : wa.cell? ⟨b9, 0, none⟩ = some (.int .i64 c) := ro_cellN hGa g0 (fun s hs => by injection hs with hs; omega)
  have l1 : wa.cell? ⟨b9, 1, none⟩ = some (.slice a1 m cap1) := ro_cellN hGa g1 (fun s hs => by injection hs with hs; omega)
  have m0 : wa.cell? ⟨b7, 0, none⟩ = some (.int .i64 c) := ro_cellN hGa h0 (fun s hs => by injection hs with hs; omega)
  have m1 : wa.cell? ⟨b7, 1, none⟩ = some (.slice a0 m cap0) := ro_cellN hGa h1 (fun s hs => by injection hs with hs; omega)
  have HOa : Hid (OwnN wa w4.heap.size (.slice a1 m cap1) m Z) := HO8.out.row hGa (by omega)
  have HIa : Hid (UnderN w3.heap.size wa a0 m Z) := HI8.out.row hGa (fun s hs => by injection hs with hs; omega)
  have HBa : Hid (Below w1.heap.size w1 wa) := HB8.out.trans (below_rowN hGa (fun s hs => by injection hs with hs; omega) (by omega))
  clear g0 g1 h0 h1 hGa HO8 HI8 HT8 HB8 HK
  go_wp2_with fail
  refine (eqIntsResult_any c _ _ _ _ _ Z _ HOa.out.is (HIa.out.is (by omega)) hm).mono ?_
  rintro e wb ⟨rfl, hbb⟩
  have g0 := bl_cellN hbb l0
  have g1 := bl_cellN hbb l1
  have h0 := bl_cellN hbb m0
  have h1 := bl_cellN hbb m1
  have hwb := hbb.size
  have HOb : Hid (OwnN wb w4.heap.size (.slice a1 m cap1) m Z) := HOa.out.below hbb
  have HIb : Hid (UnderN w3.heap.size wb a0 m Z) := HIa.out.below hbb (by omega)
  have HBb : Hid (Below w1.heap.size w1 wb) := bl_then HBa.out hbb
  clear l0 l1 m0 m1 HOa HIa HBa hbb
  -- the answer is marked
  obtain ⟨row, hrow, Hmark⟩ := mark_ownU c w4.heap.size m cap1 a1 Z wb HOb.out hm
  have Hmark' := (show Hid _ from Hmark)
  have Hrow : Hid (∀ s, row = some s → w4.heap.size ≤ s ∧ s ≠ b9) := fun s hs => ⟨(hrow s hs).1, HNE.out s (hrow s hs).2.1 (hrow s hs).2.2⟩
  clear Hmark hrow
  have hqm : ¬ ((1 + m : Nat) : Int) < 0 := by omega
  have Hheld : Hid (∀ w, OwnN w w4.heap.size (.slice a1 m cap1) m (mkN 1) → Calls Try.prog 18 #[.agg #[.int .i64 c, .slice a1 m cap1], .int .i64 1] w fun e w' => e = .returned (.int .i64 ((1 + m : Nat) : Int)) ∧ Below w.heap.size w w') := fun w h => heldIntsResult_any c a1 m cap1 w h.is hm
  generalize ((1 + m : Nat) : Int) = qm at *
  go_wp2_with fail
  refine Calls.mono Hmark'.out ?_
  rintro e wc ⟨rfl, hGc, hOc⟩
  have hwc := hGc.size
  have l0 : wc.cell? ⟨b9, 0, none⟩ = some (.int .i64 c) := ro_cellN hGc g0 (fun s hs => by have := Hrow.out s hs; omega)
  have l1 : wc.cell? ⟨b9, 1, none⟩ = some (.slice a1 m cap1) := ro_cellN hGc g1 (fun s hs => by have := Hrow.out s hs; omega)
  have m0 : wc.cell? ⟨b7, 0, none⟩ = some (.int .i64 c) := ro_cellN hGc h0 (fun s hs => by have := Hrow.out s hs; omega)
  have m1 : wc.cell? ⟨b7, 1, none⟩ = some (.slice a0 m cap0) := ro_cellN hGc h1 (fun s hs => by have := Hrow.out s hs; omega)
  have HOc : Hid (OwnN wc w4.heap.size (.slice a1 m cap1) m (mkN 1)) := hOc
  have HIc : Hid (UnderN w3.heap.size wc a0 m Z) := HIb.out.row hGc (fun s hs => by have := Hrow.out s hs; omega)
  have HBc : Hid (Below w1.heap.size w1 wc) := HBb.out.trans (below_rowN hGc (fun s hs => by have := Hrow.out s hs; omega) (by omega))
  clear g0 g1 h0 h1 hOc hGc HBb HIb HOb Hmark'
  go_wp2_with fail
  refine (Hheld.out _ HOc.out).mono ?_
  rintro e wd ⟨rfl, hbd⟩
  have hwd := hbd.size
  have g0 := bl_cellN hbd l0
  have g1 := bl_cellN hbd l1
  have h0 := bl_cellN hbd m0
  have h1 := bl_cellN hbd m1
  have HOd : Hid (OwnN wd w4.heap.size (.slice a1 m cap1) m (mkN 1)) := HOc.out.below hbd
  have HId : Hid (UnderN w3.heap.size wd a0 m Z) := HIc.out.below hbd (by omega)
  have HBd : Hid (Below w1.heap.size w1 wd) := bl_then HBc.out hbd
  clear l0 l1 m0 m1 HOc HIc HBc hbd HTN
  have HTN : Hid (∀ W', Below wd.heap.size wd W' → Calls Try.prog 12 #[.slice a n cap] W' fun e w' => ∃ b, e = .returned (.slice (some ⟨b, 0, none⟩) n n) ∧ b < w'.heap.size ∧ NsAt w' b 0 n Zs ∧ Below W'.heap.size W' w') := fun W' h => (toInt64S_own a n cap Zs W' (HI.out.below (bl_then hB1 (bl_then HBd.out h))) hn).mono fun e w' ⟨b, he, _, hl, hp, _, hb⟩ => ⟨b, he, hl, hp, hb⟩
  have c00 : ∀ W', Below wd.heap.size wd W' → W'.cell? ⟨w.heap.size, 0, none⟩ = some (.int .i64 fz) := fun W' h => (HCC.out W' (bl_then HBd.out h)).1
  have c01 : ∀ W', Below wd.heap.size wd W' → W'.cell? ⟨w.heap.size, 1, none⟩ = some (.int .i64 fx) := fun W' h => (HCC.out W' (bl_then HBd.out h)).2.1
  have c02 : ∀ W', Below wd.heap.size wd W' → W'.cell? ⟨w.heap.size, 2, none⟩ = some (.int .i64 fy) := fun W' h => (HCC.out W' (bl_then HBd.out h)).2.2.1
  have c10 : ∀ W', Below wd.heap.size wd W' → W'.cell? ⟨w.heap.size + 1, 0, none⟩ = some (.int .i64 tz) := fun W' h => (HCC.out W' (bl_then HBd.out h)).2.2.2.1
  have c11 : ∀ W', Below wd.heap.size wd W' → W'.cell? ⟨w.heap.size + 1, 1, none⟩ = some (.int .i64 tx) := fun W' h => (HCC.out W' (bl_then HBd.out h)).2.2.2.2.1
  have c12 : ∀ W', Below wd.heap.size wd W' → W'.cell? ⟨w.heap.size + 1, 2, none⟩ = some (.int .i64 ty) := fun W' h => (HCC.out W' (bl_then HBd.out h)).2.2.2.2.2
  go_wp2_with fail
  go_cut [13] (fun t wx => ∃ (b : Nat) (a0 : Option Addr) (cap0 : Nat), t = .pointer (some ⟨b, 0, none⟩) ∧ Below wd.heap.size wd wx ∧ wd.heap.size ≤ b ∧ b < wx.heap.size ∧ wx.cell? ⟨b, 0, none⟩ = some (.int .i64 c) ∧ wx.cell? ⟨b, 1, none⟩ = some (.slice a0 m cap0) ∧ OwnN wx wd.heap.size (.slice a0 m cap0) m Z ∧ (∀ s, m ≠ 0 → a0 = some ⟨s, 0, none⟩ → s ≠ b))
  case first =>
    refine wp_region_noPanic ?_
    refine wp_region_held_drew (S := fun W' => Below wd.heap.size wd W') (by kernel_rfl) (by (repeat (first | exact Below.refl _ _ | assumption | refine Below.drew ?_ | refine bl_alloc ?_ _ | refine bl_then ?_ (by assumption) | refine Below.setCell ?_ (by first | omega | (simp; done) | (simp; omega)) _ | refine bl_store ?_ ?_ _ _))) (fun hHeld => ?_)
    have hX0 : Below wd.heap.size wd wd.drew := hHeld
    refine takeD (i := 0) (d := some 63) (v := ?vh0) rfl rfl (by kernel_rfl) (by kernel_rfl) (by kernel_rfl) (fun _ _ _ h => h) (Or.inl ⟨by rfl, ?hyh0⟩) (by assumption) ?_
    case hyh0 => (intro w hSw; (try dsimp only at hSw); go_simp <;> with_reducible rfl)
    try simp only [Act.put, List.setIfInBounds_toArray, List.set_cons_zero, List.set_cons_succ]
    refine takeD (i := 2) (d := some 65) (v := ?vh2) rfl rfl (by kernel_rfl) (by kernel_rfl) (by kernel_rfl) (fun _ _ _ h => h) (Or.inl ⟨by rfl, ?hyh2⟩) (by assumption) ?_
    case hyh2 => (intro w hSw; (try dsimp only at hSw); go_simp <;> with_reducible rfl)
    try simp only [Act.put, List.setIfInBounds_toArray, List.set_cons_zero, List.set_cons_succ]
    refine takeD (i := 4) (d := some 67) (v := ?vh4) rfl rfl (by kernel_rfl) (by kernel_rfl) (by kernel_rfl) (fun _ _ _ h => h) (Or.inl ⟨by rfl, ?hyh4⟩) (by assumption) ?_
    case hyh4 => (intro w hSw; (try dsimp only at hSw); go_simp <;> with_reducible rfl)
    try simp only [Act.put, List.setIfInBounds_toArray, List.set_cons_zero, List.set_cons_succ]
    refine wpAnyH_ready (rs := [1, 7]) (by kernel_rfl) (by simp) ?_
    refine (AllReadyH.cons rfl (fun K hK => ?_) (AllReadyH.cons rfl (fun K hK => ?_) AllReadyH.nil))
    · rw [if_pos (by rfl)]
      go_simp
      refine Calls.mono (HTN.out _ hX0) ?_
      rintro e wh1 ⟨bq, rfl, hl1, hq1, hb1⟩
      have hXh1 : Below wd.heap.size wd wh1 := bl_then hX0 hb1
      go_wp2_with fail
      refine hK.out _ _ hXh1 (fun hHeld => ?_)
      clear hK K
      try simp only [Act.put, List.setIfInBounds_toArray, List.set_cons_zero, List.set_cons_succ]
      refine wpAnyH_ready (rs := [3, 7]) (by kernel_rfl) (by simp) ?_
      refine (AllReadyH.cons rfl (fun K hK => ?_) (AllReadyH.cons rfl (fun K hK => ?_) AllReadyH.nil))
      · rw [if_pos (by rfl)]
        go_simp
        refine Calls.mono (toRef_any _ _ _ _) ?_
        rintro e wh2 ⟨rfl, hb2⟩
        have hq2 := NsAt.below hq1 hb2 hl1
        have hl2 := Nat.lt_of_lt_of_le hl1 (Below.size hb2)
        have hXh2 : Below wd.heap.size wd wh2 := bl_then hXh1 hb2
        go_wp2_with fail
        refine hK.out _ _ hXh2 (fun hHeld => ?_)
        clear hK K
        try simp only [Act.put, List.setIfInBounds_toArray, List.set_cons_zero, List.set_cons_succ]
        refine wpAnyH_ready (rs := [5, 7]) (by kernel_rfl) (by simp) ?_
        refine (AllReadyH.cons rfl (fun K hK => ?_) (AllReadyH.cons rfl (fun K hK => ?_) AllReadyH.nil))
        · rw [if_pos (by rfl)]
          go_simp
          refine Calls.mono (toRef_any _ _ _ _) ?_
          rintro e wh3 ⟨rfl, hb3⟩
          have hq3 := NsAt.below hq2 hb3 hl2
          have hl3 := Nat.lt_of_lt_of_le hl2 (Below.size hb3)
          have hXh3 : Below wd.heap.size wd wh3 := bl_then hXh2 hb3
          go_wp2_with fail
          refine hK.out _ _ hXh3 (fun hHeld => ?_)
          clear hK K
          try simp only [Act.put, List.setIfInBounds_toArray, List.set_cons_zero, List.set_cons_succ]
          refine wpAnyH_ready (rs := [6, 7]) (by kernel_rfl) (by simp) ?_
          refine (AllReadyH.cons rfl (fun K hK => ?_) (AllReadyH.cons rfl (fun K hK => ?_) AllReadyH.nil))
          · rw [if_pos (by rfl)]
            go_simp
            refine Calls.mono (Him.out _ _ hq3 hl3) ?_
            rintro e wh4 ⟨v0, rfl, hO4, hb4⟩
            obtain ⟨a0, cap0, rfl, hc0, hI0⟩ := hO4.pts
            have hk4 := hO4.blk
            have hXh4 : Below wd.heap.size wd wh4 := bl_then hXh3 hb4
            go_wp2_with fail
            refine hK.out _ _ hXh4 (fun hHeld => ?_)
            clear hK K
            try simp only [Act.put, List.setIfInBounds_toArray, List.set_cons_zero, List.set_cons_succ]
            refine wpAnyH_ready (rs := [7]) (by kernel_rfl) (by simp) ?_
            refine (AllReadyH.cons rfl (fun K hK => ?_) AllReadyH.nil)
            rw [if_pos (by rfl)]
            go_simp
            generalize hwA : (World.alloc _ _ : World) = wh5
            have hb5 : Below wh4.heap.size wh4 wh5 := by subst hwA; (repeat (first | exact Below.refl _ _ | assumption | refine Below.drew ?_ | refine bl_alloc ?_ _ | refine bl_then ?_ (by assumption) | refine Below.setCell ?_ (by first | omega | (simp; done) | (simp; omega)) _ | refine bl_store ?_ ?_ _ _))
            have hT5 : There wh5 wh4.heap.size 2 := by subst hwA; exact there2u wh4 _ _ _
            clear hwA
            have hXh5 : Below wd.heap.size wd wh5 := bl_then hXh4 hb5
            have hs5 : wd.heap.size ≤ wh4.heap.size := Below.size hXh4
            have hz5 : wh4.heap.size < wh5.heap.size := There.lt2u hT5
            refine hK.out _ _ hXh5 (fun hHeld => ?_)
            clear hK K
            try simp only [Act.put, List.setIfInBounds_toArray, List.set_cons_zero, List.set_cons_succ]
            refine wpAnyH_ready (rs := [8]) (by kernel_rfl) (by simp) ?_
            refine (AllReadyH.cons rfl (fun K hK => ?_) AllReadyH.nil)
            rw [if_pos (by rfl)]
            have t0 := hT5.cell 0 (by omega)
            have t1 := hT5.cell 1 (by omega)
            have f0 := (hT5 0 (by omega)).2
            have f1 := (hT5 1 (by omega)).2
            go_simp
            refine hK.out _ _ ((hXh5.setCell hs5 _).setCell hs5 _) (fun hHeld => ?_)
            clear hK K
            try simp only [Act.put, List.setIfInBounds_toArray, List.set_cons_zero, List.set_cons_succ]
            obtain ⟨q0, q1⟩ := set2_at (r := wh4.heap.size) (u := .int .i64 c) (v := .slice a0 m cap0) (show (0 : Nat) ≠ 1 by omega) (by rw [t0]; rfl) (by rw [t1]; rfl)
            have hBf : Below wd.heap.size wd ((wh5.setCell ⟨wh4.heap.size, 0, none⟩ (.int .i64 c)).setCell ⟨wh4.heap.size, 1, none⟩ (.slice a0 m cap0)) := (hXh5.setCell hs5 _).setCell hs5 _
            have hBs := Below.size hXh3
            have hOf : OwnN ((wh5.setCell ⟨wh4.heap.size, 0, none⟩ (.int .i64 c)).setCell ⟨wh4.heap.size, 1, none⟩ (.slice a0 m cap0)) wd.heap.size (.slice a0 m cap0) m Z := (hO4.below ((hb5.setCell (Nat.le_refl _) _).setCell (Nat.le_refl _) _)).widen hBs
            have hNe : ∀ s, m ≠ 0 → a0 = some ⟨s, 0, none⟩ → s ≠ wh4.heap.size := fun s hm0 hs => by have := hk4 s hm0 hs; omega
            have hrl : wh4.heap.size < (((wh5.setCell ⟨wh4.heap.size, 0, none⟩ (.int .i64 c)).setCell ⟨wh4.heap.size, 1, none⟩ (.slice a0 m cap0)) : World).heap.size := by simpa [World.setCell] using hz5
            refine wpAnyH_done (by kernel_rfl) ?_ _
            refine NoPanic.normal ?_
            go_wp2_with fail
            go_meet
            case rel => exact ⟨_, a0, cap0, rfl, hBf, hs5, hrl, q0, q1, hOf, hNe⟩
          · rw [if_pos (by rfl)]
            go_simp
            generalize hwA : (World.alloc _ _ : World) = wh6
            have hb6 : Below wh3.heap.size wh3 wh6 := by subst hwA; (repeat (first | exact Below.refl _ _ | assumption | refine Below.drew ?_ | refine bl_alloc ?_ _ | refine bl_then ?_ (by assumption) | refine Below.setCell ?_ (by first | omega | (simp; done) | (simp; omega)) _ | refine bl_store ?_ ?_ _ _))
            have hT6 : There wh6 wh3.heap.size 2 := by subst hwA; exact there2u wh3 _ _ _
            clear hwA
            have hXh6 : Below wd.heap.size wd wh6 := bl_then hXh3 hb6
            have hs6 : wd.heap.size ≤ wh3.heap.size := Below.size hXh3
            have hz6 : wh3.heap.size < wh6.heap.size := There.lt2u hT6
            have hq6 := NsAt.below hq3 hb6 hl3
            have hl6 := Nat.lt_of_lt_of_le hl3 (Below.size hb6)
            refine hK.out _ _ hXh6 (fun hHeld => ?_)
            clear hK K
            try simp only [Act.put, List.setIfInBounds_toArray, List.set_cons_zero, List.set_cons_succ]
            refine wpAnyH_ready (rs := [6]) (by kernel_rfl) (by simp) ?_
            refine (AllReadyH.cons rfl (fun K hK => ?_) AllReadyH.nil)
            rw [if_pos (by rfl)]
            go_simp
            refine Calls.mono (Him.out _ _ hq6 hl6) ?_
            rintro e wh7 ⟨v0, rfl, hO7, hb7⟩
            obtain ⟨a0, cap0, rfl, hc0, hI0⟩ := hO7.pts
            have hk7 := hO7.blk
            have hXh7 : Below wd.heap.size wd wh7 := bl_then hXh6 hb7
            have hT7 := There.below hT6 hb7
            have hz7 : wh3.heap.size < wh7.heap.size := There.lt2u hT7
            go_wp2_with fail
            refine hK.out _ _ hXh7 (fun hHeld => ?_)
            clear hK K
            try simp only [Act.put, List.setIfInBounds_toArray, List.set_cons_zero, List.set_cons_succ]
            refine wpAnyH_ready (rs := [8]) (by kernel_rfl) (by simp) ?_
            refine (AllReadyH.cons rfl (fun K hK => ?_) AllReadyH.nil)
            rw [if_pos (by rfl)]
            have t0 := hT7.cell 0 (by omega)
            have t1 := hT7.cell 1 (by omega)
            have f0 := (hT7 0 (by omega)).2
            have f1 := (hT7 1 (by omega)).2
            go_simp
            refine hK.out _ _ ((hXh7.setCell hs6 _).setCell hs6 _) (fun hHeld => ?_)
            clear hK K
            try simp only [Act.put, List.setIfInBounds_toArray, List.set_cons_zero, List.set_cons_succ]
            obtain ⟨q0, q1⟩ := set2_at (r := wh3.heap.size) (u := .int .i64 c) (v := .slice a0 m cap0) (show (0 : Nat) ≠ 1 by omega) (by rw [t0]; rfl) (by rw [t1]; rfl)
            have hBf : Below wd.heap.size wd ((wh7.setCell ⟨wh3.heap.size, 0, none⟩ (.int .i64 c)).setCell ⟨wh3.heap.size, 1, none⟩ (.slice a0 m cap0)) := (hXh7.setCell hs6 _).setCell hs6 _
            have hBs := Below.size hXh6
            have hOf : OwnN ((wh7.setCell ⟨wh3.heap.size, 0, none⟩ (.int .i64 c)).setCell ⟨wh3.heap.size, 1, none⟩ (.slice a0 m cap0)) wd.heap.size (.slice a0 m cap0) m Z := ((hO7.set (by omega)).set (by omega)).widen hBs
            have hNe : ∀ s, m ≠ 0 → a0 = some ⟨s, 0, none⟩ → s ≠ wh3.heap.size := fun s hm0 hs => by have := hk7 s hm0 hs; omega
            have hrl : wh3.heap.size < (((wh7.setCell ⟨wh3.heap.size, 0, none⟩ (.int .i64 c)).setCell ⟨wh3.heap.size, 1, none⟩ (.slice a0 m cap0)) : World).heap.size := by simpa [World.setCell] using hz7
            refine wpAnyH_done (by kernel_rfl) ?_ _
            refine NoPanic.normal ?_
            go_wp2_with fail
            go_meet
            case rel => exact ⟨_, a0, cap0, rfl, hBf, hs6, hrl, q0, q1, hOf, hNe⟩
        · rw [if_pos (by rfl)]
          go_simp
          generalize hwA : (World.alloc _ _ : World) = wh8
          have hb8 : Below wh2.heap.size wh2 wh8 := by subst hwA; (repeat (first | exact Below.refl _ _ | assumption | refine Below.drew ?_ | refine bl_alloc ?_ _ | refine bl_then ?_ (by assumption) | refine Below.setCell ?_ (by first | omega | (simp; done) | (simp; omega)) _ | refine bl_store ?_ ?_ _ _))
          have hT8 : There wh8 wh2.heap.size 2 := by subst hwA; exact there2u wh2 _ _ _
          clear hwA
          have hXh8 : Below wd.heap.size wd wh8 := bl_then hXh2 hb8
          have hs8 : wd.heap.size ≤ wh2.heap.size := Below.size hXh2
          have hz8 : wh2.heap.size < wh8.heap.size := There.lt2u hT8
          have hq8 := NsAt.below hq2 hb8 hl2
          have hl8 := Nat.lt_of_lt_of_le hl2 (Below.size hb8)
          refine hK.out _ _ hXh8 (fun hHeld => ?_)
          clear hK K
          try simp only [Act.put, List.setIfInBounds_toArray, List.set_cons_zero, List.set_cons_succ]
          refine wpAnyH_ready (rs := [5]) (by kernel_rfl) (by simp) ?_
          refine (AllReadyH.cons rfl (fun K hK => ?_) AllReadyH.nil)
          rw [if_pos (by rfl)]
          go_simp
          refine Calls.mono (toRef_any _ _ _ _) ?_
          rintro e wh9 ⟨rfl, hb9⟩
          have hq9 := NsAt.below hq8 hb9 hl8
          have hl9 := Nat.lt_of_lt_of_le hl8 (Below.size hb9)
          have hXh9 : Below wd.heap.size wd wh9 := bl_then hXh8 hb9
          have hT9 := There.below hT8 hb9
          have hz9 : wh2.heap.size < wh9.heap.size := There.lt2u hT9
          go_wp2_with fail
          refine hK.out _ _ hXh9 (fun hHeld => ?_)
          clear hK K
          try simp only [Act.put, List.setIfInBounds_toArray, List.set_cons_zero, List.set_cons_succ]
          refine wpAnyH_ready (rs := [6]) (by kernel_rfl) (by simp) ?_
          refine (AllReadyH.cons rfl (fun K hK => ?_) AllReadyH.nil)
          rw [if_pos (by rfl)]
          go_simp
          refine Calls.mono (Him.out _ _ hq9 hl9) ?_
          rintro e wh10 ⟨v0, rfl, hO10, hb10⟩
          obtain ⟨a0, cap0, rfl, hc0, hI0⟩ := hO10.pts
          have hk10 := hO10.blk
          have hXh10 : Below wd.heap.size wd wh10 := bl_then hXh9 hb10
          have hT10 := There.below hT9 hb10
          have hz10 : wh2.heap.size < wh10.heap.size := There.lt2u hT10
          go_wp2_with fail
          refine hK.out _ _ hXh10 (fun hHeld => ?_)
          clear hK K
          try simp only [Act.put, List.setIfInBounds_toArray, List.set_cons_zero, List.set_cons_succ]
          refine wpAnyH_ready (rs := [8]) (by kernel_rfl) (by simp) ?_
          refine (AllReadyH.cons rfl (fun K hK => ?_) AllReadyH.nil)
          rw [if_pos (by rfl)]
          have t0 := hT10.cell 0 (by omega)
          have t1 := hT10.cell 1 (by omega)
          have f0 := (hT10 0 (by omega)).2
          have f1 := (hT10 1 (by omega)).2
          go_simp
          refine hK.out _ _ ((hXh10.setCell hs8 _).setCell hs8 _) (fun hHeld => ?_)
          clear hK K
          try simp only [Act.put, List.setIfInBounds_toArray, List.set_cons_zero, List.set_cons_succ]
          obtain ⟨q0, q1⟩ := set2_at (r := wh2.heap.size) (u := .int .i64 c) (v := .slice a0 m cap0) (show (0 : Nat) ≠ 1 by omega) (by rw [t0]; rfl) (by rw [t1]; rfl)
          have hBf : Below wd.heap.size wd ((wh10.setCell ⟨wh2.heap.size, 0, none⟩ (.int .i64 c)).setCell ⟨wh2.heap.size, 1, none⟩ (.slice a0 m cap0)) := (hXh10.setCell hs8 _).setCell hs8 _
          have hBs := Below.size hXh9
          have hOf : OwnN ((wh10.setCell ⟨wh2.heap.size, 0, none⟩ (.int .i64 c)).setCell ⟨wh2.heap.size, 1, none⟩ (.slice a0 m cap0)) wd.heap.size (.slice a0 m cap0) m Z := ((hO10.set (by omega)).set (by omega)).widen hBs
          have hNe : ∀ s, m ≠ 0 → a0 = some ⟨s, 0, none⟩ → s ≠ wh2.heap.size := fun s hm0 hs => by have := hk10 s hm0 hs; omega
          have hrl : wh2.heap.size < (((wh10.setCell ⟨wh2.heap.size, 0, none⟩ (.int .i64 c)).setCell ⟨wh2.heap.size, 1, none⟩ (.slice a0 m cap0)) : World).heap.size := by simpa [World.setCell] using hz10
          refine wpAnyH_done (by kernel_rfl) ?_ _
          refine NoPanic.normal ?_
          go_wp2_with fail
          go_meet
          case rel => exact ⟨_, a0, cap0, rfl, hBf, hs8, hrl, q0, q1, hOf, hNe⟩
      · rw [if_pos (by rfl)]
        go_simp
        generalize hwA : (World.alloc _ _ : World) = wh11
        have hb11 : Below wh1.heap.size wh1 wh11 := by subst hwA; (repeat (first | exact Below.refl _ _ | assumption | refine Below.drew ?_ | refine bl_alloc ?_ _ | refine bl_then ?_ (by assumption) | refine Below.setCell ?_ (by first | omega | (simp; done) | (simp; omega)) _ | refine bl_store ?_ ?_ _ _))
        have hT11 : There wh11 wh1.heap.size 2 := by subst hwA; exact there2u wh1 _ _ _
        clear hwA
        have hXh11 : Below wd.heap.size wd wh11 := bl_then hXh1 hb11
        have hs11 : wd.heap.size ≤ wh1.heap.size := Below.size hXh1
        have hz11 : wh1.heap.size < wh11.heap.size := There.lt2u hT11
        have hq11 := NsAt.below hq1 hb11 hl1
        have hl11 := Nat.lt_of_lt_of_le hl1 (Below.size hb11)
        refine hK.out _ _ hXh11 (fun hHeld => ?_)
        clear hK K
        try simp only [Act.put, List.setIfInBounds_toArray, List.set_cons_zero, List.set_cons_succ]
        refine wpAnyH_ready (rs := [3]) (by kernel_rfl) (by simp) ?_
        refine (AllReadyH.cons rfl (fun K hK => ?_) AllReadyH.nil)
        rw [if_pos (by rfl)]
        go_simp
        refine Calls.mono (toRef_any _ _ _ _) ?_
        rintro e wh12 ⟨rfl, hb12⟩
        have hq12 := NsAt.below hq11 hb12 hl11
        have hl12 := Nat.lt_of_lt_of_le hl11 (Below.size hb12)
        have hXh12 : Below wd.heap.size wd wh12 := bl_then hXh11 hb12
        have hT12 := There.below hT11 hb12
        have hz12 : wh1.heap.size < wh12.heap.size := There.lt2u hT12
        go_wp2_with fail
        refine hK.out _ _ hXh12 (fun hHeld => ?_)
        clear hK K
        try simp only [Act.put, List.setIfInBounds_toArray, List.set_cons_zero, List.set_cons_succ]
        refine wpAnyH_ready (rs := [5]) (by kernel_rfl) (by simp) ?_
        refine (AllReadyH.cons rfl (fun K hK => ?_) AllReadyH.nil)
        rw [if_pos (by rfl)]
        go_simp
        refine Calls.mono (toRef_any _ _ _ _) ?_
        rintro e wh13 ⟨rfl, hb13⟩
        have hq13 := NsAt.below hq12 hb13 hl12
        have hl13 := Nat.lt_of_lt_of_le hl12 (Below.size hb13)
        have hXh13 : Below wd.heap.size wd wh13 := bl_then hXh12 hb13
        have hT13 := There.below hT12 hb13
        have hz13 : wh1.heap.size < wh13.heap.size := There.lt2u hT13
        go_wp2_with fail
        refine hK.out _ _ hXh13 (fun hHeld => ?_)
        clear hK K
        try simp only [Act.put, List.setIfInBounds_toArray, List.set_cons_zero, List.set_cons_succ]
        refine wpAnyH_ready (rs := [6]) (by kernel_rfl) (by simp) ?_
        refine (AllReadyH.cons rfl (fun K hK => ?_) AllReadyH.nil)
        rw [if_pos (by rfl)]
        go_simp
        refine Calls.mono (Him.out _ _ hq13 hl13) ?_
        rintro e wh14 ⟨v0, rfl, hO14, hb14⟩
        obtain ⟨a0, cap0, rfl, hc0, hI0⟩ := hO14.pts
        have hk14 := hO14.blk
        have hXh14 : Below wd.heap.size wd wh14 := bl_then hXh13 hb14
        have hT14 := There.below hT13 hb14
        have hz14 : wh1.heap.size < wh14.heap.size := There.lt2u hT14
        go_wp2_with fail
        refine hK.out _ _ hXh14 (fun hHeld => ?_)
        clear hK K
        try simp only [Act.put, List.setIfInBounds_toArray, List.set_cons_zero, List.set_cons_succ]
        refine wpAnyH_ready (rs := [8]) (by kernel_rfl) (by simp) ?_
        refine (AllReadyH.cons rfl (fun K hK => ?_) AllReadyH.nil)
        rw [if_pos (by rfl)]
        have t0 := hT14.cell 0 (by omega)
        have t1 := hT14.cell 1 (by omega)
        have f0 := (hT14 0 (by omega)).2
        have f1 := (hT14 1 (by omega)).2
        go_simp
        refine hK.out _ _ ((hXh14.setCell hs11 _).setCell hs11 _) (fun hHeld => ?_)
        clear hK K
        try simp only [Act.put, List.setIfInBounds_toArray, List.set_cons_zero, List.set_cons_succ]
        obtain ⟨q0, q1⟩ := set2_at (r := wh1.heap.size) (u := .int .i64 c) (v := .slice a0 m cap0) (show (0 : Nat) ≠ 1 by omega) (by rw [t0]; rfl) (by rw [t1]; rfl)
        have hBf : Below wd.heap.size wd ((wh14.setCell ⟨wh1.heap.size, 0, none⟩ (.int .i64 c)).setCell ⟨wh1.heap.size, 1, none⟩ (.slice a0 m cap0)) := (hXh14.setCell hs11 _).setCell hs11 _
        have hBs := Below.size hXh13
        have hOf : OwnN ((wh14.setCell ⟨wh1.heap.size, 0, none⟩ (.int .i64 c)).setCell ⟨wh1.heap.size, 1, none⟩ (.slice a0 m cap0)) wd.heap.size (.slice a0 m cap0) m Z := ((hO14.set (by omega)).set (by omega)).widen hBs
        have hNe : ∀ s, m ≠ 0 → a0 = some ⟨s, 0, none⟩ → s ≠ wh1.heap.size := fun s hm0 hs => by have := hk14 s hm0 hs; omega
        have hrl : wh1.heap.size < (((wh14.setCell ⟨wh1.heap.size, 0, none⟩ (.int .i64 c)).setCell ⟨wh1.heap.size, 1, none⟩ (.slice a0 m cap0)) : World).heap.size := by simpa [World.setCell] using hz14
        refine wpAnyH_done (by kernel_rfl) ?_ _
        refine NoPanic.normal ?_
        go_wp2_with fail
        go_meet
        case rel => exact ⟨_, a0, cap0, rfl, hBf, hs11, hrl, q0, q1, hOf, hNe⟩
    · rw [if_pos (by rfl)]
      go_simp
      generalize hwA : (World.alloc _ _ : World) = wh15
      have hb15 : Below wd.heap.size wd wh15.drew := by subst hwA; (repeat (first | exact Below.refl _ _ | assumption | refine Below.drew ?_ | refine bl_alloc ?_ _ | refine bl_then ?_ (by assumption) | refine Below.setCell ?_ (by first | omega | (simp; done) | (simp; omega)) _ | refine bl_store ?_ ?_ _ _))
      have hT15 : There wh15.drew wd.heap.size 2 := by subst hwA; exact there2u wd _ _ _
      clear hwA
      have hXh15 : Below wd.heap.size wd wh15.drew := hb15
      have hs15 : wd.heap.size ≤ wd.heap.size := Nat.le_refl _
      have hz15 : wd.heap.size < wh15.drew.heap.size := There.lt2u hT15
      refine hK.out _ _ hXh15 (fun hHeld => ?_)
      clear hK K
      try simp only [Act.put, List.setIfInBounds_toArray, List.set_cons_zero, List.set_cons_succ]
      refine wpAnyH_ready (rs := [1]) (by kernel_rfl) (by simp) ?_
      refine (AllReadyH.cons rfl (fun K hK => ?_) AllReadyH.nil)
      rw [if_pos (by rfl)]
      go_simp
      refine Calls.mono (HTN.out _ hXh15) ?_
      rintro e wh16 ⟨bq, rfl, hl16, hq16, hb16⟩
      have hXh16 : Below wd.heap.size wd wh16 := bl_then hXh15 hb16
      have hT16 := There.below hT15 hb16
      have hz16 : wd.heap.size < wh16.heap.size := There.lt2u hT16
      go_wp2_with fail
      refine hK.out _ _ hXh16 (fun hHeld => ?_)
      clear hK K
      try simp only [Act.put, List.setIfInBounds_toArray, List.set_cons_zero, List.set_cons_succ]
      refine wpAnyH_ready (rs := [3]) (by kernel_rfl) (by simp) ?_
      refine (AllReadyH.cons rfl (fun K hK => ?_) AllReadyH.nil)
      rw [if_pos (by rfl)]
      go_simp
      refine Calls.mono (toRef_any _ _ _ _) ?_
      rintro e wh17 ⟨rfl, hb17⟩
      have hq17 := NsAt.below hq16 hb17 hl16
      have hl17 := Nat.lt_of_lt_of_le hl16 (Below.size hb17)
      have hXh17 : Below wd.heap.size wd wh17 := bl_then hXh16 hb17
      have hT17 := There.below hT16 hb17
      have hz17 : wd.heap.size < wh17.heap.size := There.lt2u hT17
      go_wp2_with fail
      refine hK.out _ _ hXh17 (fun hHeld => ?_)
      clear hK K
      try simp only [Act.put, List.setIfInBounds_toArray, List.set_cons_zero, List.set_cons_succ]
      refine wpAnyH_ready (rs := [5]) (by kernel_rfl) (by simp) ?_
      refine (AllReadyH.cons rfl (fun K hK => ?_) AllReadyH.nil)
      rw [if_pos (by rfl)]
      go_simp
      refine Calls.mono (toRef_any _ _ _ _) ?_
      rintro e wh18 ⟨rfl, hb18⟩
      have hq18 := NsAt.below hq17 hb18 hl17
      have hl18 := Nat.lt_of_lt_of_le hl17 (Below.size hb18)
      have hXh18 : Below wd.heap.size wd wh18 := bl_then hXh17 hb18
      have hT18 := There.below hT17 hb18
      have hz18 : wd.heap.size < wh18.heap.size := There.lt2u hT18
      go_wp2_with fail
      refine hK.out _ _ hXh18 (fun hHeld => ?_)
      clear hK K
      try simp only [Act.put, List.setIfInBounds_toArray, List.set_cons_zero, List.set_cons_succ]
      refine wpAnyH_ready (rs := [6]) (by kernel_rfl) (by simp) ?_
      refine (AllReadyH.cons rfl (fun K hK => ?_) AllReadyH.nil)
      rw [if_pos (by rfl)]
      go_simp
      refine Calls.mono (Him.out _ _ hq18 hl18) ?_
      rintro e wh19 ⟨v0, rfl, hO19, hb19⟩
      obtain ⟨a0, cap0, rfl, hc0, hI0⟩ := hO19.pts
      have hk19 := hO19.blk
      have hXh19 : Below wd.heap.size wd wh19 := bl_then hXh18 hb19
      have hT19 := There.below hT18 hb19
      have hz19 : wd.heap.size < wh19.heap.size := There.lt2u hT19
      go_wp2_with fail
      refine hK.out _ _ hXh19 (fun hHeld => ?_)
      clear hK K
      try simp only [Act.put, List.setIfInBounds_toArray, List.set_cons_zero, List.set_cons_succ]
      refine wpAnyH_ready (rs := [8]) (by kernel_rfl) (by simp) ?_
      refine (AllReadyH.cons rfl (fun K hK => ?_) AllReadyH.nil)
      rw [if_pos (by rfl)]
      have t0 := hT19.cell 0 (by omega)
      have t1 := hT19.cell 1 (by omega)
      have f0 := (hT19 0 (by omega)).2
      have f1 := (hT19 1 (by omega)).2
      go_simp
      refine hK.out _ _ ((hXh19.setCell hs15 _).setCell hs15 _) (fun hHeld => ?_)
      clear hK K
      try simp only [Act.put, List.setIfInBounds_toArray, List.set_cons_zero, List.set_cons_succ]
      obtain ⟨q0, q1⟩ := set2_at (r := wd.heap.size) (u := .int .i64 c) (v := .slice a0 m cap0) (show (0 : Nat) ≠ 1 by omega) (by rw [t0]; rfl) (by rw [t1]; rfl)
      have hBf : Below wd.heap.size wd ((wh19.setCell ⟨wd.heap.size, 0, none⟩ (.int .i64 c)).setCell ⟨wd.heap.size, 1, none⟩ (.slice a0 m cap0)) := (hXh19.setCell hs15 _).setCell hs15 _
      have hBs := Below.size hXh18
      have hOf : OwnN ((wh19.setCell ⟨wd.heap.size, 0, none⟩ (.int .i64 c)).setCell ⟨wd.heap.size, 1, none⟩ (.slice a0 m cap0)) wd.heap.size (.slice a0 m cap0) m Z := ((hO19.set (by omega)).set (by omega)).widen hBs
      have hNe : ∀ s, m ≠ 0 → a0 = some ⟨s, 0, none⟩ → s ≠ wd.heap.size := fun s hm0 hs => by have := hk19 s hm0 hs; omega
      have hrl : wd.heap.size < (((wh19.setCell ⟨wd.heap.size, 0, none⟩ (.int .i64 c)).setCell ⟨wd.heap.size, 1, none⟩ (.slice a0 m cap0)) : World).heap.size := by simpa [World.setCell] using hz19
      refine wpAnyH_done (by kernel_rfl) ?_ _
      refine NoPanic.normal ?_
      go_wp2_with fail
      go_meet
      case rel => exact ⟨_, a0, cap0, rfl, hBf, hs15, hrl, q0, q1, hOf, hNe⟩
  rename World => wx
  obtain ⟨bx, ax, capx, rfl, hBx, hbx, hlx, x0, x1, hOx, _⟩ := hcut
  have hwx := hBx.size
  have l0 := bl_cellN hBx g0
  have l1 := bl_cellN hBx g1
  have m0 := bl_cellN hBx h0
  have m1 := bl_cellN hBx h1
  have HOx : Hid (OwnN wx w4.heap.size (.slice a1 m cap1) m (mkN 1)) := HOd.out.below hBx
  have HIx : Hid (UnderN w3.heap.size wx a0 m Z) := HId.out.below hBx (by omega)
  have HBx : Hid (Below w1.heap.size w1 wx) := bl_then HBd.out hBx
  have HJx : Hid (IsNs wx ax m Z) := hOx.is
  clear g0 g1 h0 h1 HOd HId HBd hBx hOx c00 c01 c02 c10 c11 c12
  go_wp2_with fail
  refine (eqIntsResult_any c _ _ _ _ _ Z _ HJx.out (HIx.out.is (by omega)) hm).mono ?_
  rintro e wh ⟨rfl, hbh⟩
  have HOh : Hid (OwnN wh w4.heap.size (.slice a1 m cap1) m (mkN 1)) := HOx.out.below hbh
  have HBh : Hid (Below w1.heap.size w1 wh) := bl_then HBx.out hbh
  have k0 := bl_cellN hbh l0
  have k1 := bl_cellN hbh l1
  clear l0 l1 m0 m1 x0 x1 HOx HIx HBx HJx hbh
  go_wp2_with fail
  refine (Hheld.out _ HOh.out).mono ?_
  rintro e wi ⟨rfl, hbi'⟩
  have HBi : Hid (Below w.heap.size w wi) := bl_then hB1 (bl_then HBh.out hbi')
  clear hbi'
  go_wp2
  go_ret
  exact ⟨rfl, HBi.out⟩
theorem upL_len (n : Nat) (Z : Nat → Int) (fz fx fy tz tx ty : Int) : (upL n Z fz fx fy tz tx ty).length ≤ 64 := by
  unfold upL
  split
  · rw [rowsL_len]; omega
  · simp
theorem FnExactUpRaster_walk (a : Option Addr) (n cap : Nat) (Zs : Nat → Int) (fz fx fy tz tx ty : Int) (w : World) (h : IsNs w a n Zs ∧ n ≤ cap) :
    Calls Try.prog 4 #[.slice a n cap, refV fz fx fy, refV tz tx ty] w fun e w' => e = .returned (.bool true) ∧ Below w.heap.size w w' := by
  by_cases hb : 1048576 < n
  · exact FnExactUpRaster_big a n cap fz fx fy tz tx ty w hb
  · exact FnExactUpRaster_law (upC n Zs fz fx fy tz tx ty) a n cap _ Zs _ fz fx fy tz tx ty w h.1 (by omega) (Nat.le_trans (upL_len n Zs fz fx fy tz tx ty) (by omega))
      (fun b W hp hl => spec_UpRaster_any _ n n Zs fz fx fy tz tx ty W (hp.is hl) (by omega)) (fun b W hp hl => impl_UpRaster_any _ n n Zs fz fx fy tz tx ty W (hp.is hl) (by omega))
end Go.Proofs.Ytjkmjkfakolpfaa
