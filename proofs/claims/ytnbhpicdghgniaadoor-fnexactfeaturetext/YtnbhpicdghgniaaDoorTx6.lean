/- FeatureText of the program. -/
import Derived.Test.YtnbhpicdghgniaaDoorTx4
import Derived.Test.YtnbhpicdghgniaaDoorTx5
import Derived.Test.YtnbhpicdghgniaaDoorTake
import Derived.Laws.OwnMore
import Derived.Test.YtnbhpicdghgniaaDoorStepOwn
namespace Go.Proofs.YtnbhpicdghgniaaDoor
open Go.RowKit
set_option linter.unusedSimpArgs false
set_option linter.unusedVariables false
set_option maxRecDepth 100000

/-- A row of words of the call's own. -/
def RowS (base : Nat) (w : World) (v : Value) (l : List ByteArray) : Prop := w.ownsRow base 9 1 v l.length (l.map (.string ·))

theorem baT (s : ByteArray) : (⟨s.data.toList.toArray⟩ : ByteArray) = s := by cases s; rfl
theorem baL (s : ByteArray) : s.data.toList.length = s.size := by rw [Array.length_toList]; rfl
theorem add_plainS (g j : Nat) : (⟨g, 0, none⟩ : Addr).add j = ⟨g, j, none⟩ := by
  unfold Addr.add
  by_cases h : j = 0
  · subst h; rfl
  · simp [h]
theorem rowS_shape {base m : Nat} {w : World} {v : Value} {l : List ByteArray} (h : RowS base w v l) (hl : l.length = m + 1) : ∃ g c, v = .slice (some ⟨g, 0, none⟩) (m + 1) c := by
  obtain ⟨_, h2 | ⟨g, cp, cur, hv, _⟩⟩ := h
  · exact absurd h2.2 (by omega)
  · exact ⟨g, cp, by rw [hv, hl]⟩
theorem rowS_below {base : Nat} {w w' : World} {v : Value} {l : List ByteArray} (h : RowS base w v l) (hb : Below w.heap.size w w') : RowS base w' v l := by
  obtain ⟨h1, h2 | ⟨g, cp, cur, hv, hg, hh, hr⟩⟩ := h
  · exact ⟨h1, .inl h2⟩
  · refine ⟨h1, .inr ⟨g, cp, cur, hv, hg, ?_, hr⟩⟩
    rw [hb.block g ?_]
    · exact hh
    · rcases Nat.lt_or_ge g w.heap.size with h | h
      · exact h
      · rw [Array.getElem?_eq_none h] at hh; cases hh
theorem rowS_cap {base g n c : Nat} {w : World} {l : List ByteArray} (h : RowS base w (.slice (some ⟨g, 0, none⟩) n c) l) : n ≤ c := by
  obtain ⟨_, h2 | ⟨g', cp, cur, hv, hb, hh, hkc, hcm, hcs, htk⟩⟩ := h
  · cases h2.1
  · cases hv; exact hkc
theorem info_strp : ∃ i, Tryd.prog.info? 9 = some i ∧ i.zero = some (.string ⟨#[]⟩) ∧ i.size = 1 ∧ i.bytes = 16 := by
  refine ⟨_, rfl, ?_, ?_, ?_⟩ <;> kernel_rfl
theorem kind_words (ki : Int) (h : 1 ≤ ki ∧ ki ≤ 3) : ∃ (kv : Value) (mm : Int), (∀ w, Calls Tryd.prog 22 #[.int .i64 ki] w fun e w' => e = .returned kv ∧ Below w.heap.size w w') ∧ ∀ w, Calls Tryd.prog 21 #[kv] w fun e w' => e = .returned (.tuple #[.string (kindT ki.toNat), .int .i64 mm]) ∧ Below w.heap.size w w' := by
  by_cases k1 : ki = 1
  · subst k1; exact ⟨_, _, kindOf_1, tellKind_1⟩
  by_cases k2 : ki = 2
  · subst k2; exact ⟨_, _, kindOf_2, tellKind_2⟩
  obtain rfl : ki = 3 := by omega
  exact ⟨_, _, kindOf_3, tellKind_3⟩

set_option maxHeartbeats 8000000 in
theorem impl_FeatureText_any (id la ki wi : Int) (a : Option Addr) (n cap : Nat) (X Y : Nat → Int) (lab : ByteArray) (pr : Int) (w : World) (hpt : IsPts w a n X Y) (hl : lab.size ≤ 1048576) (hn : n ≤ 1048576) (ht : TabB w) :
    Calls Tryd.prog 8 #[.agg #[.int .i64 id, .int .i64 la, .int .i64 ki, .int .i64 wi, .slice a n cap, .string lab, .int .i64 pr]] w fun e w' => e = .returned (.agg #[.int .i64 (featC id la ki wi n X Y lab pr), .string (featT id la ki wi n X Y lab pr)]) ∧ Below w.heap.size w w' := by
  have HP : Hid (IsPts w a n X Y) := hpt
  have HTb : Hid (TabB w) := ht
  clear hpt ht
  obtain ⟨T, hT⟩ : ∃ T, T = featT id la ki wi n X Y lab pr := ⟨_, rfl⟩
  obtain ⟨c, hcc⟩ : ∃ c, c = featC id la ki wi n X Y lab pr := ⟨_, rfl⟩
  rw [← hT, ← hcc]
  go_enter Tryd.func8, Tryd.ntmps8
  go_wp2_with fail
  generalize hW : ((w.alloc _).alloc _ : World) = W
  have hB0 : Below w.heap.size w W := by subst hW; (repeat (first | exact Below.refl _ _ | assumption | refine Below.drew ?_ | refine bl_alloc ?_ _ | refine bl_then ?_ (by assumption) | refine Below.setCell ?_ (by first | omega | (simp; done) | (simp; omega)) _ | refine bl_store ?_ ?_ _ _))
  have hF : FeatAt W w.heap.size 0 id la ki wi (.slice a n cap) lab pr := by
    subst hW
    refine ⟨?_, ?_, ?_, ?_, ?_, ?_, ?_⟩ <;> simp [go_sem]
  have r0 : W.cell? ⟨w.heap.size + 1, 0, none⟩ = some (.int .i64 0) := by subst hW; simp [go_sem]
  have r1 : W.cell? ⟨w.heap.size + 1, 1, none⟩ = some (.string ⟨#[]⟩) := by subst hW; simp [go_sem]
  have f0 : W.frozen? ⟨w.heap.size + 1, 0, none⟩ = false := by subst hW; simp [go_sem]
  have f1 : W.frozen? ⟨w.heap.size + 1, 1, none⟩ = false := by subst hW; simp [go_sem]
  clear hW
  refine (FeatureFault_any id la ki wi a n cap X Y lab pr W (HP.out.below hB0) hl hn).mono ?_
  rintro e w1 ⟨rfl, hb⟩
  have hlr : w.heap.size + 1 < W.heap.size := World.block_lt_of_cell? _ _ r0
  have s0 : w1.cell? ⟨w.heap.size + 1, 0, none⟩ = some (.int .i64 0) := (hb.cell (p := ⟨w.heap.size + 1, 0, none⟩) hlr).trans r0
  have s1 : w1.cell? ⟨w.heap.size + 1, 1, none⟩ = some (.string ⟨#[]⟩) := (hb.cell (p := ⟨w.heap.size + 1, 1, none⟩) hlr).trans r1
  have t0 : w1.frozen? ⟨w.heap.size + 1, 0, none⟩ = false := (hb.frozen (p := ⟨w.heap.size + 1, 0, none⟩) hlr).trans f0
  have t1 : w1.frozen? ⟨w.heap.size + 1, 1, none⟩ = false := (hb.frozen (p := ⟨w.heap.size + 1, 1, none⟩) hlr).trans f1
  have hB1 : Below w.heap.size w w1 := hB0.trans (hb.mono hB0.size)
  have hF1 : FeatAt w1 w.heap.size 0 id la ki wi (.slice a n cap) lab pr := hF.below hb (by omega)
  have hle1 : W.heap.size ≤ w1.heap.size := hb.size
  clear r0 r1 f0 f1 hF hb
  rw [← hcc]
  by_cases hc : c = 0
  · subst hc
    have hc := hcc.symm
    obtain ⟨b1, b2, b3, b4, b5, b6, b7, b8⟩ := feat_bd hc
    have hfT : featT id la ki wi n X Y lab pr = ptsT X Y (headT id la ki.toNat wi pr lab) n := by unfold featT; rw [if_pos hc]
    rw [hfT] at hT
    subst hT
    obtain ⟨kv, mm, hk1, hk2⟩ := kind_words ki b3
    have HK1 := (show Hid _ from hk1)
    have HK2 := (show Hid _ from hk2)
    have HTB : Hid (∀ W', Below w1.heap.size w1 W' → TabB W') := fun W' h => (HTb.out.below hB1).below h
    have HPT : Hid (∀ W', Below w1.heap.size w1 W' → IsPts W' a n X Y) := fun W' h => (HP.out.below hB1).below h
    have hlt : w.heap.size < w1.heap.size := by omega
    have hl1 : w.heap.size + 1 < w1.heap.size := by omega
    have HB1 : Hid (Below w.heap.size w w1) := hB1
    have HR : Hid (∀ W', Below w1.heap.size w1 W' → W'.cell? ⟨w.heap.size + 1, 0, none⟩ = some (.int .i64 0) ∧ W'.cell? ⟨w.heap.size + 1, 1, none⟩ = some (.string ⟨#[]⟩) ∧ W'.frozen? ⟨w.heap.size + 1, 0, none⟩ = false ∧ W'.frozen? ⟨w.heap.size + 1, 1, none⟩ = false) := fun W' h => ⟨(h.cell (p := ⟨w.heap.size + 1, 0, none⟩) hl1).trans s0, (h.cell (p := ⟨w.heap.size + 1, 1, none⟩) hl1).trans s1, (h.frozen (p := ⟨w.heap.size + 1, 0, none⟩) hl1).trans t0, (h.frozen (p := ⟨w.heap.size + 1, 1, none⟩) hl1).trans t1⟩
    obtain ⟨q0, q1, q2, q3, q4, q5, q6⟩ := hF1
    simp only [Nat.zero_add] at q0 q1 q2 q3 q4 q5 q6
    have y0 : ∀ W', Below w1.heap.size w1 W' → W'.cell? ⟨w.heap.size, 0, none⟩ = some (.int .i64 id) := fun W' h => (h.cell (p := ⟨w.heap.size, 0, none⟩) hlt).trans q0
    have y1 : ∀ W', Below w1.heap.size w1 W' → W'.cell? ⟨w.heap.size, 1, none⟩ = some (.int .i64 la) := fun W' h => (h.cell (p := ⟨w.heap.size, 1, none⟩) hlt).trans q1
    have y3 : ∀ W', Below w1.heap.size w1 W' → W'.cell? ⟨w.heap.size, 3, none⟩ = some (.int .i64 wi) := fun W' h => (h.cell (p := ⟨w.heap.size, 3, none⟩) hlt).trans q3
    have y4 : ∀ W', Below w1.heap.size w1 W' → W'.cell? ⟨w.heap.size, 4, none⟩ = some (.slice a n cap) := fun W' h => (h.cell (p := ⟨w.heap.size, 4, none⟩) hlt).trans q4
    have y5 : ∀ W', Below w1.heap.size w1 W' → W'.cell? ⟨w.heap.size, 5, none⟩ = some (.string lab) := fun W' h => (h.cell (p := ⟨w.heap.size, 5, none⟩) hlt).trans q5
    have y6 : ∀ W', Below w1.heap.size w1 W' → W'.cell? ⟨w.heap.size, 6, none⟩ = some (.int .i64 pr) := fun W' h => (h.cell (p := ⟨w.heap.size, 6, none⟩) hlt).trans q6
    clear hfT hc hcc q0 q1 q3 q4 q5 q6 hk1 hk2 s0 s1 t0 t1 hlr hle1 hB0 hB1 HP HTb hn hl
    go_upto_region 5 with (first | (go_at_call 22; refine (HK1.out _).mono ?_; rintro e w2 ⟨rfl, hb2⟩) | (go_at_call 21; refine (HK2.out _).mono ?_; rintro e w3 ⟨rfl, hb3⟩))
    have hX3 : Below w1.heap.size w1 w3 := bl_then hb2 hb3
    clear hb2 hb3 q2 HK1 HK2
    refine wp_region_noPanic ?_
    refine wp_region_held_drew (S := fun W' => Below w1.heap.size w1 W') (by kernel_rfl) (by (repeat (first | exact Below.refl _ _ | assumption | refine Below.drew ?_ | refine bl_alloc ?_ _ | refine bl_then ?_ (by assumption) | refine Below.setCell ?_ (by first | omega | (simp; done) | (simp; omega)) _ | refine bl_store ?_ ?_ _ _))) (fun hHeld => ?_)
    have hXa : Below w1.heap.size w1 w3.drew := hHeld
    generalize w3.drew = wa at *
    refine takeD (i := 0) (d := some 22) (v := ?vr0) rfl rfl (by kernel_rfl) (by kernel_rfl) (by kernel_rfl) (fun _ _ _ h => h) (Or.inl ⟨by rfl, ?hyr0⟩) (by assumption) ?_
    case hyr0 => (intro w hSw; (try dsimp only at hSw); go_simp <;> with_reducible rfl)
    try simp only [Act.put, List.setIfInBounds_toArray, List.set_cons_zero, List.set_cons_succ]
    refine takeD (i := 1) (d := some 23) (v := ?vr1) rfl rfl (by kernel_rfl) (by kernel_rfl) (by kernel_rfl) (fun _ _ _ h => h) (Or.inl ⟨by rfl, ?hyr1⟩) (by assumption) ?_
    case hyr1 => (intro w hSw; (try dsimp only at hSw); go_simp <;> with_reducible rfl)
    try simp only [Act.put, List.setIfInBounds_toArray, List.set_cons_zero, List.set_cons_succ]
    refine takeD (i := 3) (d := some 25) (v := ?vr3) rfl rfl (by kernel_rfl) (by kernel_rfl) (by kernel_rfl) (fun _ _ _ h => h) (Or.inl ⟨by rfl, ?hyr3⟩) (by assumption) ?_
    case hyr3 => (intro w hSw; (try dsimp only at hSw); go_simp <;> with_reducible rfl)
    try simp only [Act.put, List.setIfInBounds_toArray, List.set_cons_zero, List.set_cons_succ]
    refine takeD (i := 4) (d := some 26) (v := ?vr4) rfl rfl (by kernel_rfl) (by kernel_rfl) (by kernel_rfl) (fun _ _ _ h => h) (Or.inl ⟨by rfl, ?hyr4⟩) (by assumption) ?_
    case hyr4 => (intro w hSw; (try dsimp only at hSw); go_simp <;> with_reducible rfl)
    try simp only [Act.put, List.setIfInBounds_toArray, List.set_cons_zero, List.set_cons_succ]
    refine takeD (i := 6) (d := some 28) (v := ?vr6) rfl rfl (by kernel_rfl) (by kernel_rfl) (by kernel_rfl) (fun _ _ _ h => h) (Or.inl ⟨by rfl, ?hyr6⟩) (by assumption) ?_
    case hyr6 => (intro w hSw; (try dsimp only at hSw); go_simp <;> with_reducible rfl)
    try simp only [Act.put, List.setIfInBounds_toArray, List.set_cons_zero, List.set_cons_succ]
    refine takeD (i := 7) (d := some 29) (v := ?vr7) rfl rfl (by kernel_rfl) (by kernel_rfl) (by kernel_rfl) (fun _ _ _ h => h) (Or.inl ⟨by rfl, ?hyr7⟩) (by assumption) ?_
    case hyr7 => (intro w hSw; (try dsimp only at hSw); go_simp <;> with_reducible rfl)
    try simp only [Act.put, List.setIfInBounds_toArray, List.set_cons_zero, List.set_cons_succ]
    refine takeD (i := 8) (d := some 30) (v := ?vr8) rfl rfl (by kernel_rfl) (by kernel_rfl) (by kernel_rfl) (fun _ _ _ h => h) (Or.inl ⟨by rfl, ?hyr8⟩) (by assumption) ?_
    case hyr8 => (intro w hSw; (try dsimp only at hSw); go_simp <;> with_reducible rfl)
    try simp only [Act.put, List.setIfInBounds_toArray, List.set_cons_zero, List.set_cons_succ]
    refine takeD (i := 10) (d := some 32) (v := ?vr10) rfl rfl (by kernel_rfl) (by kernel_rfl) (by kernel_rfl) (fun _ _ _ h => h) (Or.inl ⟨by rfl, ?hyr10⟩) (by assumption) ?_
    case hyr10 => (intro w hSw; (try dsimp only at hSw); go_simp <;> with_reducible rfl)
    try simp only [Act.put, List.setIfInBounds_toArray, List.set_cons_zero, List.set_cons_succ]
    refine takeD (i := 11) (d := some 33) (v := ?vr11) rfl rfl (by kernel_rfl) (by kernel_rfl) (by kernel_rfl) (fun _ _ _ h => h) (Or.inl ⟨by rfl, ?hyr11⟩) (by assumption) ?_
    case hyr11 => (intro w hSw; (try dsimp only at hSw); go_simp <;> with_reducible rfl)
    try simp only [Act.put, List.setIfInBounds_toArray, List.set_cons_zero, List.set_cons_succ]
    refine takeD (i := 13) (d := some 35) (v := ?vr13) rfl rfl (by kernel_rfl) (by kernel_rfl) (by kernel_rfl) (fun _ _ _ h => h) (Or.inl ⟨by rfl, ?hyr13⟩) (by assumption) ?_
    case hyr13 => (intro w hSw; (try dsimp only at hSw); go_simp <;> with_reducible rfl)
    try simp only [Act.put, List.setIfInBounds_toArray, List.set_cons_zero, List.set_cons_succ]
    refine takeD (i := 14) (d := some 36) (v := ?vr14) rfl rfl (by kernel_rfl) (by kernel_rfl) (by kernel_rfl) (fun _ _ _ h => h) (Or.inl ⟨by rfl, ?hyr14⟩) (by assumption) ?_
    case hyr14 => (intro w hSw; (try dsimp only at hSw); go_simp <;> with_reducible rfl)
    try simp only [Act.put, List.setIfInBounds_toArray, List.set_cons_zero, List.set_cons_succ]
    refine takeD (i := 15) (d := some 37) (v := ?vr15) rfl rfl (by kernel_rfl) (by kernel_rfl) (by kernel_rfl) (fun _ _ _ h => h) (Or.inl ⟨by rfl, ?hyr15⟩) (by assumption) ?_
    case hyr15 => (intro w hSw; (try dsimp only at hSw); go_simp; refine Eq.trans (if_neg (by omega)) ?_; with_reducible rfl)
    try simp only [Act.put, List.setIfInBounds_toArray, List.set_cons_zero, List.set_cons_succ]
    refine wpAnyH_ready (rs := [2]) (by kernel_rfl) (by simp) ?_
    refine (AllReadyH.cons rfl (fun K hK => ?_) AllReadyH.nil)
    rw [if_pos (by rfl)]
    go_simp
    refine Calls.mono (digitsOf_any id _ b1.1 (by omega) (HTB.out _ hXa)) ?_
    rintro e wb ⟨rfl, hbb⟩
    have hXb : Below w1.heap.size w1 wb := bl_then hXa hbb
    clear hbb
    go_wp2_with fail
    refine hK.out _ _ hXb (fun hHeld => ?_)
    clear hK K
    try simp only [Act.put, List.setIfInBounds_toArray, List.set_cons_zero, List.set_cons_succ]
    refine wpAnyH_ready (rs := [5]) (by kernel_rfl) (by simp) ?_
    refine (AllReadyH.cons rfl (fun K hK => ?_) AllReadyH.nil)
    rw [if_pos (by rfl)]
    go_simp
    refine Calls.mono (digitsOf_any la _ b2.1 (by omega) (HTB.out _ hXb)) ?_
    rintro e wc ⟨rfl, hbc⟩
    have hXc : Below w1.heap.size w1 wc := bl_then hXb hbc
    clear hbc
    go_wp2_with fail
    refine hK.out _ _ hXc (fun hHeld => ?_)
    clear hK K
    try simp only [Act.put, List.setIfInBounds_toArray, List.set_cons_zero, List.set_cons_succ]
    refine wpAnyH_ready (rs := [9]) (by kernel_rfl) (by simp) ?_
    refine (AllReadyH.cons rfl (fun K hK => ?_) AllReadyH.nil)
    rw [if_pos (by rfl)]
    go_simp
    refine Calls.mono (digitsOf_any wi _ b4.1 (by omega) (HTB.out _ hXc)) ?_
    rintro e wd ⟨rfl, hbd⟩
    have hXd : Below w1.heap.size w1 wd := bl_then hXc hbd
    clear hbd
    go_wp2_with fail
    refine hK.out _ _ hXd (fun hHeld => ?_)
    clear hK K
    try simp only [Act.put, List.setIfInBounds_toArray, List.set_cons_zero, List.set_cons_succ]
    refine wpAnyH_ready (rs := [12]) (by kernel_rfl) (by simp) ?_
    refine (AllReadyH.cons rfl (fun K hK => ?_) AllReadyH.nil)
    rw [if_pos (by rfl)]
    go_simp
    refine Calls.mono (digitsOf_any pr _ b5.1 (by omega) (HTB.out _ hXd)) ?_
    rintro e we ⟨rfl, hbe⟩
    have hXe : Below w1.heap.size w1 we := bl_then hXd hbe
    clear hbe
    go_wp2_with fail
    refine hK.out _ _ hXe (fun hHeld => ?_)
    clear hK K
    try simp only [Act.put, List.setIfInBounds_toArray, List.set_cons_zero, List.set_cons_succ]
    refine wpAnyH_ready (rs := [16]) (by kernel_rfl) (by simp) ?_
    refine (AllReadyH.cons rfl (fun K hK => ?_) AllReadyH.nil)
    rw [if_pos (by rfl)]
    go_simp
    generalize hwA : (World.alloc _ _ : World) = wf
    have HRf : Hid (RowS w1.heap.size wf (.slice (some ⟨we.heap.size, 0, none⟩) 6 6) (wordsT id la ki.toNat wi pr lab X Y 0)) := by
      subst hwA
      exact World.ownsRow_lit (base := w1.heap.size) (e := 9) (size := 1) we #[.string (digB id), .string (digB la), .string (kindT ki.toNat), .string (digB wi), .string (digB pr), .string (⟨#[45]⟩ ++ lab)] 6 hXe.size (by decide) rfl
    have hXf : Below w1.heap.size w1 wf := bl_then hXe (by subst hwA; (repeat (first | exact Below.refl _ _ | assumption | refine Below.drew ?_ | refine bl_alloc ?_ _ | refine bl_then ?_ (by assumption) | refine Below.setCell ?_ (by first | omega | (simp; done) | (simp; omega)) _ | refine bl_store ?_ ?_ _ _)))
    clear hwA
    refine hK.out _ _ hXf (fun hHeld => ?_)
    clear hK K
    try simp only [Act.put, List.setIfInBounds_toArray, List.set_cons_zero, List.set_cons_succ]
    refine takeD (i := 17) (d := some 6) (v := ?vr17) rfl rfl (by kernel_rfl) (by kernel_rfl) (by kernel_rfl) (fun _ _ _ h => h) (Or.inl ⟨by rfl, ?hyr17⟩) (by assumption) ?_
    case hyr17 => (intro w hSw; (try dsimp only at hSw); go_simp <;> with_reducible rfl)
    try simp only [Act.put, List.setIfInBounds_toArray, List.set_cons_zero, List.set_cons_succ]
    refine wpAnyH_done (by kernel_rfl) ?_ _
    refine NoPanic.normal ?_
    clear hXa hXb hXc hXd hXe hX3
    have hb45 : Hid (Below w1.heap.size w1 wf) := hXf
    have z5 := y4 wf hXf
    go_wp2_with fail
    go_loopw [6, 42] (fun v i wr => ∃ (k g cp : Nat), i = .int .i64 (k : Int) ∧ v = .slice (some ⟨g, 0, none⟩) ((6 + k : Nat)) cp ∧ k ≤ n ∧ RowS w1.heap.size wr (.slice (some ⟨g, 0, none⟩) ((6 + k : Nat)) cp) (wordsT id la ki.toNat wi pr lab X Y k) ∧ Below w1.heap.size w1 wr) (fun _ i _ => n - (intOf i).toNat)
    case atStart => exact ⟨0, _, _, rfl, rfl, Nat.zero_le _, HRf.out, hXf⟩
    case round =>
      obtain ⟨k, g, cp, rfl, rfl, hkn, hR, hB⟩ := hrel
      have HRk : Hid (RowS w1.heap.size wr (.slice (some ⟨g, 0, none⟩) ((6 + k : Nat)) cp) (wordsT id la ki.toNat wi pr lab X Y k)) := hR
      clear hR HRf hb45 z5 hXf
      by_cases hk : k < n
      · have hki : (k : Int) < (n : Int) := by omega
        have hx := (b8 k hk).1
        have hy := (b8 k hk).2
        have zx : ((digB (X k)).size : Int) ≤ 21 := by have := digB_size _ hx.1 hx.2; omega
        have zy : ((digB (Y k)).size : Int) ≤ 21 := by have := digB_size _ hy.1 hy.2; omega
        rcases HPT.out wr hB with h0 | ⟨b, off, rfl, hbl, hp⟩
        · omega
        obtain ⟨g0, g1⟩ := hp k hk
        clear hp
        have hgr : g < wr.heap.size := (World.ownsRow.lt HRk.out g rfl).2
        have zt : (6 + k : Nat) ≤ 18 := by omega
        go_upto_region 9 with fail
        generalize hWq : (World.alloc wr _ : World) = wq
        have e0 : wq.cell? ⟨wr.heap.size, 0, none⟩ = some (.int .i64 (X k)) := by subst hWq; simp [go_sem]
        have e1 : wq.cell? ⟨wr.heap.size, 1, none⟩ = some (.int .i64 (Y k)) := by subst hWq; simp [go_sem]
        have hlq : wr.heap.size < wq.heap.size := World.block_lt_of_cell? _ _ e0
        have HRq : Hid (RowS w1.heap.size wq (.slice (some ⟨g, 0, none⟩) ((6 + k : Nat)) cp) (wordsT id la ki.toNat wi pr lab X Y k)) := by subst hWq; exact World.ownsRow.alloc HRk.out _
        have hBq : Below w1.heap.size w1 wq := bl_then hB (by subst hWq; (repeat (first | exact Below.refl _ _ | assumption | refine Below.drew ?_ | refine bl_alloc ?_ _ | refine bl_then ?_ (by assumption) | refine Below.setCell ?_ (by first | omega | (simp; done) | (simp; omega)) _ | refine bl_store ?_ ?_ _ _)))
        have HE : Hid (∀ W', Below wq.heap.size wq W' → W'.cell? ⟨wr.heap.size, 0, none⟩ = some (.int .i64 (X k)) ∧ W'.cell? ⟨wr.heap.size, 1, none⟩ = some (.int .i64 (Y k))) := fun W' h => ⟨(h.cell (p := ⟨wr.heap.size, 0, none⟩) hlq).trans e0, (h.cell (p := ⟨wr.heap.size, 1, none⟩) hlq).trans e1⟩
        obtain ⟨ii, hi, hz0, hz1, hz2⟩ := info_strp
        clear hWq HRk g0 g1
        refine wp_region_noPanic ?_
        refine wp_region_held_drew (S := fun W' => Below w1.heap.size w1 W' ∧ W'.cell? ⟨wr.heap.size, 0, none⟩ = some (.int .i64 (X k)) ∧ W'.cell? ⟨wr.heap.size, 1, none⟩ = some (.int .i64 (Y k))) (by kernel_rfl) ⟨by (repeat (first | exact Below.refl _ _ | assumption | refine Below.drew ?_ | refine bl_alloc ?_ _ | refine bl_then ?_ (by assumption) | refine Below.setCell ?_ (by first | omega | (simp; done) | (simp; omega)) _ | refine bl_store ?_ ?_ _ _)), e0, e1⟩ (fun hHeld => ?_)
        have hSa : Below w1.heap.size w1 wq.drew ∧ wq.drew.cell? ⟨wr.heap.size, 0, none⟩ = some (.int .i64 (X k)) ∧ wq.drew.cell? ⟨wr.heap.size, 1, none⟩ = some (.int .i64 (Y k)) := hHeld
        have hXa : Below wq.heap.size wq wq.drew := by have := Below.refl wq.heap.size wq; (repeat (first | exact Below.refl _ _ | assumption | refine Below.drew ?_ | refine bl_alloc ?_ _ | refine bl_then ?_ (by assumption) | refine Below.setCell ?_ (by first | omega | (simp; done) | (simp; omega)) _ | refine bl_store ?_ ?_ _ _))
        generalize wq.drew = wa at *
        refine takeD (i := 0) (d := some 46) (v := ?vs0) rfl rfl (by kernel_rfl) (by kernel_rfl) (by kernel_rfl) (fun _ _ _ h => h) (Or.inl ⟨by rfl, ?hys0⟩) (by assumption) ?_
        case hys0 => (intro w hSw; (try dsimp only at hSw); obtain ⟨hS1, hS2, hS3⟩ := hSw; go_simp <;> with_reducible rfl)
        try simp only [Act.put, List.setIfInBounds_toArray, List.set_cons_zero, List.set_cons_succ]
        refine takeD (i := 1) (d := some 47) (v := ?vs1) rfl rfl (by kernel_rfl) (by kernel_rfl) (by kernel_rfl) (fun _ _ _ h => h) (Or.inl ⟨by rfl, ?hys1⟩) (by assumption) ?_
        case hys1 => (intro w hSw; (try dsimp only at hSw); obtain ⟨hS1, hS2, hS3⟩ := hSw; go_simp <;> with_reducible rfl)
        try simp only [Act.put, List.setIfInBounds_toArray, List.set_cons_zero, List.set_cons_succ]
        refine takeD (i := 2) (d := some 48) (v := ?vs2) rfl rfl (by kernel_rfl) (by kernel_rfl) (by kernel_rfl) (fun _ _ _ h => h) (Or.inl ⟨by rfl, ?hys2⟩) (by assumption) ?_
        case hys2 => (intro w hSw; (try dsimp only at hSw); obtain ⟨hS1, hS2, hS3⟩ := hSw; go_simp <;> with_reducible rfl)
        try simp only [Act.put, List.setIfInBounds_toArray, List.set_cons_zero, List.set_cons_succ]
        refine takeD (i := 5) (d := some 51) (v := ?vs5) rfl rfl (by kernel_rfl) (by kernel_rfl) (by kernel_rfl) (fun _ _ _ h => h) (Or.inl ⟨by rfl, ?hys5⟩) (by assumption) ?_
        case hys5 => (intro w hSw; (try dsimp only at hSw); obtain ⟨hS1, hS2, hS3⟩ := hSw; go_simp <;> with_reducible rfl)
        try simp only [Act.put, List.setIfInBounds_toArray, List.set_cons_zero, List.set_cons_succ]
        refine takeD (i := 6) (d := some 52) (v := ?vs6) rfl rfl (by kernel_rfl) (by kernel_rfl) (by kernel_rfl) (fun _ _ _ h => h) (Or.inl ⟨by rfl, ?hys6⟩) (by assumption) ?_
        case hys6 => (intro w hSw; (try dsimp only at hSw); obtain ⟨hS1, hS2, hS3⟩ := hSw; go_simp <;> with_reducible rfl)
        try simp only [Act.put, List.setIfInBounds_toArray, List.set_cons_zero, List.set_cons_succ]
        refine wpAnyH_ready (rs := [3]) (by kernel_rfl) (by simp) ?_
        refine (AllReadyH.cons rfl (fun K hK => ?_) AllReadyH.nil)
        rw [if_pos (by rfl)]
        go_simp
        refine Calls.mono (digitsOf_any (X k) _ hx.1 hx.2 (HTB.out _ (bl_then hBq hXa))) ?_
        rintro e wb ⟨rfl, hbb⟩
        have hXb : Below wq.heap.size wq wb := bl_then hXa hbb
        clear hbb
        go_wp2_with fail
        have hSb : Below w1.heap.size w1 wb ∧ wb.cell? ⟨wr.heap.size, 0, none⟩ = some (.int .i64 (X k)) ∧ wb.cell? ⟨wr.heap.size, 1, none⟩ = some (.int .i64 (Y k)) := ⟨bl_then hBq hXb, HE.out _ hXb⟩
        refine hK.out _ _ hSb (fun hHeld => ?_)
        clear hK K
        try simp only [Act.put, List.setIfInBounds_toArray, List.set_cons_zero, List.set_cons_succ]
        refine takeD (i := 4) (d := some 50) (v := ?vs4) rfl rfl (by kernel_rfl) (by kernel_rfl) (by kernel_rfl) (fun _ _ _ h => h) (Or.inl ⟨by rfl, ?hys4⟩) (by assumption) ?_
        case hys4 => (intro w hSw; (try dsimp only at hSw); obtain ⟨hS1, hS2, hS3⟩ := hSw; go_simp; refine Eq.trans (if_neg (by omega)) ?_; with_reducible rfl)
        try simp only [Act.put, List.setIfInBounds_toArray, List.set_cons_zero, List.set_cons_succ]
        refine wpAnyH_ready (rs := [7]) (by kernel_rfl) (by simp) ?_
        refine (AllReadyH.cons rfl (fun K hK => ?_) AllReadyH.nil)
        rw [if_pos (by rfl)]
        go_simp
        refine Calls.mono (digitsOf_any (Y k) _ hy.1 hy.2 (HTB.out _ (bl_then hBq hXb))) ?_
        rintro e wc ⟨rfl, hbc⟩
        have hXc : Below wq.heap.size wq wc := bl_then hXb hbc
        clear hbc
        go_wp2_with fail
        have hSc : Below w1.heap.size w1 wc ∧ wc.cell? ⟨wr.heap.size, 0, none⟩ = some (.int .i64 (X k)) ∧ wc.cell? ⟨wr.heap.size, 1, none⟩ = some (.int .i64 (Y k)) := ⟨bl_then hBq hXc, HE.out _ hXc⟩
        refine hK.out _ _ hSc (fun hHeld => ?_)
        clear hK K
        try simp only [Act.put, List.setIfInBounds_toArray, List.set_cons_zero, List.set_cons_succ]
        refine takeD (i := 8) (d := some 54) (v := ?vs8) rfl rfl (by kernel_rfl) (by kernel_rfl) (by kernel_rfl) (fun _ _ _ h => h) (Or.inl ⟨by rfl, ?hys8⟩) (by assumption) ?_
        case hys8 => (intro w hSw; (try dsimp only at hSw); obtain ⟨hS1, hS2, hS3⟩ := hSw; go_simp; refine Eq.trans (if_neg (by omega)) ?_; with_reducible rfl)
        try simp only [Act.put, List.setIfInBounds_toArray, List.set_cons_zero, List.set_cons_succ]
        refine wpAnyH_ready (rs := [9]) (by kernel_rfl) (by simp) ?_
        refine (AllReadyH.cons rfl (fun K hK => ?_) AllReadyH.nil)
        rw [if_pos (by rfl)]
        go_simp
        generalize hwA : (World.alloc _ _ : World) = wg
        have a0 : wg.cell? ⟨wc.heap.size, 0, none⟩ = some (.string (ptW X Y k)) := by subst hwA; simp [go_sem, ptW, coB]
        have HRg : Hid (RowS w1.heap.size wg (.slice (some ⟨g, 0, none⟩) ((6 + k : Nat)) cp) (wordsT id la ki.toNat wi pr lab X Y k)) := by subst hwA; exact World.ownsRow.alloc (rowS_below HRq.out hXc) _
        have hXg : Below wq.heap.size wq wg := bl_then hXc (by subst hwA; (repeat (first | exact Below.refl _ _ | assumption | refine Below.drew ?_ | refine bl_alloc ?_ _ | refine bl_then ?_ (by assumption) | refine Below.setCell ?_ (by first | omega | (simp; done) | (simp; omega)) _ | refine bl_store ?_ ?_ _ _)))
        clear hwA
        have hSg : Below w1.heap.size w1 wg ∧ wg.cell? ⟨wr.heap.size, 0, none⟩ = some (.int .i64 (X k)) ∧ wg.cell? ⟨wr.heap.size, 1, none⟩ = some (.int .i64 (Y k)) := ⟨bl_then hBq hXg, HE.out _ hXg⟩
        refine hK.out _ _ hSg (fun hHeld => ?_)
        clear hK K
        try simp only [Act.put, List.setIfInBounds_toArray, List.set_cons_zero, List.set_cons_succ]
        refine wpAnyH_ready (rs := [10]) (by kernel_rfl) (by simp) ?_
        refine (AllReadyH.cons rfl (fun K hK => ?_) AllReadyH.nil)
        have hlen : (wordsT id la ki.toNat wi pr lab X Y k).length = 6 + k := wordsT_len _ _ _ _ _ _ _ _ _
        have hsg := (bl_then hBq hXg).size
        refine step_append_own rfl (.tmp 46) (.tmp 55) 54 rfl w1.heap.size 9 ii (.string ⟨#[]⟩) 1 16 Tryd.underlying54 hi hz0 hz1 hz2 rfl (by decide) (.slice (some ⟨g, 0, none⟩) ((6 + k : Nat)) cp) (wordsT id la ki.toNat wi pr lab X Y k).length ((wordsT id la ki.toNat wi pr lab X Y k).map (.string ·)) rfl HRg.out ⟨wc.heap.size, 0, none⟩ 1 1 [.string (ptW X Y k)] rfl rfl ?c1 ?c2 ?c3 ?c4 ?c5 ?_
        case c1 =>
          intro q u hq
          match q, hq with
          | 0, hq => exact (Option.some.inj hq) ▸ a0
          | q + 1, hq => cases hq
        case c2 => intro u hu; simp at hu; subst hu; rfl
        case c3 => unfold maxLen; omega
        case c4 => omega
        case c5 => omega
        intro v' wh hown hgrow hnil
        clear hnil
        have hBh : Below w1.heap.size w1 wh := (bl_then hBq hXg).grown hgrow hsg (fun b hb => (World.ownsRow.lt HRg.out b hb).1)
        have HRh : Hid (RowS w1.heap.size wh v' (wordsT id la ki.toNat wi pr lab X Y (k + 1))) := by
          show World.ownsRow _ _ _ _ _ _ _
          rw [wordsT_succ, List.length_append, List.map_append]
          exact hown
        obtain ⟨g', cp', rfl⟩ := rowS_shape HRh.out (m := 6 + k) (by rw [wordsT_len]; omega)
        have hSh : Below w1.heap.size w1 wh ∧ wh.cell? ⟨wr.heap.size, 0, none⟩ = some (.int .i64 (X k)) ∧ wh.cell? ⟨wr.heap.size, 1, none⟩ = some (.int .i64 (Y k)) := ⟨hBh, hgrow.cell hSg.2.1 (by simp [Value.ownBlock]; omega), hgrow.cell hSg.2.2 (by simp [Value.ownBlock]; omega)⟩
        show K (Act.put _ (some 56) _) wh
        refine hK.out _ _ hSh (fun hHeld => ?_)
        clear hK K hown hgrow
        try simp only [Act.put, List.setIfInBounds_toArray, List.set_cons_zero, List.set_cons_succ]
        refine takeD (i := 11) (d := some 6) (v := ?vs11) rfl rfl (by kernel_rfl) (by kernel_rfl) (by kernel_rfl) (fun _ _ _ h => h) (Or.inl ⟨by rfl, ?hys11⟩) (by assumption) ?_
        case hys11 => (intro w hSw; (try dsimp only at hSw); obtain ⟨hS1, hS2, hS3⟩ := hSw; go_simp <;> with_reducible rfl)
        try simp only [Act.put, List.setIfInBounds_toArray, List.set_cons_zero, List.set_cons_succ]
        refine wpAnyH_done (by kernel_rfl) ?_ _
        refine NoPanic.normal ?_
        clear hSa hXa hSb hSc hSg hXb hXc hXg a0
        go_wp2_with fail
        go_roundw
        case rel => exact ⟨k + 1, g', cp', by simp, rfl, by omega, HRh.out, hBh⟩
        case measure => simp [intOf]; omega
      · have hkn2 : k = n := by omega
        subst hkn2
        have hlen := wordsT_len id la ki.toNat wi pr lab X Y k
        have hgr : g < wr.heap.size := (World.ownsRow.lt HRk.out g rfl).2
        have hcp : 6 + k ≤ cp := rowS_cap HRk.out
        have hJ := Tryd.joinD g 0 cp (wordsT id la ki.toNat wi pr lab X Y k) ⟨#[32]⟩ wr (fun j x hx => by
          have := World.ownsRow.cells HRk.out (g := g) rfl j (.string x) (by simp [hx])
          rw [Nat.zero_add]
          rw [add_plainS] at this
          exact this) hgr (by omega) (by omega) (by
          have h1 := join_words id la ki.toNat wi pr lab X Y k
          have e : (⟨#[32]⟩ : ByteArray).data.toList = [32] := rfl
          rw [e, h1]
          have h2 := ptsT_size X Y (headT id la ki.toNat wi pr lab) k (fun i hi => ⟨digB_size _ (b8 i hi).1.1 (b8 i hi).1.2, digB_size _ (b8 i hi).2.1 (b8 i hi).2.2⟩)
          have h3 := headT_size id la wi pr ki.toNat lab (by omega) (by omega) (by omega) (by omega) b7
          have h4 : (ptsT X Y (headT id la ki.toNat wi pr lab) k).data.toList.length = (ptsT X Y (headT id la ki.toNat wi pr lab) k).size := baL _
          omega)
        rw [hlen, show (⟨#[32]⟩ : ByteArray).data.toList = [32] from rfl, join_words] at hJ
        have eT : (⟨(ptsT X Y (headT id la ki.toNat wi pr lab) k).data.toList.toArray⟩ : ByteArray) = ptsT X Y (headT id la ki.toNat wi pr lab) k := baT _
        rw [eT] at hJ
        have HJ := (show Hid _ from hJ)
        clear hJ eT hlen
        go_wp2_with fail
        refine Calls.mono HJ.out ?_
        rintro e w5 ⟨rfl, hb5⟩
        have hX5 : Below w1.heap.size w1 w5 := bl_then hB hb5
        obtain ⟨u0, u1, v0, v1⟩ := HR.out w5 hX5
        have hB5 : Below w.heap.size w w5 := HB1.out.trans (hX5.mono HB1.out.size)
        have hle : w.heap.size ≤ w.heap.size + 1 := Nat.le_succ _
        clear HJ hb5
        go_wp2
        exact bodyPost_ret (v := .agg #[.int .i64 0, .string (ptsT X Y (headT id la ki.toNat wi pr lab) k)]) (by simp [results, Tryd.results8, go_sem, *]) rfl ⟨rfl, (hB5.setCell hle _).setCell hle _⟩
  · have hfT : featT id la ki wi n X Y lab pr = ⟨#[]⟩ := by unfold featT; rw [if_neg (by rw [← hcc]; exact hc)]
    rw [hfT] at hT
    subst hT
    clear hcc hfT
    have hle : w.heap.size ≤ w.heap.size + 1 := Nat.le_succ _
    clear hF1
    go_wp2
    exact bodyPost_ret (v := .agg #[.int .i64 c, .string ⟨#[]⟩]) (by simp [results, Tryd.results8, go_sem, *]) rfl ⟨rfl, (hB1.setCell hle _).setCell hle _⟩
end Go.Proofs.YtnbhpicdghgniaaDoor
