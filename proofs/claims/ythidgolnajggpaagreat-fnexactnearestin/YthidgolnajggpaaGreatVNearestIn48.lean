/- The laws of CacheFault, HasTile and NearestIn return true at every cache and every ref. -/
import Derived.Test.YthidgolnajggpaaGreatVNearestIn47
namespace Go.Proofs.YthidgolnajggpaaGreat
open Go.RowKit
set_option linter.unusedSimpArgs false
set_option linter.unusedVariables false
set_option maxRecDepth 100000

theorem KpOwn.feats {w : World} {B : Nat} {k a : Kp} (h : KpOwn w B k a) : ∀ i, i < k.fn → (a.F i).same (k.F i) := by
  obtain ⟨_, ⟨fb, _, _, _, ho⟩, _⟩ := h
  exact fun i hi => (ho.2.2.2 i hi).1
theorem KpOwn.rt {w : World} {B : Nat} {k a : Kp} (h : KpOwn w B k a) : rtC a.z a.x a.y a.fn a.F = rtC k.z k.x k.y k.fn k.F ∧ rtL a.z a.x a.y a.fn a.F = rtL k.z k.x k.y k.fn k.F := by
  have hf := h.feats
  obtain ⟨⟨e1, e2, e3⟩, ⟨fb, _, e4, _⟩, _⟩ := h
  rw [e1, e2, e3, e4]
  exact rt_same hf
theorem KpOwn.tC {w : World} {B : Nat} {k a : Kp} (h : KpOwn w B k a) : Go.Proofs.YthidgolnajggpaaGreat.tC a = Go.Proofs.YthidgolnajggpaaGreat.tC k := by
  obtain ⟨r1, r2⟩ := h.rt
  obtain ⟨_, _, ib, _, e5, _, e7, _⟩ := h
  unfold Go.Proofs.YthidgolnajggpaaGreat.tC
  rw [r1, r2, e5, e7]
theorem KpOwn.small {w : World} {B : Nat} {k a : Kp} (h : KpOwn w B k a) (hs : SmallK k) : SmallK a := by
  have hf := h.feats
  obtain ⟨_, ⟨fb, _, e4, _⟩, ib, _, e5, _⟩ := h
  refine ⟨⟨by rw [e4]; exact hs.1.1, fun i hi => ?_⟩, by rw [e5]; exact hs.2⟩
  rw [e4] at hi
  obtain ⟨_, _, _, _, f5, _, _, f8, _⟩ := hf i hi
  rw [f5, f8]
  exact hs.1.2 i hi
theorem OwnKs.small {w : World} {B b n : Nat} {K A : Nat → Kp} (h : OwnKs w B b n K A) (hs : SmallKs n K) : SmallKs n A := ⟨hs.1, fun i hi => (h.2.2 i hi).2.small (hs.2 i hi)⟩
theorem OwnKs.caps {w : World} {B b n : Nat} {K A : Nat → Kp} (h : OwnKs w B b n K A) : ∀ i, i < n → (A i).fn ≤ (A i).fc := fun i hi => by
  obtain ⟨_, ⟨fb, _, e4, e6, _⟩, _⟩ := (h.2.2 i hi).2
  rw [e4, e6]; exact Nat.le_refl _
theorem OwnKs.ref {w : World} {B b n : Nat} {K A : Nat → Kp} (h : OwnKs w B b n K A) {i : Nat} (hi : i < n) : (A i).z = (K i).z ∧ (A i).x = (K i).x ∧ (A i).y = (K i).y := (h.2.2 i hi).2.1
theorem OwnKs.atK {w : World} {B b n : Nat} {K A : Nat → Kp} (h : OwnKs w B b n K A) (z x y : Int) : ∀ m, m ≤ n → Go.Proofs.YthidgolnajggpaaGreat.atK m A z x y = Go.Proofs.YthidgolnajggpaaGreat.atK m K z x y := fun m hm => by
  have e : ∀ i, i < m → isK (A i) z x y = isK (K i) z x y := fun i hi => by
    obtain ⟨e1, e2, e3⟩ := h.ref (show i < n by omega)
    unfold isK; rw [e1, e2, e3]
  unfold Go.Proofs.YthidgolnajggpaaGreat.atK
  rcases firstI_or (fun i => isK (A i) z x y) m with ⟨h1, h2⟩ | ⟨i, hi, hg, hf, hn⟩
  · rw [h1]
    exact (firstI_no (fun i hi => (e i hi).symm.trans (h2 i hi))).symm
  · rw [hf]
    exact (firstI_yes hi ((e i hi).symm.trans hg) (fun j hj => (e j (by omega)).symm.trans (hn j hj))).symm
theorem OwnKs.kC {w : World} {B b n : Nat} {K A : Nat → Kp} (h : OwnKs w B b n K A) : ∀ i, i < n → Go.Proofs.YthidgolnajggpaaGreat.kC A i = Go.Proofs.YthidgolnajggpaaGreat.kC K i := fun i hi => by
  obtain ⟨e1, e2, e3⟩ := h.ref hi
  unfold Go.Proofs.YthidgolnajggpaaGreat.kC
  rw [(h.2.2 i hi).2.tC, e1, e2, e3, h.atK _ _ _ i (by omega)]
theorem OwnKs.cacheC {w : World} {B b n : Nat} {K A : Nat → Kp} (h : OwnKs w B b n K A) (s : Int) : Go.Proofs.YthidgolnajggpaaGreat.cacheC s n A = Go.Proofs.YthidgolnajggpaaGreat.cacheC s n K := by
  have e : scanC (Go.Proofs.YthidgolnajggpaaGreat.kC A) 0 n = scanC (Go.Proofs.YthidgolnajggpaaGreat.kC K) 0 n := by
    by_cases hall : ∀ j, j < n → Go.Proofs.YthidgolnajggpaaGreat.kC K j = 0
    · rw [scan_none _ _ _ (fun j _ hj => hall j (by omega)), scan_none _ _ _ (fun j _ hj => (h.kC j (by omega)).trans (hall j (by omega)))]
    · obtain ⟨k, hk, hne, hno⟩ : ∃ k, k < n ∧ Go.Proofs.YthidgolnajggpaaGreat.kC K k ≠ 0 ∧ ∀ l, l < k → Go.Proofs.YthidgolnajggpaaGreat.kC K l = 0 := by
        have : ∀ m, (∃ i, i < m ∧ Go.Proofs.YthidgolnajggpaaGreat.kC K i ≠ 0) → ∃ i, i < m ∧ Go.Proofs.YthidgolnajggpaaGreat.kC K i ≠ 0 ∧ ∀ l, l < i → Go.Proofs.YthidgolnajggpaaGreat.kC K l = 0 := by
          intro m
          induction m with
          | zero => rintro ⟨i, hi, _⟩; omega
          | succ m ih =>
            rintro ⟨i, hi, h⟩
            by_cases hx : ∃ i, i < m ∧ Go.Proofs.YthidgolnajggpaaGreat.kC K i ≠ 0
            · obtain ⟨i, h1, h2⟩ := ih hx; exact ⟨i, by omega, h2⟩
            · refine ⟨i, hi, h, fun l hl => ?_⟩
              by_cases e : Go.Proofs.YthidgolnajggpaaGreat.kC K l = 0
              · exact e
              · exact absurd ⟨l, by omega, e⟩ hx
        refine this n ?_
        by_cases hx : ∃ i, i < n ∧ Go.Proofs.YthidgolnajggpaaGreat.kC K i ≠ 0
        · exact hx
        · exact absurd (fun j hj => by
            by_cases e : Go.Proofs.YthidgolnajggpaaGreat.kC K j = 0
            · exact e
            · exact absurd ⟨j, hj, e⟩ hx) hall
      rw [scan_first (Go.Proofs.YthidgolnajggpaaGreat.kC K) n 0 k (fun l _ hl => hno l hl) (by omega) (by omega) hne,
        scan_first (Go.Proofs.YthidgolnajggpaaGreat.kC A) n 0 k (fun l _ hl => (h.kC l (by omega)).trans (hno l hl)) (by omega) (by omega) (by rw [h.kC k hk]; exact hne), h.kC k hk]
  unfold Go.Proofs.YthidgolnajggpaaGreat.cacheC
  rw [e]
theorem OwnKs.nearK {w : World} {B b n : Nat} {K A : Nat → Kp} (h : OwnKs w B b n K A) : ∀ (z : Nat) (x y : Int), Go.Proofs.YthidgolnajggpaaGreat.nearK n A z x y = Go.Proofs.YthidgolnajggpaaGreat.nearK n K z x y
  | 0, x, y => h.atK _ _ _ n (Nat.le_refl _)
  | z + 1, x, y => by
    unfold Go.Proofs.YthidgolnajggpaaGreat.nearK
    rw [h.atK _ _ _ n (Nat.le_refl _), h.nearK z (x / 2) (y / 2)]
theorem OwnKs.nearV {w : World} {B b n : Nat} {K A : Nat → Kp} (h : OwnKs w B b n K A) (s z x y : Int) : Go.Proofs.YthidgolnajggpaaGreat.nearV s n A z x y = Go.Proofs.YthidgolnajggpaaGreat.nearV s n K z x y := by
  unfold Go.Proofs.YthidgolnajggpaaGreat.nearV
  rw [h.cacheC, h.nearK]
  by_cases h0 : 0 ≤ Go.Proofs.YthidgolnajggpaaGreat.nearK n K z.toNat x y
  · rcases nearK_or n K z.toNat x y with hN | ⟨i, hi, hN⟩
    · rw [hN] at h0; omega
    · obtain ⟨e1, e2, e3⟩ := h.ref hi
      rw [hN, Int.toNat_natCast, e1, e2, e3]
  · rw [if_neg h0, if_neg h0]
theorem nearV_rr (s : Int) (n : Nat) (K : Nat → Kp) (z x y : Int) : ∃ c a b d : Int, nearV s n K z x y = rrV c a b d := by
  unfold nearV
  repeat' split
  all_goals exact ⟨_, _, _, _, rfl⟩
set_option maxHeartbeats 4000000 in
theorem FnExactNearestIn_walk (s : Int) (a : Option Addr) (n cap : Nat) (K : Nat → Kp) (z x y : Int) (w : World) (h : IsKs w a n K ∧ CameKs n K) (hi : I64 z ∧ I64 x ∧ I64 y) :
    Calls Tryz.prog 3 #[caV s (.slice a n cap), refV z x y] w fun e w' => e = .returned (.bool true) ∧ Below w.heap.size w w' := by
  obtain ⟨hf, hc⟩ := h
  have HI : Hid (IsKs w a n K) := hf
  have HC : Hid (CameKs n K) := hc
  clear hf hc
  have HZ : Hid (I64 z ∧ I64 x ∧ I64 y) := hi
  clear hi
  obtain ⟨ac, aa, ab, ad, hV⟩ := nearV_rr s n K z x y
  have Hspec : Hid (SmallKs n K → ∀ (W : World) (C b : Nat) (A : Nat → Kp), OwnKs W C b n K A → Calls Tryz.prog 8 #[caV s (.slice (some ⟨b, 0, none⟩) n n), refV z x y] W fun e w' => e = .returned (rrV ac aa ab ad) ∧ Below W.heap.size W w') := fun hS W C b A hO => by
    have := spec_NearestIn_any s b n n A z x y W hO.ko (hO.small hS)
    rw [hO.nearV s z x y, hV] at this
    exact this
  have Himpl : Hid (SmallKs n K → ∀ (W : World) (C b : Nat) (A : Nat → Kp), OwnKs W C b n K A → Calls Tryz.prog 11 #[caV s (.slice (some ⟨b, 0, none⟩) n n), refV z x y] W fun e w' => e = .returned (rrV ac aa ab ad) ∧ Below W.heap.size W w') := fun hS W C b A hO => by
    have := impl_NearestIn_any s b n n A z x y W hO.ko (hO.small hS) hO.caps (Nat.le_refl _)
    rw [hO.nearV s z x y, hV] at this
    exact this
  clear hV
  go_enter Tryz.func3, Tryz.ntmps3
  go_wp2_with fail
  generalize hW : ((w.alloc _).alloc _ : World) = W
  have HB0 : Hid (Below w.heap.size w W) := by show Below _ _ _; subst hW; (repeat (first | exact Below.refl _ _ | assumption | refine Below.drew ?_ | refine bl_alloc ?_ _ | refine bl_then ?_ (by assumption) | refine Below.setCell ?_ (by first | omega | (simp; done) | (simp; omega)) _ | refine bl_store ?_ ?_ _ _))
  have HCa : Hid (CaA W w.heap.size s (.slice a n cap)) := by show CaA _ _ _ _; subst hW; exact (CaA.new _ _ _ _).below (by (repeat (first | exact Below.refl _ _ | assumption | refine Below.drew ?_ | refine bl_alloc ?_ _ | refine bl_then ?_ (by assumption) | refine Below.setCell ?_ (by first | omega | (simp; done) | (simp; omega)) _ | refine bl_store ?_ ?_ _ _)))
  have HRk : Hid (RK W (w.heap.size + 1) z x y) := by show RK _ _ _ _ _; subst hW; refine ⟨?_, ?_, ?_⟩ <;> simp [go_sem]
  clear hW
  refine (szCache_any s a n cap K W (HI.out.below HB0.out) HC.out).mono ?_
  rintro e w1 ⟨rfl | ⟨m, hS, rfl⟩, hb1⟩
  · have HB1 : Hid (Below w.heap.size w w1) := bl_then HB0.out hb1
    clear hb1 Hspec Himpl
    go_wp2
    go_ret
    exact ⟨rfl, HB1.out⟩
  have HS : Hid (SmallKs n K) := hS
  have hneg : ¬ ((m : Nat) : Int) < 0 := by omega
  have Hsp := (show Hid _ from Hspec.out hS)
  have Him := (show Hid _ from Himpl.out hS)
  have HBw : Hid (Below w.heap.size w w1) := bl_then HB0.out hb1
  have HTo : Hid (∀ W', Below w1.heap.size w1 W' → Calls Tryz.prog 9 #[caV s (.slice a n cap)] W' fun e w' => ∃ b A, e = .returned (caV s (.slice (some ⟨b, 0, none⟩) n n)) ∧ W'.heap.size ≤ b ∧ OwnKs w' (b + 1) b n K A ∧ Below W'.heap.size W' w') := fun W' h => toCache_any s a n cap K W' (HI.out.below (bl_then HBw.out h)) HS.out
  have y0 : ∀ W', Below w1.heap.size w1 W' → W'.cell? ⟨w.heap.size, 0, none⟩ = some (.int .i64 s) := fun W' h => (HCa.out.below (bl_then hb1 h)).1
  have y1 : ∀ W', Below w1.heap.size w1 W' → W'.cell? ⟨w.heap.size, 1, none⟩ = some (.slice a n cap) := fun W' h => (HCa.out.below (bl_then hb1 h)).2
  have z0 : ∀ W', Below w1.heap.size w1 W' → W'.cell? ⟨w.heap.size + 1, 0, none⟩ = some (.int .i64 z) := fun W' h => (HRk.out.below (bl_then hb1 h)).1
  have z1 : ∀ W', Below w1.heap.size w1 W' → W'.cell? ⟨w.heap.size + 1, 1, none⟩ = some (.int .i64 x) := fun W' h => (HRk.out.below (bl_then hb1 h)).2.1
  have z2 : ∀ W', Below w1.heap.size w1 W' → W'.cell? ⟨w.heap.size + 1, 2, none⟩ = some (.int .i64 y) := fun W' h => (HRk.out.below (bl_then hb1 h)).2.2
  clear hS hb1 Hspec Himpl HCa HI HC HB0 HRk HZ
  have hR1 := Below.refl w1.heap.size w1
  go_wp2_with fail
  go_cut [6] (fun t wx => ∃ b : Nat, t = .pointer (some ⟨b, 0, none⟩) ∧ Below w1.heap.size w1 wx ∧ w1.heap.size ≤ b ∧ wx.cell? ⟨b, 0, none⟩ = some (.int .i64 ac) ∧ wx.cell? ⟨b, 1, none⟩ = some (.int .i64 aa) ∧ wx.cell? ⟨b, 2, none⟩ = some (.int .i64 ab) ∧ wx.cell? ⟨b, 3, none⟩ = some (.int .i64 ad))
  case first =>
    have sy0 : ∀ W', Below w1.heap.size w1 W' → W'.cell? ⟨w.heap.size, 0, none⟩ = some (.int .i64 s) := fun W' h => y0 W' (bl_then hR1 h)
    have sy1 : ∀ W', Below w1.heap.size w1 W' → W'.cell? ⟨w.heap.size, 1, none⟩ = some (.slice a n cap) := fun W' h => y1 W' (bl_then hR1 h)
    have sz0 : ∀ W', Below w1.heap.size w1 W' → W'.cell? ⟨w.heap.size + 1, 0, none⟩ = some (.int .i64 z) := fun W' h => z0 W' (bl_then hR1 h)
    have sz1 : ∀ W', Below w1.heap.size w1 W' → W'.cell? ⟨w.heap.size + 1, 1, none⟩ = some (.int .i64 x) := fun W' h => z1 W' (bl_then hR1 h)
    have sz2 : ∀ W', Below w1.heap.size w1 W' → W'.cell? ⟨w.heap.size + 1, 2, none⟩ = some (.int .i64 y) := fun W' h => z2 W' (bl_then hR1 h)
    refine wp_region_noPanic ?_
    refine wp_region_held_drew (S := fun W' => Below w1.heap.size w1 W') (by kernel_rfl) (by have := Below.refl w1.heap.size w1; (repeat (first | exact Below.refl _ _ | assumption | refine Below.drew ?_ | refine bl_alloc ?_ _ | refine bl_then ?_ (by assumption) | refine Below.setCell ?_ (by first | omega | (simp; done) | (simp; omega)) _ | refine bl_store ?_ ?_ _ _))) (fun hHeld => ?_)
    have hX0 : Below w1.heap.size w1 w1.drew := hHeld
    refine takeD (i := 0) (d := some 14) (v := ?vf0) rfl rfl (by kernel_rfl) (by kernel_rfl) (by kernel_rfl) (fun _ _ _ h => h) (Or.inl ⟨by rfl, ?hyf0⟩) (by assumption) ?_
    case hyf0 => (intro w hSw; (try dsimp only at hSw); go_simp <;> with_reducible rfl)
    try simp only [Act.put, List.setIfInBounds_toArray, List.set_cons_zero, List.set_cons_succ]
    refine takeD (i := 2) (d := some 16) (v := ?vf2) rfl rfl (by kernel_rfl) (by kernel_rfl) (by kernel_rfl) (fun _ _ _ h => h) (Or.inl ⟨by rfl, ?hyf2⟩) (by assumption) ?_
    case hyf2 => (intro w hSw; (try dsimp only at hSw); go_simp <;> with_reducible rfl)
    try simp only [Act.put, List.setIfInBounds_toArray, List.set_cons_zero, List.set_cons_succ]
    generalize w1.drew = wk0 at *
    refine wpAnyH_ready (rs := [1, 5]) (by kernel_rfl) (by simp) ?_
    refine (AllReadyH.cons rfl (fun K hK => ?_) (AllReadyH.cons rfl (fun K hK => ?_) AllReadyH.nil))
    · rw [if_pos (by rfl)]
      go_simp
      refine Calls.mono (HTo.out _ (bl_then hR1 hX0)) ?_
      rintro e wf1 ⟨bq1, Aq1, rfl, hge1, hq1, hb1⟩
      have hXf1 : Below w1.heap.size w1 wf1 := bl_then hX0 hb1
      go_wp2_with fail
      refine hK.out _ _ hXf1 (fun hHeld => ?_)
      clear hK K
      try simp only [Act.put, List.setIfInBounds_toArray, List.set_cons_zero, List.set_cons_succ]
      refine wpAnyH_ready (rs := [3, 5]) (by kernel_rfl) (by simp) ?_
      refine (AllReadyH.cons rfl (fun K hK => ?_) (AllReadyH.cons rfl (fun K hK => ?_) AllReadyH.nil))
      · rw [if_pos (by rfl)]
        go_simp
        refine Calls.mono (toRef_any z x y _) ?_
        rintro e wf2 ⟨rfl, hb2⟩
        have hq2 := hq1.below hb2
        have hXf2 : Below w1.heap.size w1 wf2 := bl_then hXf1 hb2
        go_wp2_with fail
        refine hK.out _ _ hXf2 (fun hHeld => ?_)
        clear hK K
        try simp only [Act.put, List.setIfInBounds_toArray, List.set_cons_zero, List.set_cons_succ]
        refine wpAnyH_ready (rs := [4, 5]) (by kernel_rfl) (by simp) ?_
        refine (AllReadyH.cons rfl (fun K hK => ?_) (AllReadyH.cons rfl (fun K hK => ?_) AllReadyH.nil))
        · rw [if_pos (by rfl)]
          go_simp
          refine Calls.mono (Hsp.out _ _ _ _ hq2) ?_
          rintro e wf3 ⟨rfl, hb3⟩
          have hXf3 : Below w1.heap.size w1 wf3 := bl_then hXf2 hb3
          go_wp2_with fail
          refine hK.out _ _ hXf3 (fun hHeld => ?_)
          clear hK K
          try simp only [Act.put, List.setIfInBounds_toArray, List.set_cons_zero, List.set_cons_succ]
          refine wpAnyH_ready (rs := [5]) (by kernel_rfl) (by simp) ?_
          refine (AllReadyH.cons rfl (fun K hK => ?_) AllReadyH.nil)
          rw [if_pos (by rfl)]
          go_simp
          generalize hwA : (World.alloc _ _ : World) = wf4
          have hb4 : Below wf3.heap.size wf3 wf4 := by subst hwA; (repeat (first | exact Below.refl _ _ | assumption | refine Below.drew ?_ | refine bl_alloc ?_ _ | refine bl_then ?_ (by assumption) | refine Below.setCell ?_ (by first | omega | (simp; done) | (simp; omega)) _ | refine bl_store ?_ ?_ _ _))
          have hT4 : There wf4 wf3.heap.size 4 := by subst hwA; exact there4r wf3 _ _ _ _ _
          clear hwA
          have hXf4 : Below w1.heap.size w1 wf4 := bl_then hXf3 hb4
          have hs4 : w1.heap.size ≤ wf3.heap.size := hXf3.size
          refine hK.out _ _ hXf4 (fun hHeld => ?_)
          clear hK K
          try simp only [Act.put, List.setIfInBounds_toArray, List.set_cons_zero, List.set_cons_succ]
          refine wpAnyH_ready (rs := [6]) (by kernel_rfl) (by simp) ?_
          refine (AllReadyH.cons rfl (fun K hK => ?_) AllReadyH.nil)
          rw [if_pos (by rfl)]
          have t0 := hT4.cell 0 (by omega)
          have f0 := (hT4 0 (by omega)).2
          have t1 := hT4.cell 1 (by omega)
          have f1 := (hT4 1 (by omega)).2
          have t2 := hT4.cell 2 (by omega)
          have f2 := (hT4 2 (by omega)).2
          have t3 := hT4.cell 3 (by omega)
          have f3 := (hT4 3 (by omega)).2
          go_simp
          refine hK.out _ _ ((((hXf4.setCell hs4 _).setCell hs4 _).setCell hs4 _).setCell hs4 _) (fun hHeld => ?_)
          clear hK K
          try simp only [Act.put, List.setIfInBounds_toArray, List.set_cons_zero, List.set_cons_succ]
          obtain ⟨q0, q1, q2, q3⟩ := set4_at (a := .int .i64 ac) (b := .int .i64 aa) (c := .int .i64 ab) (d := .int .i64 ad) hT4
          have hBf : Below w1.heap.size w1 ((((wf4.setCell ⟨wf3.heap.size, 0, none⟩ (.int .i64 ac)).setCell ⟨wf3.heap.size, 1, none⟩ (.int .i64 aa)).setCell ⟨wf3.heap.size, 2, none⟩ (.int .i64 ab)).setCell ⟨wf3.heap.size, 3, none⟩ (.int .i64 ad)) := (((hXf4.setCell hs4 _).setCell hs4 _).setCell hs4 _).setCell hs4 _
          refine wpAnyH_done (by kernel_rfl) ?_ _
          refine NoPanic.normal ?_
          go_wp2_with fail
          go_meet
          case rel => exact ⟨_, rfl, hBf, hs4, q0, q1, q2, q3⟩
        · rw [if_pos (by rfl)]
          go_simp
          generalize hwA : (World.alloc _ _ : World) = wf5
          have hb5 : Below wf2.heap.size wf2 wf5 := by subst hwA; (repeat (first | exact Below.refl _ _ | assumption | refine Below.drew ?_ | refine bl_alloc ?_ _ | refine bl_then ?_ (by assumption) | refine Below.setCell ?_ (by first | omega | (simp; done) | (simp; omega)) _ | refine bl_store ?_ ?_ _ _))
          have hT5 : There wf5 wf2.heap.size 4 := by subst hwA; exact there4r wf2 _ _ _ _ _
          clear hwA
          have hXf5 : Below w1.heap.size w1 wf5 := bl_then hXf2 hb5
          have hs5 : w1.heap.size ≤ wf2.heap.size := hXf2.size
          have hq5 := hq2.below hb5
          refine hK.out _ _ hXf5 (fun hHeld => ?_)
          clear hK K
          try simp only [Act.put, List.setIfInBounds_toArray, List.set_cons_zero, List.set_cons_succ]
          refine wpAnyH_ready (rs := [4]) (by kernel_rfl) (by simp) ?_
          refine (AllReadyH.cons rfl (fun K hK => ?_) AllReadyH.nil)
          rw [if_pos (by rfl)]
          go_simp
          refine Calls.mono (Hsp.out _ _ _ _ hq5) ?_
          rintro e wf6 ⟨rfl, hb6⟩
          have hXf6 : Below w1.heap.size w1 wf6 := bl_then hXf5 hb6
          have hT6 := There.below hT5 hb6
          go_wp2_with fail
          refine hK.out _ _ hXf6 (fun hHeld => ?_)
          clear hK K
          try simp only [Act.put, List.setIfInBounds_toArray, List.set_cons_zero, List.set_cons_succ]
          refine wpAnyH_ready (rs := [6]) (by kernel_rfl) (by simp) ?_
          refine (AllReadyH.cons rfl (fun K hK => ?_) AllReadyH.nil)
          rw [if_pos (by rfl)]
          have t0 := hT6.cell 0 (by omega)
          have f0 := (hT6 0 (by omega)).2
          have t1 := hT6.cell 1 (by omega)
          have f1 := (hT6 1 (by omega)).2
          have t2 := hT6.cell 2 (by omega)
          have f2 := (hT6 2 (by omega)).2
          have t3 := hT6.cell 3 (by omega)
          have f3 := (hT6 3 (by omega)).2
          go_simp
          refine hK.out _ _ ((((hXf6.setCell hs5 _).setCell hs5 _).setCell hs5 _).setCell hs5 _) (fun hHeld => ?_)
          clear hK K
          try simp only [Act.put, List.setIfInBounds_toArray, List.set_cons_zero, List.set_cons_succ]
          obtain ⟨q0, q1, q2, q3⟩ := set4_at (a := .int .i64 ac) (b := .int .i64 aa) (c := .int .i64 ab) (d := .int .i64 ad) hT6
          have hBf : Below w1.heap.size w1 ((((wf6.setCell ⟨wf2.heap.size, 0, none⟩ (.int .i64 ac)).setCell ⟨wf2.heap.size, 1, none⟩ (.int .i64 aa)).setCell ⟨wf2.heap.size, 2, none⟩ (.int .i64 ab)).setCell ⟨wf2.heap.size, 3, none⟩ (.int .i64 ad)) := (((hXf6.setCell hs5 _).setCell hs5 _).setCell hs5 _).setCell hs5 _
          refine wpAnyH_done (by kernel_rfl) ?_ _
          refine NoPanic.normal ?_
          go_wp2_with fail
          go_meet
          case rel => exact ⟨_, rfl, hBf, hs5, q0, q1, q2, q3⟩
      · rw [if_pos (by rfl)]
        go_simp
        generalize hwA : (World.alloc _ _ : World) = wf7
        have hb7 : Below wf1.heap.size wf1 wf7 := by subst hwA; (repeat (first | exact Below.refl _ _ | assumption | refine Below.drew ?_ | refine bl_alloc ?_ _ | refine bl_then ?_ (by assumption) | refine Below.setCell ?_ (by first | omega | (simp; done) | (simp; omega)) _ | refine bl_store ?_ ?_ _ _))
        have hT7 : There wf7 wf1.heap.size 4 := by subst hwA; exact there4r wf1 _ _ _ _ _
        clear hwA
        have hXf7 : Below w1.heap.size w1 wf7 := bl_then hXf1 hb7
        have hs7 : w1.heap.size ≤ wf1.heap.size := hXf1.size
        have hq7 := hq1.below hb7
        refine hK.out _ _ hXf7 (fun hHeld => ?_)
        clear hK K
        try simp only [Act.put, List.setIfInBounds_toArray, List.set_cons_zero, List.set_cons_succ]
        refine wpAnyH_ready (rs := [3]) (by kernel_rfl) (by simp) ?_
        refine (AllReadyH.cons rfl (fun K hK => ?_) AllReadyH.nil)
        rw [if_pos (by rfl)]
        go_simp
        refine Calls.mono (toRef_any z x y _) ?_
        rintro e wf8 ⟨rfl, hb8⟩
        have hq8 := hq7.below hb8
        have hXf8 : Below w1.heap.size w1 wf8 := bl_then hXf7 hb8
        have hT8 := There.below hT7 hb8
        go_wp2_with fail
        refine hK.out _ _ hXf8 (fun hHeld => ?_)
        clear hK K
        try simp only [Act.put, List.setIfInBounds_toArray, List.set_cons_zero, List.set_cons_succ]
        refine wpAnyH_ready (rs := [4]) (by kernel_rfl) (by simp) ?_
        refine (AllReadyH.cons rfl (fun K hK => ?_) AllReadyH.nil)
        rw [if_pos (by rfl)]
        go_simp
        refine Calls.mono (Hsp.out _ _ _ _ hq8) ?_
        rintro e wf9 ⟨rfl, hb9⟩
        have hXf9 : Below w1.heap.size w1 wf9 := bl_then hXf8 hb9
        have hT9 := There.below hT8 hb9
        go_wp2_with fail
        refine hK.out _ _ hXf9 (fun hHeld => ?_)
        clear hK K
        try simp only [Act.put, List.setIfInBounds_toArray, List.set_cons_zero, List.set_cons_succ]
        refine wpAnyH_ready (rs := [6]) (by kernel_rfl) (by simp) ?_
        refine (AllReadyH.cons rfl (fun K hK => ?_) AllReadyH.nil)
        rw [if_pos (by rfl)]
        have t0 := hT9.cell 0 (by omega)
        have f0 := (hT9 0 (by omega)).2
        have t1 := hT9.cell 1 (by omega)
        have f1 := (hT9 1 (by omega)).2
        have t2 := hT9.cell 2 (by omega)
        have f2 := (hT9 2 (by omega)).2
        have t3 := hT9.cell 3 (by omega)
        have f3 := (hT9 3 (by omega)).2
        go_simp
        refine hK.out _ _ ((((hXf9.setCell hs7 _).setCell hs7 _).setCell hs7 _).setCell hs7 _) (fun hHeld => ?_)
        clear hK K
        try simp only [Act.put, List.setIfInBounds_toArray, List.set_cons_zero, List.set_cons_succ]
        obtain ⟨q0, q1, q2, q3⟩ := set4_at (a := .int .i64 ac) (b := .int .i64 aa) (c := .int .i64 ab) (d := .int .i64 ad) hT9
        have hBf : Below w1.heap.size w1 ((((wf9.setCell ⟨wf1.heap.size, 0, none⟩ (.int .i64 ac)).setCell ⟨wf1.heap.size, 1, none⟩ (.int .i64 aa)).setCell ⟨wf1.heap.size, 2, none⟩ (.int .i64 ab)).setCell ⟨wf1.heap.size, 3, none⟩ (.int .i64 ad)) := (((hXf9.setCell hs7 _).setCell hs7 _).setCell hs7 _).setCell hs7 _
        refine wpAnyH_done (by kernel_rfl) ?_ _
        refine NoPanic.normal ?_
        go_wp2_with fail
        go_meet
        case rel => exact ⟨_, rfl, hBf, hs7, q0, q1, q2, q3⟩
    · rw [if_pos (by rfl)]
      go_simp
      generalize hwA : (World.alloc _ _ : World) = wf10
      have hb10 : Below wk0.heap.size wk0 wf10 := by subst hwA; (repeat (first | exact Below.refl _ _ | assumption | refine Below.drew ?_ | refine bl_alloc ?_ _ | refine bl_then ?_ (by assumption) | refine Below.setCell ?_ (by first | omega | (simp; done) | (simp; omega)) _ | refine bl_store ?_ ?_ _ _))
      have hT10 : There wf10 wk0.heap.size 4 := by subst hwA; exact there4r wk0 _ _ _ _ _
      clear hwA
      have hXf10 : Below w1.heap.size w1 wf10 := bl_then hX0 hb10
      have hs10 : w1.heap.size ≤ wk0.heap.size := hX0.size
      refine hK.out _ _ hXf10 (fun hHeld => ?_)
      clear hK K
      try simp only [Act.put, List.setIfInBounds_toArray, List.set_cons_zero, List.set_cons_succ]
      refine wpAnyH_ready (rs := [1]) (by kernel_rfl) (by simp) ?_
      refine (AllReadyH.cons rfl (fun K hK => ?_) AllReadyH.nil)
      rw [if_pos (by rfl)]
      go_simp
      refine Calls.mono (HTo.out _ (bl_then hR1 hXf10)) ?_
      rintro e wf11 ⟨bq11, Aq11, rfl, hge11, hq11, hb11⟩
      have hXf11 : Below w1.heap.size w1 wf11 := bl_then hXf10 hb11
      have hT11 := There.below hT10 hb11
      go_wp2_with fail
      refine hK.out _ _ hXf11 (fun hHeld => ?_)
      clear hK K
      try simp only [Act.put, List.setIfInBounds_toArray, List.set_cons_zero, List.set_cons_succ]
      refine wpAnyH_ready (rs := [3]) (by kernel_rfl) (by simp) ?_
      refine (AllReadyH.cons rfl (fun K hK => ?_) AllReadyH.nil)
      rw [if_pos (by rfl)]
      go_simp
      refine Calls.mono (toRef_any z x y _) ?_
      rintro e wf12 ⟨rfl, hb12⟩
      have hq12 := hq11.below hb12
      have hXf12 : Below w1.heap.size w1 wf12 := bl_then hXf11 hb12
      have hT12 := There.below hT11 hb12
      go_wp2_with fail
      refine hK.out _ _ hXf12 (fun hHeld => ?_)
      clear hK K
      try simp only [Act.put, List.setIfInBounds_toArray, List.set_cons_zero, List.set_cons_succ]
      refine wpAnyH_ready (rs := [4]) (by kernel_rfl) (by simp) ?_
      refine (AllReadyH.cons rfl (fun K hK => ?_) AllReadyH.nil)
      rw [if_pos (by rfl)]
      go_simp
      refine Calls.mono (Hsp.out _ _ _ _ hq12) ?_
      rintro e wf13 ⟨rfl, hb13⟩
      have hXf13 : Below w1.heap.size w1 wf13 := bl_then hXf12 hb13
      have hT13 := There.below hT12 hb13
      go_wp2_with fail
      refine hK.out _ _ hXf13 (fun hHeld => ?_)
      clear hK K
      try simp only [Act.put, List.setIfInBounds_toArray, List.set_cons_zero, List.set_cons_succ]
      refine wpAnyH_ready (rs := [6]) (by kernel_rfl) (by simp) ?_
      refine (AllReadyH.cons rfl (fun K hK => ?_) AllReadyH.nil)
      rw [if_pos (by rfl)]
      have t0 := hT13.cell 0 (by omega)
      have f0 := (hT13 0 (by omega)).2
      have t1 := hT13.cell 1 (by omega)
      have f1 := (hT13 1 (by omega)).2
      have t2 := hT13.cell 2 (by omega)
      have f2 := (hT13 2 (by omega)).2
      have t3 := hT13.cell 3 (by omega)
      have f3 := (hT13 3 (by omega)).2
      go_simp
      refine hK.out _ _ ((((hXf13.setCell hs10 _).setCell hs10 _).setCell hs10 _).setCell hs10 _) (fun hHeld => ?_)
      clear hK K
      try simp only [Act.put, List.setIfInBounds_toArray, List.set_cons_zero, List.set_cons_succ]
      obtain ⟨q0, q1, q2, q3⟩ := set4_at (a := .int .i64 ac) (b := .int .i64 aa) (c := .int .i64 ab) (d := .int .i64 ad) hT13
      have hBf : Below w1.heap.size w1 ((((wf13.setCell ⟨wk0.heap.size, 0, none⟩ (.int .i64 ac)).setCell ⟨wk0.heap.size, 1, none⟩ (.int .i64 aa)).setCell ⟨wk0.heap.size, 2, none⟩ (.int .i64 ab)).setCell ⟨wk0.heap.size, 3, none⟩ (.int .i64 ad)) := (((hXf13.setCell hs10 _).setCell hs10 _).setCell hs10 _).setCell hs10 _
      refine wpAnyH_done (by kernel_rfl) ?_ _
      refine NoPanic.normal ?_
      go_wp2_with fail
      go_meet
      case rel => exact ⟨_, rfl, hBf, hs10, q0, q1, q2, q3⟩
  obtain ⟨bw, rfl, hBy, hbx, g0, g1, g2, g3⟩ := hcut
  generalize wc = w3 at *
  have HB3 : Hid (Below w1.heap.size w1 w3) := hBy
  have hbw3 : bw < w3.heap.size := World.block_lt_of_cell? _ _ g0
  clear hBy hR1
  have cy0 := y0 w3 HB3.out
  have cy1 := y1 w3 HB3.out
  have cz0 := z0 w3 HB3.out
  have cz1 := z1 w3 HB3.out
  have cz2 := z2 w3 HB3.out
  go_wp2_with fail
  refine Calls.mono (HTo.out _ HB3.out) ?_
  rintro e w4 ⟨b4, A4, rfl, hle4, hO4, hb4⟩
  have HO4 : Hid (OwnKs w4 (b4 + 1) b4 n K A4) := hO4
  have HB4 : Hid (Below w1.heap.size w1 w4) := bl_then HB3.out hb4
  have HG4 : Hid (w4.cell? ⟨bw, 0, none⟩ = some (.int .i64 ac) ∧ w4.cell? ⟨bw, 1, none⟩ = some (.int .i64 aa) ∧ w4.cell? ⟨bw, 2, none⟩ = some (.int .i64 ab) ∧ w4.cell? ⟨bw, 3, none⟩ = some (.int .i64 ad)) := ⟨(hb4.cell (p := ⟨bw, 0, none⟩) hbw3).trans g0, (hb4.cell (p := ⟨bw, 1, none⟩) hbw3).trans g1, (hb4.cell (p := ⟨bw, 2, none⟩) hbw3).trans g2, (hb4.cell (p := ⟨bw, 3, none⟩) hbw3).trans g3⟩
  have hbw4 : bw < w4.heap.size := Nat.lt_of_lt_of_le hbw3 hb4.size
  clear g0 g1 g2 g3
  clear hO4 hb4 cy0 cy1 cz0 cz1 cz2
  go_wp2_with fail
  generalize hwA : (w4.alloc _ : World) = w5
  have hb5 : Below w4.heap.size w4 w5 := by subst hwA; (repeat (first | exact Below.refl _ _ | assumption | refine Below.drew ?_ | refine bl_alloc ?_ _ | refine bl_then ?_ (by assumption) | refine Below.setCell ?_ (by first | omega | (simp; done) | (simp; omega)) _ | refine bl_store ?_ ?_ _ _))
  have k0 : w5.cell? ⟨w4.heap.size, 0, none⟩ = some (.int .i64 s) := by subst hwA; simp [go_sem]
  have k1 : w5.cell? ⟨w4.heap.size, 1, none⟩ = some (.slice (some ⟨b4, 0, none⟩) n n) := by subst hwA; simp [go_sem]
  clear hwA
  have HO5 : Hid (OwnKs w5 (b4 + 1) b4 n K A4) := HO4.out.below hb5
  have HB5 : Hid (Below w1.heap.size w1 w5) := bl_then HB4.out hb5
  have hxl : w4.heap.size < w5.heap.size := World.block_lt_of_cell? _ _ k0
  have HG5 : Hid (w5.cell? ⟨bw, 0, none⟩ = some (.int .i64 ac) ∧ w5.cell? ⟨bw, 1, none⟩ = some (.int .i64 aa) ∧ w5.cell? ⟨bw, 2, none⟩ = some (.int .i64 ab) ∧ w5.cell? ⟨bw, 3, none⟩ = some (.int .i64 ad)) := ⟨(hb5.cell (p := ⟨bw, 0, none⟩) hbw4).trans HG4.out.1, (hb5.cell (p := ⟨bw, 1, none⟩) hbw4).trans HG4.out.2.1, (hb5.cell (p := ⟨bw, 2, none⟩) hbw4).trans HG4.out.2.2.1, (hb5.cell (p := ⟨bw, 3, none⟩) hbw4).trans HG4.out.2.2.2⟩
  have hbw5 : bw < w5.heap.size := Nat.lt_of_lt_of_le hbw4 hb5.size
  clear HG4 hbw4
  generalize w4.heap.size = bx at *
  have HK5 : Hid (w5.cell? ⟨bx, 0, none⟩ = some (.int .i64 s) ∧ w5.cell? ⟨bx, 1, none⟩ = some (.slice (some ⟨b4, 0, none⟩) n n)) := ⟨k0, k1⟩
  clear hb5 HO4 HB4 HB3
  have hxw5 : bx < w5.heap.size := hxl
  clear k0 k1
  have hR5 := HB5.out
  go_cut [8] (fun t wx => ∃ b : Nat, t = .pointer (some ⟨b, 0, none⟩) ∧ Below w5.heap.size w5 wx ∧ w5.heap.size ≤ b ∧ wx.cell? ⟨b, 0, none⟩ = some (.int .i64 ac) ∧ wx.cell? ⟨b, 1, none⟩ = some (.int .i64 aa) ∧ wx.cell? ⟨b, 2, none⟩ = some (.int .i64 ab) ∧ wx.cell? ⟨b, 3, none⟩ = some (.int .i64 ad))
  case first =>
    have x0 : ∀ W', Below w5.heap.size w5 W' → W'.cell? ⟨bx, 0, none⟩ = some (.int .i64 s) := fun W' h => (h.cell (p := ⟨bx, 0, none⟩) hxw5).trans HK5.out.1
    have x1 : ∀ W', Below w5.heap.size w5 W' → W'.cell? ⟨bx, 1, none⟩ = some (.slice (some ⟨b4, 0, none⟩) n n) := fun W' h => (h.cell (p := ⟨bx, 1, none⟩) hxw5).trans HK5.out.2
    have sy0 : ∀ W', Below w5.heap.size w5 W' → W'.cell? ⟨w.heap.size, 0, none⟩ = some (.int .i64 s) := fun W' h => y0 W' (bl_then hR5 h)
    have sy1 : ∀ W', Below w5.heap.size w5 W' → W'.cell? ⟨w.heap.size, 1, none⟩ = some (.slice a n cap) := fun W' h => y1 W' (bl_then hR5 h)
    have sz0 : ∀ W', Below w5.heap.size w5 W' → W'.cell? ⟨w.heap.size + 1, 0, none⟩ = some (.int .i64 z) := fun W' h => z0 W' (bl_then hR5 h)
    have sz1 : ∀ W', Below w5.heap.size w5 W' → W'.cell? ⟨w.heap.size + 1, 1, none⟩ = some (.int .i64 x) := fun W' h => z1 W' (bl_then hR5 h)
    have sz2 : ∀ W', Below w5.heap.size w5 W' → W'.cell? ⟨w.heap.size + 1, 2, none⟩ = some (.int .i64 y) := fun W' h => z2 W' (bl_then hR5 h)
    refine wp_region_noPanic ?_
    refine wp_region_held_drew (S := fun W' => Below w5.heap.size w5 W') (by kernel_rfl) (by have := Below.refl w5.heap.size w5; (repeat (first | exact Below.refl _ _ | assumption | refine Below.drew ?_ | refine bl_alloc ?_ _ | refine bl_then ?_ (by assumption) | refine Below.setCell ?_ (by first | omega | (simp; done) | (simp; omega)) _ | refine bl_store ?_ ?_ _ _))) (fun hHeld => ?_)
    have hX0 : Below w5.heap.size w5 w5.drew := hHeld
    refine takeD (i := 0) (d := some 21) (v := ?vg0) rfl rfl (by kernel_rfl) (by kernel_rfl) (by kernel_rfl) (fun _ _ _ h => h) (Or.inl ⟨by rfl, ?hyg0⟩) (by assumption) ?_
    case hyg0 => (intro w hSw; (try dsimp only at hSw); go_simp <;> with_reducible rfl)
    try simp only [Act.put, List.setIfInBounds_toArray, List.set_cons_zero, List.set_cons_succ]
    refine takeD (i := 1) (d := some 22) (v := ?vg1) rfl rfl (by kernel_rfl) (by kernel_rfl) (by kernel_rfl) (fun _ _ _ h => h) (Or.inl ⟨by rfl, ?hyg1⟩) (by assumption) ?_
    case hyg1 => (intro w hSw; (try dsimp only at hSw); go_simp <;> with_reducible rfl)
    try simp only [Act.put, List.setIfInBounds_toArray, List.set_cons_zero, List.set_cons_succ]
    generalize w5.drew = wk0 at *
    refine wpAnyH_ready (rs := [2, 4]) (by kernel_rfl) (by simp) ?_
    refine (AllReadyH.cons rfl (fun K hK => ?_) (AllReadyH.cons rfl (fun K hK => ?_) AllReadyH.nil))
    · rw [if_pos (by rfl)]
      go_simp
      refine Calls.mono (toRef_any z x y _) ?_
      rintro e wg14 ⟨rfl, hb14⟩
      have hXg14 : Below w5.heap.size w5 wg14 := bl_then hX0 hb14
      go_wp2_with fail
      refine hK.out _ _ hXg14 (fun hHeld => ?_)
      clear hK K
      try simp only [Act.put, List.setIfInBounds_toArray, List.set_cons_zero, List.set_cons_succ]
      refine wpAnyH_ready (rs := [3, 4]) (by kernel_rfl) (by simp) ?_
      refine (AllReadyH.cons rfl (fun K hK => ?_) (AllReadyH.cons rfl (fun K hK => ?_) AllReadyH.nil))
      · rw [if_pos (by rfl)]
        go_simp
        refine Calls.mono (Him.out _ _ _ _ (HO5.out.below hXg14)) ?_
        rintro e wg15 ⟨rfl, hb15⟩
        have hXg15 : Below w5.heap.size w5 wg15 := bl_then hXg14 hb15
        go_wp2_with fail
        refine hK.out _ _ hXg15 (fun hHeld => ?_)
        clear hK K
        try simp only [Act.put, List.setIfInBounds_toArray, List.set_cons_zero, List.set_cons_succ]
        refine wpAnyH_ready (rs := [4]) (by kernel_rfl) (by simp) ?_
        refine (AllReadyH.cons rfl (fun K hK => ?_) AllReadyH.nil)
        rw [if_pos (by rfl)]
        go_simp
        generalize hwA : (World.alloc _ _ : World) = wg16
        have hb16 : Below wg15.heap.size wg15 wg16 := by subst hwA; (repeat (first | exact Below.refl _ _ | assumption | refine Below.drew ?_ | refine bl_alloc ?_ _ | refine bl_then ?_ (by assumption) | refine Below.setCell ?_ (by first | omega | (simp; done) | (simp; omega)) _ | refine bl_store ?_ ?_ _ _))
        have hT16 : There wg16 wg15.heap.size 4 := by subst hwA; exact there4r wg15 _ _ _ _ _
        clear hwA
        have hXg16 : Below w5.heap.size w5 wg16 := bl_then hXg15 hb16
        have hs16 : w5.heap.size ≤ wg15.heap.size := hXg15.size
        refine hK.out _ _ hXg16 (fun hHeld => ?_)
        clear hK K
        try simp only [Act.put, List.setIfInBounds_toArray, List.set_cons_zero, List.set_cons_succ]
        refine wpAnyH_ready (rs := [5]) (by kernel_rfl) (by simp) ?_
        refine (AllReadyH.cons rfl (fun K hK => ?_) AllReadyH.nil)
        rw [if_pos (by rfl)]
        have t0 := hT16.cell 0 (by omega)
        have f0 := (hT16 0 (by omega)).2
        have t1 := hT16.cell 1 (by omega)
        have f1 := (hT16 1 (by omega)).2
        have t2 := hT16.cell 2 (by omega)
        have f2 := (hT16 2 (by omega)).2
        have t3 := hT16.cell 3 (by omega)
        have f3 := (hT16 3 (by omega)).2
        go_simp
        refine hK.out _ _ ((((hXg16.setCell hs16 _).setCell hs16 _).setCell hs16 _).setCell hs16 _) (fun hHeld => ?_)
        clear hK K
        try simp only [Act.put, List.setIfInBounds_toArray, List.set_cons_zero, List.set_cons_succ]
        obtain ⟨q0, q1, q2, q3⟩ := set4_at (a := .int .i64 ac) (b := .int .i64 aa) (c := .int .i64 ab) (d := .int .i64 ad) hT16
        have hBf : Below w5.heap.size w5 ((((wg16.setCell ⟨wg15.heap.size, 0, none⟩ (.int .i64 ac)).setCell ⟨wg15.heap.size, 1, none⟩ (.int .i64 aa)).setCell ⟨wg15.heap.size, 2, none⟩ (.int .i64 ab)).setCell ⟨wg15.heap.size, 3, none⟩ (.int .i64 ad)) := (((hXg16.setCell hs16 _).setCell hs16 _).setCell hs16 _).setCell hs16 _
        refine wpAnyH_done (by kernel_rfl) ?_ _
        refine NoPanic.normal ?_
        go_wp2_with fail
        go_meet
        case rel => exact ⟨_, rfl, hBf, hs16, q0, q1, q2, q3⟩
      · rw [if_pos (by rfl)]
        go_simp
        generalize hwA : (World.alloc _ _ : World) = wg17
        have hb17 : Below wg14.heap.size wg14 wg17 := by subst hwA; (repeat (first | exact Below.refl _ _ | assumption | refine Below.drew ?_ | refine bl_alloc ?_ _ | refine bl_then ?_ (by assumption) | refine Below.setCell ?_ (by first | omega | (simp; done) | (simp; omega)) _ | refine bl_store ?_ ?_ _ _))
        have hT17 : There wg17 wg14.heap.size 4 := by subst hwA; exact there4r wg14 _ _ _ _ _
        clear hwA
        have hXg17 : Below w5.heap.size w5 wg17 := bl_then hXg14 hb17
        have hs17 : w5.heap.size ≤ wg14.heap.size := hXg14.size
        refine hK.out _ _ hXg17 (fun hHeld => ?_)
        clear hK K
        try simp only [Act.put, List.setIfInBounds_toArray, List.set_cons_zero, List.set_cons_succ]
        refine wpAnyH_ready (rs := [3]) (by kernel_rfl) (by simp) ?_
        refine (AllReadyH.cons rfl (fun K hK => ?_) AllReadyH.nil)
        rw [if_pos (by rfl)]
        go_simp
        refine Calls.mono (Him.out _ _ _ _ (HO5.out.below hXg17)) ?_
        rintro e wg18 ⟨rfl, hb18⟩
        have hXg18 : Below w5.heap.size w5 wg18 := bl_then hXg17 hb18
        have hT18 := There.below hT17 hb18
        go_wp2_with fail
        refine hK.out _ _ hXg18 (fun hHeld => ?_)
        clear hK K
        try simp only [Act.put, List.setIfInBounds_toArray, List.set_cons_zero, List.set_cons_succ]
        refine wpAnyH_ready (rs := [5]) (by kernel_rfl) (by simp) ?_
        refine (AllReadyH.cons rfl (fun K hK => ?_) AllReadyH.nil)
        rw [if_pos (by rfl)]
        have t0 := hT18.cell 0 (by omega)
        have f0 := (hT18 0 (by omega)).2
        have t1 := hT18.cell 1 (by omega)
        have f1 := (hT18 1 (by omega)).2
        have t2 := hT18.cell 2 (by omega)
        have f2 := (hT18 2 (by omega)).2
        have t3 := hT18.cell 3 (by omega)
        have f3 := (hT18 3 (by omega)).2
        go_simp
        refine hK.out _ _ ((((hXg18.setCell hs17 _).setCell hs17 _).setCell hs17 _).setCell hs17 _) (fun hHeld => ?_)
        clear hK K
        try simp only [Act.put, List.setIfInBounds_toArray, List.set_cons_zero, List.set_cons_succ]
        obtain ⟨q0, q1, q2, q3⟩ := set4_at (a := .int .i64 ac) (b := .int .i64 aa) (c := .int .i64 ab) (d := .int .i64 ad) hT18
        have hBf : Below w5.heap.size w5 ((((wg18.setCell ⟨wg14.heap.size, 0, none⟩ (.int .i64 ac)).setCell ⟨wg14.heap.size, 1, none⟩ (.int .i64 aa)).setCell ⟨wg14.heap.size, 2, none⟩ (.int .i64 ab)).setCell ⟨wg14.heap.size, 3, none⟩ (.int .i64 ad)) := (((hXg18.setCell hs17 _).setCell hs17 _).setCell hs17 _).setCell hs17 _
        refine wpAnyH_done (by kernel_rfl) ?_ _
        refine NoPanic.normal ?_
        go_wp2_with fail
        go_meet
        case rel => exact ⟨_, rfl, hBf, hs17, q0, q1, q2, q3⟩
    · rw [if_pos (by rfl)]
      go_simp
      generalize hwA : (World.alloc _ _ : World) = wg19
      have hb19 : Below wk0.heap.size wk0 wg19 := by subst hwA; (repeat (first | exact Below.refl _ _ | assumption | refine Below.drew ?_ | refine bl_alloc ?_ _ | refine bl_then ?_ (by assumption) | refine Below.setCell ?_ (by first | omega | (simp; done) | (simp; omega)) _ | refine bl_store ?_ ?_ _ _))
      have hT19 : There wg19 wk0.heap.size 4 := by subst hwA; exact there4r wk0 _ _ _ _ _
      clear hwA
      have hXg19 : Below w5.heap.size w5 wg19 := bl_then hX0 hb19
      have hs19 : w5.heap.size ≤ wk0.heap.size := hX0.size
      refine hK.out _ _ hXg19 (fun hHeld => ?_)
      clear hK K
      try simp only [Act.put, List.setIfInBounds_toArray, List.set_cons_zero, List.set_cons_succ]
      refine wpAnyH_ready (rs := [2]) (by kernel_rfl) (by simp) ?_
      refine (AllReadyH.cons rfl (fun K hK => ?_) AllReadyH.nil)
      rw [if_pos (by rfl)]
      go_simp
      refine Calls.mono (toRef_any z x y _) ?_
      rintro e wg20 ⟨rfl, hb20⟩
      have hXg20 : Below w5.heap.size w5 wg20 := bl_then hXg19 hb20
      have hT20 := There.below hT19 hb20
      go_wp2_with fail
      refine hK.out _ _ hXg20 (fun hHeld => ?_)
      clear hK K
      try simp only [Act.put, List.setIfInBounds_toArray, List.set_cons_zero, List.set_cons_succ]
      refine wpAnyH_ready (rs := [3]) (by kernel_rfl) (by simp) ?_
      refine (AllReadyH.cons rfl (fun K hK => ?_) AllReadyH.nil)
      rw [if_pos (by rfl)]
      go_simp
      refine Calls.mono (Him.out _ _ _ _ (HO5.out.below hXg20)) ?_
      rintro e wg21 ⟨rfl, hb21⟩
      have hXg21 : Below w5.heap.size w5 wg21 := bl_then hXg20 hb21
      have hT21 := There.below hT20 hb21
      go_wp2_with fail
      refine hK.out _ _ hXg21 (fun hHeld => ?_)
      clear hK K
      try simp only [Act.put, List.setIfInBounds_toArray, List.set_cons_zero, List.set_cons_succ]
      refine wpAnyH_ready (rs := [5]) (by kernel_rfl) (by simp) ?_
      refine (AllReadyH.cons rfl (fun K hK => ?_) AllReadyH.nil)
      rw [if_pos (by rfl)]
      have t0 := hT21.cell 0 (by omega)
      have f0 := (hT21 0 (by omega)).2
      have t1 := hT21.cell 1 (by omega)
      have f1 := (hT21 1 (by omega)).2
      have t2 := hT21.cell 2 (by omega)
      have f2 := (hT21 2 (by omega)).2
      have t3 := hT21.cell 3 (by omega)
      have f3 := (hT21 3 (by omega)).2
      go_simp
      refine hK.out _ _ ((((hXg21.setCell hs19 _).setCell hs19 _).setCell hs19 _).setCell hs19 _) (fun hHeld => ?_)
      clear hK K
      try simp only [Act.put, List.setIfInBounds_toArray, List.set_cons_zero, List.set_cons_succ]
      obtain ⟨q0, q1, q2, q3⟩ := set4_at (a := .int .i64 ac) (b := .int .i64 aa) (c := .int .i64 ab) (d := .int .i64 ad) hT21
      have hBf : Below w5.heap.size w5 ((((wg21.setCell ⟨wk0.heap.size, 0, none⟩ (.int .i64 ac)).setCell ⟨wk0.heap.size, 1, none⟩ (.int .i64 aa)).setCell ⟨wk0.heap.size, 2, none⟩ (.int .i64 ab)).setCell ⟨wk0.heap.size, 3, none⟩ (.int .i64 ad)) := (((hXg21.setCell hs19 _).setCell hs19 _).setCell hs19 _).setCell hs19 _
      refine wpAnyH_done (by kernel_rfl) ?_ _
      refine NoPanic.normal ?_
      go_wp2_with fail
      go_meet
      case rel => exact ⟨_, rfl, hBf, hs19, q0, q1, q2, q3⟩
  obtain ⟨bv, rfl, hBy, hbx', g0, g1, g2, g3⟩ := hcut
  generalize wc = w6 at *
  have HO6 : Hid (OwnKs w6 (b4 + 1) b4 n K A4) := HO5.out.below hBy
  have HB6 : Hid (Below w1.heap.size w1 w6) := bl_then HB5.out hBy
  have HK6 : Hid (w6.cell? ⟨bx, 0, none⟩ = some (.int .i64 s) ∧ w6.cell? ⟨bx, 1, none⟩ = some (.slice (some ⟨b4, 0, none⟩) n n)) := ⟨(hBy.cell (p := ⟨bx, 0, none⟩) hxw5).trans HK5.out.1, (hBy.cell (p := ⟨bx, 1, none⟩) hxw5).trans HK5.out.2⟩
  have hxw6 : bx < w6.heap.size := Nat.lt_of_lt_of_le hxw5 hBy.size
  have e0 := (hBy.cell (p := ⟨bw, 0, none⟩) hbw5).trans HG5.out.1
  have e1 := (hBy.cell (p := ⟨bw, 1, none⟩) hbw5).trans HG5.out.2.1
  have e2 := (hBy.cell (p := ⟨bw, 2, none⟩) hbw5).trans HG5.out.2.2.1
  have e3 := (hBy.cell (p := ⟨bw, 3, none⟩) hbw5).trans HG5.out.2.2.2
  clear hBy hR5 HG5 HK5 HO5 HB5
  go_wp2_with fail
  refine (eqRefResult_any ac aa ab ad _).mono ?_
  rintro e w7 ⟨rfl, hb7⟩
  have HO7 : Hid (OwnKs w7 (b4 + 1) b4 n K A4) := HO6.out.below hb7
  have HB7 : Hid (Below w1.heap.size w1 w7) := bl_then HB6.out hb7
  have HK7 : Hid (w7.cell? ⟨bx, 0, none⟩ = some (.int .i64 s) ∧ w7.cell? ⟨bx, 1, none⟩ = some (.slice (some ⟨b4, 0, none⟩) n n)) := ⟨(hb7.cell (p := ⟨bx, 0, none⟩) hxw6).trans HK6.out.1, (hb7.cell (p := ⟨bx, 1, none⟩) hxw6).trans HK6.out.2⟩
  have hxw7 : bx < w7.heap.size := Nat.lt_of_lt_of_le hxw6 hb7.size
  clear hb7 HO6 HB6 HK6 hxw6 g0 g1 g2 g3 e0 e1 e2 e3
  go_wp2_with fail
  have HO5 := HO7
  have x0 : ∀ W', Below w7.heap.size w7 W' → W'.cell? ⟨bx, 0, none⟩ = some (.int .i64 s) := fun W' h => (h.cell (p := ⟨bx, 0, none⟩) hxw7).trans HK7.out.1
  have x1 : ∀ W', Below w7.heap.size w7 W' → W'.cell? ⟨bx, 1, none⟩ = some (.slice (some ⟨b4, 0, none⟩) n n) := fun W' h => (h.cell (p := ⟨bx, 1, none⟩) hxw7).trans HK7.out.2
  have hR6 := HB7.out
  have sy0 : ∀ W', Below w7.heap.size w7 W' → W'.cell? ⟨w.heap.size, 0, none⟩ = some (.int .i64 s) := fun W' h => y0 W' (bl_then hR6 h)
  have sy1 : ∀ W', Below w7.heap.size w7 W' → W'.cell? ⟨w.heap.size, 1, none⟩ = some (.slice a n cap) := fun W' h => y1 W' (bl_then hR6 h)
  have sz0 : ∀ W', Below w7.heap.size w7 W' → W'.cell? ⟨w.heap.size + 1, 0, none⟩ = some (.int .i64 z) := fun W' h => z0 W' (bl_then hR6 h)
  have sz1 : ∀ W', Below w7.heap.size w7 W' → W'.cell? ⟨w.heap.size + 1, 1, none⟩ = some (.int .i64 x) := fun W' h => z1 W' (bl_then hR6 h)
  have sz2 : ∀ W', Below w7.heap.size w7 W' → W'.cell? ⟨w.heap.size + 1, 2, none⟩ = some (.int .i64 y) := fun W' h => z2 W' (bl_then hR6 h)
  refine wp_region_noPanic ?_
  refine wp_region_held_drew (S := fun W' => Below w7.heap.size w7 W') (by kernel_rfl) (by have := Below.refl w7.heap.size w7; (repeat (first | exact Below.refl _ _ | assumption | refine Below.drew ?_ | refine bl_alloc ?_ _ | refine bl_then ?_ (by assumption) | refine Below.setCell ?_ (by first | omega | (simp; done) | (simp; omega)) _ | refine bl_store ?_ ?_ _ _))) (fun hHeld => ?_)
  have hX0 : Below w7.heap.size w7 w7.drew := hHeld
  refine takeD (i := 0) (d := some 29) (v := ?vh0) rfl rfl (by kernel_rfl) (by kernel_rfl) (by kernel_rfl) (fun _ _ _ h => h) (Or.inl ⟨by rfl, ?hyh0⟩) (by assumption) ?_
  case hyh0 => (intro w hSw; (try dsimp only at hSw); go_simp <;> with_reducible rfl)
  try simp only [Act.put, List.setIfInBounds_toArray, List.set_cons_zero, List.set_cons_succ]
  refine takeD (i := 1) (d := some 30) (v := ?vh1) rfl rfl (by kernel_rfl) (by kernel_rfl) (by kernel_rfl) (fun _ _ _ h => h) (Or.inl ⟨by rfl, ?hyh1⟩) (by assumption) ?_
  case hyh1 => (intro w hSw; (try dsimp only at hSw); go_simp <;> with_reducible rfl)
  try simp only [Act.put, List.setIfInBounds_toArray, List.set_cons_zero, List.set_cons_succ]
  generalize w7.drew = wk0 at *
  refine wpAnyH_ready (rs := [2]) (by kernel_rfl) (by simp) ?_
  refine (AllReadyH.cons rfl (fun K hK => ?_) AllReadyH.nil)
  rw [if_pos (by rfl)]
  go_simp
  refine Calls.mono (HTo.out _ (bl_then hR6 hX0)) ?_
  rintro e wh22 ⟨bq22, Aq22, rfl, hge22, hq22, hb22⟩
  have hXh22 : Below w7.heap.size w7 wh22 := bl_then hX0 hb22
  go_wp2_with fail
  refine hK.out _ _ hXh22 (fun hHeld => ?_)
  clear hK K
  try simp only [Act.put, List.setIfInBounds_toArray, List.set_cons_zero, List.set_cons_succ]
  refine wpAnyH_ready (rs := [3]) (by kernel_rfl) (by simp) ?_
  refine (AllReadyH.cons rfl (fun K hK => ?_) AllReadyH.nil)
  rw [if_pos (by rfl)]
  go_simp
  refine Calls.mono (eqCache_any s _ _ _ _ n _ _ _ _ (HO5.out.below hXh22) hq22 HS.out) ?_
  rintro e wh23 ⟨rfl, hb23⟩
  have hXh23 : Below w7.heap.size w7 wh23 := bl_then hXh22 hb23
  go_wp2_with fail
  refine hK.out _ _ hXh23 (fun hHeld => ?_)
  clear hK K
  try simp only [Act.put, List.setIfInBounds_toArray, List.set_cons_zero, List.set_cons_succ]
  refine takeD (i := 4) (d := some 33) (v := ?vh4) rfl rfl (by kernel_rfl) (by kernel_rfl) (by kernel_rfl) (fun _ _ _ h => h) (Or.inl ⟨by rfl, ?hyh4⟩) (by assumption) ?_
  case hyh4 => (intro w hSw; (try dsimp only at hSw); go_simp <;> with_reducible rfl)
  try simp only [Act.put, List.setIfInBounds_toArray, List.set_cons_zero, List.set_cons_succ]
  refine wpAnyH_done (by kernel_rfl) ?_ _
  refine NoPanic.normal ?_
  have HB9 : Hid (Below w.heap.size w wh23) := bl_then HBw.out (bl_then HB7.out hXh23)
  clear x0 x1 sy0 sy1 sz0 sz1 sz2
  go_wp2
  go_ret
  exact ⟨rfl, HB9.out⟩
end Go.Proofs.YthidgolnajggpaaGreat
