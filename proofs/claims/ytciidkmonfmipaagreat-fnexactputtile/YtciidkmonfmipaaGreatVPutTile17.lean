/- Several texts in one. -/
import Derived.Test.YtciidkmonfmipaaGreatVPutTile16
import Derived.Test.YtciidkmonfmipaaGreatVPutTile3
import Derived.Deep.CutBlock
import Derived.Deep.DeepCutAuto
import Derived.Deep.RegionHeld3

/- Features are compared: by layer, of the same by id; only new blocks are laid. -/

namespace Go.Proofs.YtciidkmonfmipaaGreat
open Go.RowKit
set_option linter.unusedSimpArgs false
set_option linter.unusedVariables false
set_option maxRecDepth 100000

def orI (x y : Int) : Int := if x = 0 then y else x
set_option maxHeartbeats 2000000 in
theorem cmpOr_any (b c : Nat) (x y : Int) (w : World) (h0 : w.cell? ⟨b, 0, none⟩ = some (.int .i64 x)) (h1 : w.cell? ⟨b, 1, none⟩ = some (.int .i64 y)) : Calls Tryz.prog 122 #[.slice (some ⟨b, 0, none⟩) 2 c] w fun e w' => e = .returned (.int .i64 (orI x y)) ∧ w' = w := by
  unfold orI
  by_cases hx : x = 0
  · subst hx
    by_cases hy : y = 0
    · subst hy
      go_enter Tryz.func122, Tryz.ntmps122
      go_wp2
      refine wp_loop_rounds 3 ?_
      rw [rounds_succ]
      go_wp2
      rw [rounds_succ]
      go_wp2
      rw [rounds_succ]
      go_wp2
      go_ret
      exact ⟨by simp, rfl⟩
    · have hy' : (y == 0) = false := by simpa using hy
      go_enter Tryz.func122, Tryz.ntmps122
      go_wp2
      refine wp_loop_rounds 2 ?_
      rw [rounds_succ]
      go_wp2
      rw [rounds_succ]
      go_wp2
      go_ret
      exact ⟨by simp, rfl⟩
  · have hx' : (x == 0) = false := by simpa using hx
    rw [if_neg hx]
    go_enter Tryz.func122, Tryz.ntmps122
    go_wp2
    refine wp_loop_rounds 1 ?_
    rw [rounds_succ]
    go_wp2
    go_ret
    exact ⟨rfl, rfl⟩
/-- What comparing two features tells. -/
def cmpF (f g : Feat) : Int := orI (cmpI f.la g.la) (cmpI f.id g.id)
set_option maxHeartbeats 4000000 in
theorem compareFeatures_gro (f g : Feat) (w : World) : Calls Tryz.prog 94 #[.agg (fcell f).toArray, .agg (fcell g).toArray] w fun e w' => e = .returned (.int .i64 (cmpF f g)) ∧ Gro w w' := by
  unfold cmpF
  generalize hA : cmpI f.la g.la = A
  generalize hB : cmpI f.id g.id = B
  have H1 : Hid (∀ W, Calls Tryz.prog 123 #[.int .i64 f.la, .int .i64 g.la] W fun e w' => e = .returned (.int .i64 A) ∧ w' = W) := fun W => by subst hA; exact cmpCompare_any _ _ _
  have H2 : Hid (∀ W, Calls Tryz.prog 123 #[.int .i64 f.id, .int .i64 g.id] W fun e w' => e = .returned (.int .i64 B) ∧ w' = W) := fun W => by subst hB; exact cmpCompare_any _ _ _
  clear hA hB
  unfold fcell
  go_enter Tryz.func94, Tryz.ntmps94
  go_wp2_with fail
  generalize hV : ((w.alloc _).alloc _ : World) = V
  have hB0 : Gro w V := by subst hV; exact ((Gro.refl _).alloc _).alloc _
  have c0 : ∀ W', Gro V W' → W'.cell? ⟨w.heap.size, 0, none⟩ = some (.int .i64 f.id) := fun W' h => by
    rw [h.1.cell (by subst hV; simp <;> omega)]; subst hV; simp [go_sem]
  have c1 : ∀ W', Gro V W' → W'.cell? ⟨w.heap.size, 1, none⟩ = some (.int .i64 f.la) := fun W' h => by
    rw [h.1.cell (by subst hV; simp <;> omega)]; subst hV; simp [go_sem]
  have d0 : ∀ W', Gro V W' → W'.cell? ⟨w.heap.size + 1, 0, none⟩ = some (.int .i64 g.id) := fun W' h => by
    rw [h.1.cell (by subst hV; simp <;> omega)]; subst hV; simp [go_sem]
  have d1 : ∀ W', Gro V W' → W'.cell? ⟨w.heap.size + 1, 1, none⟩ = some (.int .i64 g.la) := fun W' h => by
    rw [h.1.cell (by subst hV; simp <;> omega)]; subst hV; simp [go_sem]
  clear hV
  refine wp_region_noPanic ?_
  refine wp_region_held_drew (S := fun W' => Gro V W') (by kernel_rfl) ((Gro.refl V).drew) (fun hHeld => ?_)
  have hBd : Gro V V.drew := hHeld
  refine takeD (i := 0) (d := some 5) (v := ?vt1) rfl rfl (by kernel_rfl) (by kernel_rfl) (by kernel_rfl) (fun _ _ _ h => h) (Or.inl ⟨by rfl, ?hyt1⟩) (by assumption) ?_
  case hyt1 => (intro w hSw; (try dsimp only at hSw); go_simp <;> with_reducible rfl)
  try simp only [Act.put, List.setIfInBounds_toArray, List.set_cons_zero, List.set_cons_succ]
  refine takeD (i := 1) (d := some 6) (v := ?vt2) rfl rfl (by kernel_rfl) (by kernel_rfl) (by kernel_rfl) (fun _ _ _ h => h) (Or.inl ⟨by rfl, ?hyt2⟩) (by assumption) ?_
  case hyt2 => (intro w hSw; (try dsimp only at hSw); go_simp <;> with_reducible rfl)
  try simp only [Act.put, List.setIfInBounds_toArray, List.set_cons_zero, List.set_cons_succ]
  refine takeD (i := 2) (d := some 7) (v := ?vt3) rfl rfl (by kernel_rfl) (by kernel_rfl) (by kernel_rfl) (fun _ _ _ h => h) (Or.inl ⟨by rfl, ?hyt3⟩) (by assumption) ?_
  case hyt3 => (intro w hSw; (try dsimp only at hSw); go_simp <;> with_reducible rfl)
  try simp only [Act.put, List.setIfInBounds_toArray, List.set_cons_zero, List.set_cons_succ]
  refine takeD (i := 3) (d := some 8) (v := ?vt4) rfl rfl (by kernel_rfl) (by kernel_rfl) (by kernel_rfl) (fun _ _ _ h => h) (Or.inl ⟨by rfl, ?hyt4⟩) (by assumption) ?_
  case hyt4 => (intro w hSw; (try dsimp only at hSw); go_simp <;> with_reducible rfl)
  try simp only [Act.put, List.setIfInBounds_toArray, List.set_cons_zero, List.set_cons_succ]
  refine takeD (i := 5) (d := some 10) (v := ?vt5) rfl rfl (by kernel_rfl) (by kernel_rfl) (by kernel_rfl) (fun _ _ _ h => h) (Or.inl ⟨by rfl, ?hyt5⟩) (by assumption) ?_
  case hyt5 => (intro w hSw; (try dsimp only at hSw); go_simp <;> with_reducible rfl)
  try simp only [Act.put, List.setIfInBounds_toArray, List.set_cons_zero, List.set_cons_succ]
  refine takeD (i := 6) (d := some 11) (v := ?vt6) rfl rfl (by kernel_rfl) (by kernel_rfl) (by kernel_rfl) (fun _ _ _ h => h) (Or.inl ⟨by rfl, ?hyt6⟩) (by assumption) ?_
  case hyt6 => (intro w hSw; (try dsimp only at hSw); go_simp <;> with_reducible rfl)
  try simp only [Act.put, List.setIfInBounds_toArray, List.set_cons_zero, List.set_cons_succ]
  refine takeD (i := 7) (d := some 12) (v := ?vt7) rfl rfl (by kernel_rfl) (by kernel_rfl) (by kernel_rfl) (fun _ _ _ h => h) (Or.inl ⟨by rfl, ?hyt7⟩) (by assumption) ?_
  case hyt7 => (intro w hSw; (try dsimp only at hSw); go_simp <;> with_reducible rfl)
  try simp only [Act.put, List.setIfInBounds_toArray, List.set_cons_zero, List.set_cons_succ]
  refine takeD (i := 8) (d := some 13) (v := ?vt8) rfl rfl (by kernel_rfl) (by kernel_rfl) (by kernel_rfl) (fun _ _ _ h => h) (Or.inl ⟨by rfl, ?hyt8⟩) (by assumption) ?_
  case hyt8 => (intro w hSw; (try dsimp only at hSw); go_simp <;> with_reducible rfl)
  try simp only [Act.put, List.setIfInBounds_toArray, List.set_cons_zero, List.set_cons_succ]
  refine wpAnyH_ready (rs := [4]) (by kernel_rfl) (by simp) ?_
  refine (AllReadyH.cons rfl (fun K hK => ?_) AllReadyH.nil)
  go_simp
  refine (H1.out _).mono ?_
  rintro e w4 ⟨rfl, rfl⟩
  go_wp2_with fail
  refine hK.out _ _ hBd (fun hHeld => ?_)
  clear hK K
  try simp only [Act.put, List.setIfInBounds_toArray, List.set_cons_zero, List.set_cons_succ]
  refine wpAnyH_ready (rs := [9]) (by kernel_rfl) (by simp) ?_
  refine (AllReadyH.cons rfl (fun K hK => ?_) AllReadyH.nil)
  go_simp
  refine (H2.out _).mono ?_
  rintro e w9 ⟨rfl, rfl⟩
  go_wp2_with fail
  refine hK.out _ _ hBd (fun hHeld => ?_)
  clear hK K
  try simp only [Act.put, List.setIfInBounds_toArray, List.set_cons_zero, List.set_cons_succ]
  refine wpAnyH_ready (rs := [10]) (by kernel_rfl) (by simp) ?_
  refine (AllReadyH.cons rfl (fun K hK => ?_) AllReadyH.nil)
  go_simp
  generalize hw9 : (World.alloc _ _ : World) = w9
  have hb9 : Gro V w9 := by subst hw9; exact (Gro.refl _).alloc _
  have g0 : w9.cell? ⟨V.heap.size, 0, none⟩ = some (.int .i64 A) := by subst hw9; simp [go_sem]
  have g1 : w9.cell? ⟨V.heap.size, 1, none⟩ = some (.int .i64 B) := by subst hw9; simp [go_sem]
  have hB9 : Gro V w9.drew := hb9.drew
  replace g0 : w9.drew.cell? ⟨V.heap.size, 0, none⟩ = some (.int .i64 A) := g0
  replace g1 : w9.drew.cell? ⟨V.heap.size, 1, none⟩ = some (.int .i64 B) := g1
  clear hw9
  refine hK.out _ _ hB9 (fun hHeld => ?_)
  clear hK K
  try simp only [Act.put, List.setIfInBounds_toArray, List.set_cons_zero, List.set_cons_succ]
  refine wpAnyH_ready (rs := [11]) (by kernel_rfl) (by simp) ?_
  refine (AllReadyH.cons rfl (fun K hK => ?_) AllReadyH.nil)
  go_simp
  refine (cmpOr_any _ _ A B _ g0 g1).mono ?_
  rintro e w11 ⟨rfl, rfl⟩
  go_wp2_with fail
  refine hK.out _ _ hB9 (fun hHeld => ?_)
  clear hK K
  try simp only [Act.put, List.setIfInBounds_toArray, List.set_cons_zero, List.set_cons_succ]
  refine takeD (i := 12) (d := some 4) (v := ?vt9) rfl rfl (by kernel_rfl) (by kernel_rfl) (by kernel_rfl) (fun _ _ _ h => h) (Or.inl ⟨by rfl, ?hyt9⟩) (by assumption) ?_
  case hyt9 => (intro w hSw; (try dsimp only at hSw); go_simp <;> with_reducible rfl)
  try simp only [Act.put, List.setIfInBounds_toArray, List.set_cons_zero, List.set_cons_succ]
  refine wpAnyH_done (by kernel_rfl) ?_ _
  refine NoPanic.normal ?_
  go_wp2_with fail
  go_ret
  exact ⟨rfl, hB0.trans hB9⟩
end Go.Proofs.YtciidkmonfmipaaGreat
/- The model's order of two features. -/

namespace Go.Proofs.YtciidkmonfmipaaGreat
open Go.RowKit
set_option linter.unusedSimpArgs false
set_option linter.unusedVariables false
set_option maxRecDepth 100000

def ltF (f g : Feat) : Bool := decide (f.la < g.la) || (decide (f.la = g.la) && decide (f.id < g.id))
set_option maxHeartbeats 4000000 in
theorem l2Ahead_any (p o p' o' : Nat) (f g : Feat) (w : World) (h0 : w.cell? ⟨p, o, none⟩ = some (.int .i64 f.id)) (h1 : w.cell? ⟨p, o + 1, none⟩ = some (.int .i64 f.la)) (k0 : w.cell? ⟨p', o', none⟩ = some (.int .i64 g.id)) (k1 : w.cell? ⟨p', o' + 1, none⟩ = some (.int .i64 g.la)) :
    Calls Tryz.prog 84 #[.pointer (some ⟨p, o, none⟩), .pointer (some ⟨p', o', none⟩)] w fun e w' => e = .returned (.bool (ltF f g)) ∧ Below w.heap.size w w' := by
  by_cases hx : f.la < g.la
  · have HU : Hid (ltF f g = true) := by show _ = _; simp [ltF, hx]
    go_enter Tryz.func84, Tryz.ntmps84
    go_wp2_with fail
    go_region
    go_wp2
    go_ret
    exact ⟨ret_bool HU.out.symm, by (repeat (first | exact Below.refl _ _ | assumption | refine Below.drew ?_ | refine bl_alloc ?_ _ | refine bl_then ?_ (by assumption) | refine Below.setCell ?_ (by first | omega | (simp; done) | (simp; omega)) _ | refine bl_store ?_ ?_ _ _))⟩
  · have hx' : decide (f.la < g.la) = false := by simpa using hx
    by_cases hy : f.la = g.la
    · have hy' : (f.la == g.la) = true := by simpa using hy
      by_cases hz : f.id < g.id
      · have HU : Hid (ltF f g = true) := by show _ = _; simp [ltF, hy, hz]
        clear hy hx
        go_enter Tryz.func84, Tryz.ntmps84
        go_wp2_with fail
        go_region
        go_wp2
        go_ret
        exact ⟨ret_bool HU.out.symm, by (repeat (first | exact Below.refl _ _ | assumption | refine Below.drew ?_ | refine bl_alloc ?_ _ | refine bl_then ?_ (by assumption) | refine Below.setCell ?_ (by first | omega | (simp; done) | (simp; omega)) _ | refine bl_store ?_ ?_ _ _))⟩
      · have hz' : decide (f.id < g.id) = false := by simpa using hz
        have HU : Hid (ltF f g = false) := by show _ = _; simp [ltF, hx]; omega
        clear hy hx hz
        go_enter Tryz.func84, Tryz.ntmps84
        go_wp2_with fail
        go_region
        go_wp2
        go_ret
        exact ⟨ret_bool HU.out.symm, by (repeat (first | exact Below.refl _ _ | assumption | refine Below.drew ?_ | refine bl_alloc ?_ _ | refine bl_then ?_ (by assumption) | refine Below.setCell ?_ (by first | omega | (simp; done) | (simp; omega)) _ | refine bl_store ?_ ?_ _ _))⟩
    · have hy' : (f.la == g.la) = false := by simpa using hy
      have HU : Hid (ltF f g = false) := by show _ = _; simp [ltF, hx, hy]
      clear hy hx
      go_enter Tryz.func84, Tryz.ntmps84
      go_wp2_with fail
      go_region
      go_wp2
      go_ret
      exact ⟨ret_bool HU.out.symm, by (repeat (first | exact Below.refl _ _ | assumption | refine Below.drew ?_ | refine bl_alloc ?_ _ | refine bl_then ?_ (by assumption) | refine Below.setCell ?_ (by first | omega | (simp; done) | (simp; omega)) _ | refine bl_store ?_ ?_ _ _))⟩
end Go.Proofs.YtciidkmonfmipaaGreat
/- Whether features are in order: the program's and the model's way. -/

namespace Go.Proofs.YtciidkmonfmipaaGreat
open Go.RowKit
set_option linter.unusedSimpArgs false
set_option linter.unusedVariables false
set_option maxRecDepth 100000

/-- No feature is below the one ahead of it; each is above it. -/
def ordI (n : Nat) (G : Nat → Feat) : Bool := decide (∀ i, i < n - 1 → ltF (G (i + 1)) (G i) = false)
def ordS (n : Nat) (G : Nat → Feat) : Bool := decide (∀ i, i < n - 1 → ltF (G i) (G (i + 1)) = true)
theorem cmpF_neg (f g : Feat) : cmpF f g < 0 ↔ ltF f g = true := by
  unfold cmpF orI cmpI ltF
  by_cases h1 : f.la < g.la
  · simp [h1]
  · by_cases h2 : g.la < f.la
    · have : ¬ f.la = g.la := by omega
      simp [h1, h2, this]
    · have : f.la = g.la := by omega
      by_cases h3 : f.id < g.id
      · simp [h1, h2, h3, this]
      · by_cases h4 : g.id < f.id <;> simp [h1, h2, h3, h4, this]
theorem ord_same {n : Nat} {G : Nat → Feat} (h : apartK (fun i => (G i).id) n) : ordI n G = ordS n G := by
  unfold ordI ordS
  rw [decide_eq_decide]
  refine forall_congr' fun i => forall_congr' fun hi => ?_
  have hne : (G i).id ≠ (G (i + 1)).id := fun e => by have := h i (i + 1) (by omega) (by omega) e; omega
  unfold ltF
  simp
  constructor
  · intro ⟨h1, h2⟩
    omega
  · intro h1
    omega
theorem ordI_bad {n : Nat} {G : Nat → Feat} (i : Nat) (hi : i + 1 < n) (h : ltF (G (i + 1)) (G i) = true) : ordI n G = false := by
  unfold ordI
  rw [decide_eq_false]
  intro hc
  rw [hc i (by omega)] at h
  cases h
theorem ordS_bad {n : Nat} {G : Nat → Feat} (i : Nat) (hi : i + 1 < n) (h : ltF (G i) (G (i + 1)) = false) : ordS n G = false := by
  unfold ordS
  rw [decide_eq_false]
  intro hc
  rw [hc i (by omega)] at h
  cases h

theorem compareFeatures_ex (f g : Feat) (w : World) : Calls Tryz.prog 94 #[.agg #[.int .i64 f.id, .int .i64 f.la, .int .i64 f.ki, .int .i64 f.wi, .slice f.a f.n f.cap, .string f.lab, .int .i64 f.pr], .agg #[.int .i64 g.id, .int .i64 g.la, .int .i64 g.ki, .int .i64 g.wi, .slice g.a g.n g.cap, .string g.lab, .int .i64 g.pr]] w fun e w' => e = .returned (.int .i64 (cmpF f g)) ∧ Below w.heap.size w w' :=
  (compareFeatures_gro f g w).mono fun e w' ⟨he, hg⟩ => ⟨he, hg.1⟩
set_option maxHeartbeats 4000000 in
theorem isSortedFunc_any (b n cap : Nat) (G : Nat → Feat) (w : World) (hg : FsAt w b 0 n G) (hbl : b < w.heap.size) (hn : n ≤ 1048576) :
    Calls Tryz.prog 93 #[.slice (some ⟨b, 0, none⟩) n cap, .func (.func 94) #[] #[]] w fun e w' => e = .returned (.bool (ordI n G)) ∧ Below w.heap.size w w' := by
  have HG : Hid (FsAt w b 0 n G) := hg
  clear hg
  by_cases h0 : n = 0
  · subst h0
    have HV : Hid (ordI 0 G = true) := by show _ = _; simp [ordI]
    go_enter Tryz.func93, Tryz.ntmps93
    go_wp2_with fail
    go_loopw [5] (fun i wr => i = .int .i64 (-1) ∧ w = wr) (fun _ _ => 0)
    case atStart => exact ⟨rfl, rfl⟩
    case round =>
      obtain ⟨rfl, rfl⟩ := hrel
      go_wp2
      go_ret
      exact ⟨ret_bool HV.out.symm, Below.refl _ _⟩
  · obtain ⟨N, rfl⟩ : ∃ N, n = N + 1 := ⟨n - 1, by omega⟩
    have e0 : IntKind.i64.wrap (((N + 1 : Nat) : Int) - 1) = (N : Int) := by rw [show ((N + 1 : Nat) : Int) - 1 = (N : Int) by omega]; exact IntWalk.i64_in _ (by omega)
    go_enter Tryz.func93, Tryz.ntmps93
    go_wp2_with fail
    go_loopw [5] (fun i wr => ∃ k : Nat, k ≤ N ∧ i = .int .i64 (k : Int) ∧ (∀ i, k ≤ i → i < N → ltF (G (i + 1)) (G i) = false) ∧ Below w.heap.size w wr) (fun i _ => (intOf i).toNat)
    case atStart => exact ⟨N, by omega, by first | rfl | go_num | (simp; done), fun i h1 h2 => by omega, Below.refl _ _⟩
    case round =>
      obtain ⟨k, hk, rfl, hall, hB⟩ := hrel
      have HALL : Hid (∀ i, k ≤ i → i < N → ltF (G (i + 1)) (G i) = false) := hall
      have HB : Hid (Below w.heap.size w wr) := hB
      have hbr : b < wr.heap.size := Nat.lt_of_lt_of_le hbl hB.size
      have hGr : FsAt wr b 0 (N + 1) G := HG.out.below hB hbl
      clear hall hB
      by_cases h1 : k = 0
      · subst h1
        have HV : Hid (ordI (N + 1) G = true) := by
          show _ = _
          unfold ordI
          rw [decide_eq_true]
          exact fun i hi => HALL.out i (by omega) (by omega)
        go_wp2
        go_ret
        exact ⟨ret_bool HV.out.symm, HB.out⟩
      · obtain ⟨M, rfl⟩ : ∃ M, k = M + 1 := ⟨k - 1, by omega⟩
        have e1 : IntKind.i64.wrap (((M + 1 : Nat) : Int) - 1) = (M : Int) := by rw [show ((M + 1 : Nat) : Int) - 1 = (M : Int) by omega]; exact IntWalk.i64_in _ (by omega)
        have e2 : (0 : Int) < ((M + 1 : Nat) : Int) := by omega
        have e3 : ((M + 1 : Nat) : Int) < ((N + 1 : Nat) : Int) := by omega
        have e4 : (M : Int) < ((N + 1 : Nat) : Int) := by omega
        obtain ⟨P, hP⟩ : ∃ P, M + 1 = P := ⟨_, rfl⟩
        obtain ⟨T, hT⟩ : ∃ T, N + 1 = T := ⟨_, rfl⟩
        have fa := hGr (M + 1) (by omega)
        have fd := hGr M (by omega)
        have HOI : Hid (ltF (G (M + 1)) (G M) = true → ordI (N + 1) G = false) := fun h => ordI_bad M (by omega) h
        have HBR : Hid (Below w.heap.size w wr) := HB.out
        have HKM : Hid (M + 1 = P) := hP
        have HKN : Hid (N + 1 = T) := hT
        rw [hP] at e1 e2 e3 fa HOI
        rw [hT] at e3 e4 HOI
        rw [hT]
        rw [hP]
        have kpos : 0 ≤ (P : Int) := by omega
        have mpos : 0 ≤ (M : Int) := by omega
        have ra : ∀ W', Below wr.heap.size wr W' → FeatAt W' b (0 + P * 7) (G P).id (G P).la (G P).ki (G P).wi (.slice (G P).a (G P).n (G P).cap) (G P).lab (G P).pr := fun W' h => fa.1.below h hbr
        have rd : ∀ W', Below wr.heap.size wr W' → FeatAt W' b (0 + M * 7) (G M).id (G M).la (G M).ki (G M).wi (.slice (G M).a (G M).n (G M).cap) (G M).lab (G M).pr := fun W' h => fd.1.below h hbr
        simp only [Nat.zero_add] at ra rd
        have a0 : ∀ W', Below wr.heap.size wr W' → W'.cell? ⟨b, P * 7, none⟩ = some (.int .i64 (G P).id) := fun W' h => (ra W' h).1
        have a1 : ∀ W', Below wr.heap.size wr W' → W'.cell? ⟨b, P * 7 + 1, none⟩ = some (.int .i64 (G P).la) := fun W' h => (ra W' h).2.1
        have a2 : ∀ W', Below wr.heap.size wr W' → W'.cell? ⟨b, P * 7 + 2, none⟩ = some (.int .i64 (G P).ki) := fun W' h => (ra W' h).2.2.1
        have a3 : ∀ W', Below wr.heap.size wr W' → W'.cell? ⟨b, P * 7 + 3, none⟩ = some (.int .i64 (G P).wi) := fun W' h => (ra W' h).2.2.2.1
        have a4 : ∀ W', Below wr.heap.size wr W' → W'.cell? ⟨b, P * 7 + 4, none⟩ = some (.slice (G P).a (G P).n (G P).cap) := fun W' h => (ra W' h).2.2.2.2.1
        have a5 : ∀ W', Below wr.heap.size wr W' → W'.cell? ⟨b, P * 7 + 5, none⟩ = some (.string (G P).lab) := fun W' h => (ra W' h).2.2.2.2.2.1
        have a6 : ∀ W', Below wr.heap.size wr W' → W'.cell? ⟨b, P * 7 + 6, none⟩ = some (.int .i64 (G P).pr) := fun W' h => (ra W' h).2.2.2.2.2.2
        have d0 : ∀ W', Below wr.heap.size wr W' → W'.cell? ⟨b, M * 7, none⟩ = some (.int .i64 (G M).id) := fun W' h => (rd W' h).1
        have d1 : ∀ W', Below wr.heap.size wr W' → W'.cell? ⟨b, M * 7 + 1, none⟩ = some (.int .i64 (G M).la) := fun W' h => (rd W' h).2.1
        have d2 : ∀ W', Below wr.heap.size wr W' → W'.cell? ⟨b, M * 7 + 2, none⟩ = some (.int .i64 (G M).ki) := fun W' h => (rd W' h).2.2.1
        have d3 : ∀ W', Below wr.heap.size wr W' → W'.cell? ⟨b, M * 7 + 3, none⟩ = some (.int .i64 (G M).wi) := fun W' h => (rd W' h).2.2.2.1
        have d4 : ∀ W', Below wr.heap.size wr W' → W'.cell? ⟨b, M * 7 + 4, none⟩ = some (.slice (G M).a (G M).n (G M).cap) := fun W' h => (rd W' h).2.2.2.2.1
        have d5 : ∀ W', Below wr.heap.size wr W' → W'.cell? ⟨b, M * 7 + 5, none⟩ = some (.string (G M).lab) := fun W' h => (rd W' h).2.2.2.2.2.1
        have d6 : ∀ W', Below wr.heap.size wr W' → W'.cell? ⟨b, M * 7 + 6, none⟩ = some (.int .i64 (G M).pr) := fun W' h => (rd W' h).2.2.2.2.2.2
        clear fa fd hGr hP hT ra rd HB
        obtain ⟨C, hC⟩ : ∃ C, cmpF (G P) (G M) = C := ⟨_, rfl⟩
        have HCM : Hid (∀ W, Calls Tryz.prog 94 #[.agg #[.int .i64 (G P).id, .int .i64 (G P).la, .int .i64 (G P).ki, .int .i64 (G P).wi, .slice (G P).a (G P).n (G P).cap, .string (G P).lab, .int .i64 (G P).pr], .agg #[.int .i64 (G M).id, .int .i64 (G M).la, .int .i64 (G M).ki, .int .i64 (G M).wi, .slice (G M).a (G M).n (G M).cap, .string (G M).lab, .int .i64 (G M).pr]] W fun e w' => e = .returned (.int .i64 C) ∧ Below W.heap.size W w') := fun W => by rw [← hC]; exact compareFeatures_ex (G P) (G M) W
        have HCI : Hid (C < 0 ↔ ltF (G P) (G M) = true) := by show _ ↔ _; rw [← hC]; exact cmpF_neg _ _
        clear hC
        by_cases hneg : C < 0
        · have HOF : Hid (ordI T G = false) := HOI.out (HCI.out.1 hneg)
          go_wp2_with fail
          go_region_held3 (fun W' => Below wr.heap.size wr W') ((repeat (first | exact Below.refl _ _ | assumption | refine Below.drew ?_ | refine bl_alloc ?_ _ | refine bl_then ?_ (by assumption) | refine Below.setCell ?_ (by first | omega | (simp; done) | (simp; omega)) _ | refine bl_store ?_ ?_ _ _)))
            (first
              | (go_at_call 94; refine (HCM.out _).mono ?_; rintro e w8 ⟨rfl, hb8⟩))
          have HB8 : Hid (Below w.heap.size w w8) := bl_then HBR.out (by assumption)
          clear a0 a1 a2 a3 a4 a5 a6 d0 d1 d2 d3 d4 d5 d6
          go_wp2
          go_ret
          exact ⟨by have h := HOF.out; rw [← HKN.out] at h; exact ret_bool h.symm, HB8.out⟩
        · have HOK : Hid (ltF (G P) (G M) = false) := by
            show _ = _
            cases h : ltF (G P) (G M)
            · rfl
            · exact absurd (HCI.out.2 h) hneg
          go_wp2_with fail
          go_region_held3 (fun W' => Below wr.heap.size wr W') ((repeat (first | exact Below.refl _ _ | assumption | refine Below.drew ?_ | refine bl_alloc ?_ _ | refine bl_then ?_ (by assumption) | refine Below.setCell ?_ (by first | omega | (simp; done) | (simp; omega)) _ | refine bl_store ?_ ?_ _ _)))
            (first
              | (go_at_call 94; refine (HCM.out _).mono ?_; rintro e w8 ⟨rfl, hb8⟩))
          have HB8 : Hid (Below w.heap.size w w8) := bl_then HBR.out (by assumption)
          clear a0 a1 a2 a3 a4 a5 a6 d0 d1 d2 d3 d4 d5 d6
          go_wp2
          go_roundw
          case rel =>
            have h1 := HKM.out
            refine ⟨M, by omega, by first | rfl | go_num | (simp; done) | omega, fun i h2 h3 => ?_, HB8.out⟩
            by_cases h4 : i = M
            · subst h4
              have := HOK.out
              rw [← h1] at this
              exact this
            · exact HALL.out i (by omega) h3
          case measure => have h1 := HKM.out; simp [intOf]; omega
theorem areInOrder_any (b n cap : Nat) (G : Nat → Feat) (w : World) (hg : FsAt w b 0 n G) (hbl : b < w.heap.size) (hn : n ≤ 1048576) :
    Calls Tryz.prog 63 #[.slice (some ⟨b, 0, none⟩) n cap] w fun e w' => e = .returned (.bool (ordI n G)) ∧ Below w.heap.size w w' := by
  have HH : Hid (Calls Tryz.prog 93 #[.slice (some ⟨b, 0, none⟩) n cap, .func (.func 94) #[] #[]] w fun e w' => e = .returned (.bool (ordI n G)) ∧ Below w.heap.size w w') := isSortedFunc_any b n cap G w hg hbl hn
  clear hg
  obtain ⟨c, hc⟩ : ∃ c, ordI n G = c := ⟨_, rfl⟩
  rw [hc] at HH
  rw [hc]
  clear hc
  go_enter Tryz.func63, Tryz.ntmps63
  go_wp2_with (go_at_call 93; refine Calls.mono HH.out ?_; rintro e w' ⟨rfl, hb⟩)
  go_ret
  exact ⟨rfl, by assumption⟩
set_option maxHeartbeats 4000000 in
theorem l6Ordered_any (b n cap : Nat) (G : Nat → Feat) (w : World) (hg : FsAt w b 0 n G) (hbl : b < w.heap.size) (hn : n ≤ 1048576) :
    Calls Tryz.prog 54 #[.slice (some ⟨b, 0, none⟩) n cap] w fun e w' => e = .returned (.bool (ordS n G)) ∧ Below w.heap.size w w' := by
  have HG : Hid (FsAt w b 0 n G) := hg
  clear hg
  go_enter Tryz.func54, Tryz.ntmps54
  go_wp2_with fail
  go_loopw [3] (fun i wr => ∃ k : Nat, (k + 1 ≤ n ∨ k = 0) ∧ i = .int .i64 ((k : Int) + 1) ∧ (∀ i, i < k → ltF (G i) (G (i + 1)) = true) ∧ Below w.heap.size w wr) (fun i _ => n - (intOf i).toNat)
  case atStart => exact ⟨0, .inr rfl, rfl, fun i h1 => by omega, Below.refl _ _⟩
  case round =>
    obtain ⟨M, hk, rfl, hall, hB⟩ := hrel
    have HALL : Hid (∀ i, i < M → ltF (G i) (G (i + 1)) = true) := hall
    have HB : Hid (Below w.heap.size w wr) := hB
    have hbr : b < wr.heap.size := Nat.lt_of_lt_of_le hbl hB.size
    have hGr : FsAt wr b 0 n G := HG.out.below hB hbl
    clear hall hB
    obtain ⟨P, hP⟩ : ∃ P, M + 1 = P := ⟨_, rfl⟩
    have ePM : (M : Int) + 1 = (P : Int) := by omega
    have HKM : Hid (M + 1 = P) := hP
    rw [ePM]
    by_cases h1 : M + 1 < n
    · have fa := hGr (M + 1) h1
      have fd := hGr M (by omega)
      have HOI : Hid (ltF (G M) (G (M + 1)) = false → ordS n G = false) := fun h => ordS_bad M h1 h
      have e1 : IntKind.i64.wrap ((P : Int) - 1) = (M : Int) := by rw [show (P : Int) - 1 = (M : Int) by omega]; exact IntWalk.i64_in _ (by omega)
      have e3 : (P : Int) < (n : Int) := by omega
      have e4 : (M : Int) < (n : Int) := by omega
      rw [hP] at fa HOI
      have kpos : 0 ≤ (P : Int) := by omega
      have mpos : 0 ≤ (M : Int) := by omega
      obtain ⟨⟨a0, a1, _, _, _, _, _⟩, _⟩ := fa
      obtain ⟨⟨d0, d1, _, _, _, _, _⟩, _⟩ := fd
      simp only [Nat.zero_add] at a0 a1 d0 d1
      obtain ⟨C, hC⟩ : ∃ C, ltF (G M) (G P) = C := ⟨_, rfl⟩
      have HCM : Hid (∀ W, Below wr.heap.size wr W → Calls Tryz.prog 84 #[.pointer (some ⟨b, M * 7, none⟩), .pointer (some ⟨b, P * 7, none⟩)] W fun e w' => e = .returned (.bool C) ∧ Below W.heap.size W w') := fun W h => by
        rw [← hC]
        exact l2Ahead_any b (M * 7) b (P * 7) (G M) (G P) W (bl_cell h d0) (bl_cell h d1) (bl_cell h a0) (bl_cell h a1)
      rw [hC] at HOI
      have HC : Hid (ltF (G M) (G P) = C) := hC
      clear hC a0 a1 d0 d1 hGr hP
      cases C with
      | false =>
        have HOF : Hid (ordS n G = false) := HOI.out rfl
        go_wp2_with fail
        go_region_held3 (fun W' => Below wr.heap.size wr W') ((repeat (first | exact Below.refl _ _ | assumption | refine Below.drew ?_ | refine bl_alloc ?_ _ | refine bl_then ?_ (by assumption) | refine Below.setCell ?_ (by first | omega | (simp; done) | (simp; omega)) _ | refine bl_store ?_ ?_ _ _)))
          (first
            | (go_at_call 84; refine (HCM.out _ (by assumption)).mono ?_; rintro e w8 ⟨rfl, hb8⟩))
        have HB8 : Hid (Below w.heap.size w w8) := bl_then HB.out (by assumption)
        go_wp2
        go_ret
        exact ⟨ret_bool HOF.out.symm, HB8.out⟩
      | true =>
        go_wp2_with fail
        go_region_held3 (fun W' => Below wr.heap.size wr W') ((repeat (first | exact Below.refl _ _ | assumption | refine Below.drew ?_ | refine bl_alloc ?_ _ | refine bl_then ?_ (by assumption) | refine Below.setCell ?_ (by first | omega | (simp; done) | (simp; omega)) _ | refine bl_store ?_ ?_ _ _)))
          (first
            | (go_at_call 84; refine (HCM.out _ (by assumption)).mono ?_; rintro e w8 ⟨rfl, hb8⟩))
        have HB8 : Hid (Below w.heap.size w w8) := bl_then HB.out (by assumption)
        go_wp2
        go_roundw
        case rel =>
          have h1 := HKM.out
          refine ⟨P, by omega, by first | rfl | go_num | (simp; done) | omega, fun i h2 => ?_, HB8.out⟩
          by_cases h4 : i = M
          · subst h4
            have := HC.out
            rw [← h1] at this
            exact this
          · exact HALL.out i (by omega)
        case measure => have h1 := HKM.out; simp [intOf]; omega
    · have HV : Hid (ordS n G = true) := by
        show _ = _
        unfold ordS
        rw [decide_eq_true]
        exact fun i hi => HALL.out i (by omega)
      have e3 : ¬ (P : Int) < (n : Int) := by omega
      go_wp2
      go_ret
      exact ⟨ret_bool HV.out.symm, HB.out⟩
end Go.Proofs.YtciidkmonfmipaaGreat
