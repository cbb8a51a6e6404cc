/- Several texts in one. -/
import Derived.Test.YtdohlnnbibnnbaaGreatVPlaceLabels11
import Derived.Test.YtdohlnnbibnnbaaGreatVPlaceLabels10
import Derived.Test.YtdohlnnbibnnbaaGreatVPlaceLabels9
import Derived.Test.YtdohlnnbibnnbaaGreatVPlaceLabels6

/- Features are sorted for their labels: by priority, of the same by id. -/

namespace Go.Proofs.YtdohlnnbibnnbaaGreat
open Go.RowKit Go.Sort Go.Shelf
set_option linter.unusedSimpArgs false
set_option linter.unusedVariables false
set_option maxRecDepth 100000

/-- What comparing two labels' features tells. -/
def cmpL (f g : Feat) : Int := orI (cmpI f.pr g.pr) (cmpI f.id g.id)
set_option maxHeartbeats 4000000 in
theorem compareLabels_gro (f g : Feat) (w : World) : Calls Tryz.prog 71 #[.agg (fcell f).toArray, .agg (fcell g).toArray] w fun e w' => e = .returned (.int .i64 (cmpL f g)) ∧ Gro w w' := by
  unfold cmpL
  generalize hA : cmpI f.pr g.pr = A
  generalize hB : cmpI f.id g.id = B
  have H1 : Hid (∀ W, Calls Tryz.prog 109 #[.int .i64 f.pr, .int .i64 g.pr] W fun e w' => e = .returned (.int .i64 A) ∧ w' = W) := fun W => by subst hA; exact cmpCompare_any _ _ _
  have H2 : Hid (∀ W, Calls Tryz.prog 109 #[.int .i64 f.id, .int .i64 g.id] W fun e w' => e = .returned (.int .i64 B) ∧ w' = W) := fun W => by subst hB; exact cmpCompare_any _ _ _
  clear hA hB
  unfold fcell
  go_enter Tryz.func71, Tryz.ntmps71
  go_wp2_with fail
  generalize hV : ((w.alloc _).alloc _ : World) = V
  have hB0 : Gro w V := by subst hV; exact ((Gro.refl _).alloc _).alloc _
  have c0 : ∀ W', Gro V W' → W'.cell? ⟨w.heap.size, 0, none⟩ = some (.int .i64 f.id) := fun W' h => by
    rw [h.1.cell (by subst hV; simp <;> omega)]; subst hV; simp [go_sem]
  have c1 : ∀ W', Gro V W' → W'.cell? ⟨w.heap.size, 6, none⟩ = some (.int .i64 f.pr) := fun W' h => by
    rw [h.1.cell (by subst hV; simp <;> omega)]; subst hV; simp [go_sem]
  have d0 : ∀ W', Gro V W' → W'.cell? ⟨w.heap.size + 1, 0, none⟩ = some (.int .i64 g.id) := fun W' h => by
    rw [h.1.cell (by subst hV; simp <;> omega)]; subst hV; simp [go_sem]
  have d1 : ∀ W', Gro V W' → W'.cell? ⟨w.heap.size + 1, 6, none⟩ = some (.int .i64 g.pr) := fun W' h => by
    rw [h.1.cell (by subst hV; simp <;> omega)]; subst hV; simp [go_sem]
  clear hV
  refine wp_region_noPanic ?_
  refine wp_region_held_drew (S := fun W' => Gro V W') (by kernel_rfl) ((Gro.refl V).drew) (fun hHeld => ?_)
  have hBd : Gro V V.drew := hHeld
  refine takeD (i := 0) (d := some 5) (v := ?vt1) rfl rfl (by kernel_rfl) (by kernel_rfl) (by kernel_rfl) (fun _ _ _ h => h) (Or.inl ⟨by rfl, ?hyt1⟩) (by assumption) ?_
  case hyt1 => (intro w hSw; (try dsimp only at hSw); go_simp <;> with_reducible rfl)
  try simp only [Act.put, List.setIfInBounds_toArray, List.set_cons_zero, List.set_cons_succ]
  refine takeD (i := 1) (d := some 6) (v := ?vt2) rfl rfl (by kernel_rfl) (by kernel_rfl) (by kernel_rfl) (fun _ _ _ h => h) (Or.inl ⟨by rfl, ?hyt2⟩) (by assumption) ?_
  case hyt2 => (intro w hSw; (try dsimp only at hSw); go_simp <;> with_reducible rfl)
  try simp only [Act.put, List.setIfInBounds_toArray, List.set_cons_zero, List.set_cons_succ]
  refine takeD (i := 2) (d := some 7) (v := ?vt3) rfl rfl (by kernel_rfl) (by kernel_rfl) (by kernel_rfl) (fun _ _ _ h => h) (Or.inl ⟨by rfl, ?hyt3⟩) (by assumption) ?_
  case hyt3 => (intro w hSw; (try dsimp only at hSw); go_simp <;> with_reducible rfl)
  try simp only [Act.put, List.setIfInBounds_toArray, List.set_cons_zero, List.set_cons_succ]
  refine takeD (i := 3) (d := some 8) (v := ?vt4) rfl rfl (by kernel_rfl) (by kernel_rfl) (by kernel_rfl) (fun _ _ _ h => h) (Or.inl ⟨by rfl, ?hyt4⟩) (by assumption) ?_
  case hyt4 => (intro w hSw; (try dsimp only at hSw); go_simp <;> with_reducible rfl)
  try simp only [Act.put, List.setIfInBounds_toArray, List.set_cons_zero, List.set_cons_succ]
  refine takeD (i := 5) (d := some 10) (v := ?vt5) rfl rfl (by kernel_rfl) (by kernel_rfl) (by kernel_rfl) (fun _ _ _ h => h) (Or.inl ⟨by rfl, ?hyt5⟩) (by assumption) ?_
  case hyt5 => (intro w hSw; (try dsimp only at hSw); go_simp <;> with_reducible rfl)
  try simp only [Act.put, List.setIfInBounds_toArray, List.set_cons_zero, List.set_cons_succ]
  refine takeD (i := 6) (d := some 11) (v := ?vt6) rfl rfl (by kernel_rfl) (by kernel_rfl) (by kernel_rfl) (fun _ _ _ h => h) (Or.inl ⟨by rfl, ?hyt6⟩) (by assumption) ?_
  case hyt6 => (intro w hSw; (try dsimp only at hSw); go_simp <;> with_reducible rfl)
  try simp only [Act.put, List.setIfInBounds_toArray, List.set_cons_zero, List.set_cons_succ]
  refine takeD (i := 7) (d := some 12) (v := ?vt7) rfl rfl (by kernel_rfl) (by kernel_rfl) (by kernel_rfl) (fun _ _ _ h => h) (Or.inl ⟨by rfl, ?hyt7⟩) (by assumption) ?_
  case hyt7 => (intro w hSw; (try dsimp only at hSw); go_simp <;> with_reducible rfl)
  try simp only [Act.put, List.setIfInBounds_toArray, List.set_cons_zero, List.set_cons_succ]
  refine takeD (i := 8) (d := some 13) (v := ?vt8) rfl rfl (by kernel_rfl) (by kernel_rfl) (by kernel_rfl) (fun _ _ _ h => h) (Or.inl ⟨by rfl, ?hyt8⟩) (by assumption) ?_
  case hyt8 => (intro w hSw; (try dsimp only at hSw); go_simp <;> with_reducible rfl)
  try simp only [Act.put, List.setIfInBounds_toArray, List.set_cons_zero, List.set_cons_succ]
  refine wpAnyH_ready (rs := [4]) (by kernel_rfl) (by simp) ?_
  refine (AllReadyH.cons rfl (fun K hK => ?_) AllReadyH.nil)
  go_simp
  refine (H1.out _).mono ?_
  rintro e w4 ⟨rfl, rfl⟩
  go_wp2_with fail
  refine hK.out _ _ hBd (fun hHeld => ?_)
  clear hK K
  try simp only [Act.put, List.setIfInBounds_toArray, List.set_cons_zero, List.set_cons_succ]
  refine wpAnyH_ready (rs := [9]) (by kernel_rfl) (by simp) ?_
  refine (AllReadyH.cons rfl (fun K hK => ?_) AllReadyH.nil)
  go_simp
  refine (H2.out _).mono ?_
  rintro e w9 ⟨rfl, rfl⟩
  go_wp2_with fail
  refine hK.out _ _ hBd (fun hHeld => ?_)
  clear hK K
  try simp only [Act.put, List.setIfInBounds_toArray, List.set_cons_zero, List.set_cons_succ]
  refine wpAnyH_ready (rs := [10]) (by kernel_rfl) (by simp) ?_
  refine (AllReadyH.cons rfl (fun K hK => ?_) AllReadyH.nil)
  go_simp
  generalize hw9 : (World.alloc _ _ : World) = w9
  have hb9 : Gro V w9 := by subst hw9; exact (Gro.refl _).alloc _
  have g0 : w9.cell? ⟨V.heap.size, 0, none⟩ = some (.int .i64 A) := by subst hw9; simp [go_sem]
  have g1 : w9.cell? ⟨V.heap.size, 1, none⟩ = some (.int .i64 B) := by subst hw9; simp [go_sem]
  have hB9 : Gro V w9.drew := hb9.drew
  replace g0 : w9.drew.cell? ⟨V.heap.size, 0, none⟩ = some (.int .i64 A) := g0
  replace g1 : w9.drew.cell? ⟨V.heap.size, 1, none⟩ = some (.int .i64 B) := g1
  clear hw9
  refine hK.out _ _ hB9 (fun hHeld => ?_)
  clear hK K
  try simp only [Act.put, List.setIfInBounds_toArray, List.set_cons_zero, List.set_cons_succ]
  refine wpAnyH_ready (rs := [11]) (by kernel_rfl) (by simp) ?_
  refine (AllReadyH.cons rfl (fun K hK => ?_) AllReadyH.nil)
  go_simp
  refine (cmpOr_any _ _ A B _ g0 g1).mono ?_
  rintro e w11 ⟨rfl, rfl⟩
  go_wp2_with fail
  refine hK.out _ _ hB9 (fun hHeld => ?_)
  clear hK K
  try simp only [Act.put, List.setIfInBounds_toArray, List.set_cons_zero, List.set_cons_succ]
  refine takeD (i := 12) (d := some 4) (v := ?vt9) rfl rfl (by kernel_rfl) (by kernel_rfl) (by kernel_rfl) (fun _ _ _ h => h) (Or.inl ⟨by rfl, ?hyt9⟩) (by assumption) ?_
  case hyt9 => (intro w hSw; (try dsimp only at hSw); go_simp <;> with_reducible rfl)
  try simp only [Act.put, List.setIfInBounds_toArray, List.set_cons_zero, List.set_cons_succ]
  refine wpAnyH_done (by kernel_rfl) ?_ _
  refine NoPanic.normal ?_
  go_wp2_with fail
  go_ret
  exact ⟨rfl, hB0.trans hB9⟩
theorem compareLabels_any (f g : Feat) (w : World) : Calls Tryz.prog 71 #[.agg (fcell f).toArray, .agg (fcell g).toArray] w fun e w' => e = .returned (.int .i64 (cmpL f g)) ∧ ∃ q os', w' = grow (w.drewN q) os' :=
  (compareLabels_gro f g w).mono fun e w' ⟨he, hg⟩ => ⟨he, hg.grow⟩
theorem lt_cmpL (H : Nat → Feat) (i j : Nat) : ltOf (fun i j => cmpL (H i) (H j)) i j = ltK (fun i => (H i).pr) (fun i => (H i).id) i j := by
  show decide (orI (cmpI (H i).pr (H j).pr) (cmpI (H i).id (H j).id) < 0) = (decide ((H i).pr < (H j).pr) || (decide ((H i).pr = (H j).pr) && decide ((H i).id < (H j).id)))
  unfold orI
  by_cases h : cmpI (H i).pr (H j).pr = 0
  · rw [if_pos h]
    have h' := (cmpI_zero _ _).1 h
    simp [cmpI_lt, h']
  · rw [if_neg h]
    have h' : (H i).pr ≠ (H j).pr := fun e => h ((cmpI_zero _ _).2 e)
    simp [cmpI_lt, h']
theorem swo_cmpL (H : Nat → Feat) : SWO (ltOf (fun i j => cmpL (H i) (H j))) where
  irrefl x := by rw [lt_cmpL, ltK_no]; omega
  trans x y z h1 h2 := by rw [lt_cmpL, ltK_iff] at *; omega
  ntrans x y z h1 h2 := by rw [lt_cmpL, ltK_no] at *; omega
theorem cmpLays_L (H : Nat → Feat) (blk off size : Nat) (w : World) : CmpLays Tryz.prog 71 #[] (fun i => fcell (H i)) 7 (fun i j => cmpL (H i) (H j)) blk off size w :=
  fun _ _ _ _ x y => compareLabels_any (H x) (H y) _
set_option maxHeartbeats 1000000 in
theorem sortL_any (n base : Nat) (v : Value) (H : Nat → Feat) (w : World) (hR : FRow base w v H (List.range n)) (hn : n ≤ 1048576) :
    Calls Tryz.prog 70 #[v, .func (.func 71) #[] #[]] w fun e w' => e = .returned (.tuple #[]) ∧
      ((n = 0 ∧ w' = w) ∨ ∃ (g c : Nat) (l : List Nat), v = .slice (some ⟨g, 0, none⟩) n c ∧ base ≤ g ∧ g < w.heap.size ∧ l.Perm (List.range n) ∧ l.Pairwise (fun a b => ltK (fun i => (H i).pr) (fun i => (H i).id) b a = false) ∧ w.grownBy w' (some g) ∧ There w' g (n * 7) ∧
        ∀ i, i < n → FeatAt w' g (i * 7) (H (l.getD i 0)).id (H (l.getD i 0)).la (H (l.getD i 0)).ki (H (l.getD i 0)).wi (.slice (H (l.getD i 0)).a (H (l.getD i 0)).n (H (l.getD i 0)).cap) (H (l.getD i 0)).lab (H (l.getD i 0)).pr) := by
  rcases hR.at with ⟨hv, hl⟩ | ⟨g, c, hv, hg, hgl, hc, hT, hF⟩
  · have hn0 : n = 0 := by simpa using congrArg List.length hl
    subst hv
    have hcon := AnyF.slices_SortFunc_none Tryz.sortF none 0 (.func (.func 71) #[] #[]) w
    exact hcon.mono fun e w' ⟨he, hw⟩ => ⟨he, .inl ⟨hn0, hw⟩⟩
  · rw [List.length_range] at hv hc hT
    have eg : ∀ args w, (callFunc 71 args).run Tryz.prog w = .ok (.enter 71 args) w := enters_of Tryz.func71 (by kernel_rfl) rfl
    have hH := holds_F hR hv
    have hcon := AnyQ.slices_SortFunc Tryz.sortF 7 Tryz.isAgg36 Tryz.sizeOf36 (fun i => fcell (H i)) (fun _ => rfl) (fun i => fcell_one (H i)) (fun i j => cmpL (H i) (H j)) (swo_cmpL H) 71 #[] g 0 c (Array.range n) w eg (cmpLays_L H g 0 _ w) hH hgl (by rw [Array.size_range]; omega)
    rw [Array.size_range] at hcon
    subst hv
    refine Calls.mono (show Calls Tryz.prog 70 _ _ _ from hcon) ?_
    rintro e w' ⟨he, d', m, os, hp, hs, rfl⟩
    obtain ⟨hp1, hp2, hp3⟩ := hp
    rw [Array.size_range] at hp1
    have hH' := holdsK_sortWorldK_c (fun i => fcell (H i)) 7 w g 0 (Array.range n) d' m os hH hgl (by rw [hp1, Array.size_range])
    have hget : ∀ i, i < n → d'[i]! = d'.toList.getD i 0 := fun i hi => by
      rw [List.getD_eq_getElem?_getD, Array.getElem?_toList, getElem!_pos d' i (by omega), Array.getElem?_eq_getElem (by omega)]
      rfl
    refine ⟨he, .inr ⟨g, c, d'.toList, rfl, hg, hgl, ?_, ?_, grown_sortF _ _ _ _ _ _ _ _, ?_, fun i hi => ?_⟩⟩
    · have h3 : d'.extract 0 n = d' := by rw [← hp1]; exact Array.extract_size
      have h4 : (Array.range n).extract 0 n = Array.range n := by
        have := Array.extract_size (xs := Array.range n)
        rw [Array.size_range] at this
        exact this
      rw [h3, h4] at hp3
      simpa using hp3
    · rw [List.pairwise_iff_getElem]
      intro i j hi hj hij
      have hi' : i < d'.size := by simpa using hi
      have hj' : j < d'.size := by simpa using hj
      have := hs i j (Nat.zero_le _) hij (by omega)
      rw [lt_cmpL, getElem!_pos d' i hi', getElem!_pos d' j hj'] at this
      simpa using this
    · have := there_F hH'
      rw [hp1] at this
      exact this
    · have := at_F hH' (i := i) (by omega)
      rw [hget i hi] at this
      exact this
end Go.Proofs.YtdohlnnbibnnbaaGreat
/- The model's order of two features. -/

namespace Go.Proofs.YtdohlnnbibnnbaaGreat
open Go.RowKit
set_option linter.unusedSimpArgs false
set_option linter.unusedVariables false
set_option maxRecDepth 100000

theorem addK (b o i : Nat) : (⟨b, o, none⟩ : Addr).add i = ⟨b, o + i, none⟩ := by unfold Addr.add; split <;> simp_all
def ltF (f g : Feat) : Bool := decide (f.la < g.la) || (decide (f.la = g.la) && decide (f.id < g.id))
set_option maxHeartbeats 4000000 in
theorem l2Ahead_any (p o p' o' : Nat) (f g : Feat) (w : World) (h0 : w.cell? ⟨p, o, none⟩ = some (.int .i64 f.id)) (h1 : w.cell? ⟨p, o + 1, none⟩ = some (.int .i64 f.la)) (k0 : w.cell? ⟨p', o', none⟩ = some (.int .i64 g.id)) (k1 : w.cell? ⟨p', o' + 1, none⟩ = some (.int .i64 g.la)) :
    Calls Tryz.prog 114 #[.pointer (some ⟨p, o, none⟩), .pointer (some ⟨p', o', none⟩)] w fun e w' => e = .returned (.bool (ltF f g)) ∧ Below w.heap.size w w' := by
  by_cases hx : f.la < g.la
  · have HU : Hid (ltF f g = true) := by show _ = _; simp [ltF, hx]
    go_enter Tryz.func114, Tryz.ntmps114
    go_wp2_with fail
    go_region
    go_wp2
    go_ret
    exact ⟨ret_bool HU.out.symm, by (repeat (first | exact Below.refl _ _ | assumption | refine Below.drew ?_ | refine bl_alloc ?_ _ | refine bl_then ?_ (by assumption) | refine Below.setCell ?_ (by first | omega | (simp; done) | (simp; omega)) _ | refine bl_store ?_ ?_ _ _))⟩
  · have hx' : decide (f.la < g.la) = false := by simpa using hx
    by_cases hy : f.la = g.la
    · have hy' : (f.la == g.la) = true := by simpa using hy
      by_cases hz : f.id < g.id
      · have HU : Hid (ltF f g = true) := by show _ = _; simp [ltF, hy, hz]
        clear hy hx
        go_enter Tryz.func114, Tryz.ntmps114
        go_wp2_with fail
        go_region
        go_wp2
        go_ret
        exact ⟨ret_bool HU.out.symm, by (repeat (first | exact Below.refl _ _ | assumption | refine Below.drew ?_ | refine bl_alloc ?_ _ | refine bl_then ?_ (by assumption) | refine Below.setCell ?_ (by first | omega | (simp; done) | (simp; omega)) _ | refine bl_store ?_ ?_ _ _))⟩
      · have hz' : decide (f.id < g.id) = false := by simpa using hz
        have HU : Hid (ltF f g = false) := by show _ = _; simp [ltF, hx]; omega
        clear hy hx hz
        go_enter Tryz.func114, Tryz.ntmps114
        go_wp2_with fail
        go_region
        go_wp2
        go_ret
        exact ⟨ret_bool HU.out.symm, by (repeat (first | exact Below.refl _ _ | assumption | refine Below.drew ?_ | refine bl_alloc ?_ _ | refine bl_then ?_ (by assumption) | refine Below.setCell ?_ (by first | omega | (simp; done) | (simp; omega)) _ | refine bl_store ?_ ?_ _ _))⟩
    · have hy' : (f.la == g.la) = false := by simpa using hy
      have HU : Hid (ltF f g = false) := by show _ = _; simp [ltF, hx, hy]
      clear hy hx
      go_enter Tryz.func114, Tryz.ntmps114
      go_wp2_with fail
      go_region
      go_wp2
      go_ret
      exact ⟨ret_bool HU.out.symm, by (repeat (first | exact Below.refl _ _ | assumption | refine Below.drew ?_ | refine bl_alloc ?_ _ | refine bl_then ?_ (by assumption) | refine Below.setCell ?_ (by first | omega | (simp; done) | (simp; omega)) _ | refine bl_store ?_ ?_ _ _))⟩
end Go.Proofs.YtdohlnnbibnnbaaGreat
/- Rows of points beside other blocks; a block that holds a feature. -/

namespace Go.Proofs.YtdohlnnbibnnbaaGreat
open Go.RowKit
set_option linter.unusedSimpArgs false
set_option linter.unusedVariables false
set_option maxRecDepth 100000

theorem ownsRow_of {w w' : World} {base size n : Nat} {e : TypeId} {v : Value} {xs : List Value} (h : w.ownsRow base e size v n xs) (hk : ∀ g, v.ownBlock = some g → w'.heap[g]? = w.heap[g]?) : w'.ownsRow base e size v n xs := by
  obtain ⟨h1, h2 | ⟨g, cp, cur, hv, hg, hh, hr⟩⟩ := h
  · exact ⟨h1, .inl h2⟩
  · refine ⟨h1, .inr ⟨g, cp, cur, hv, hg, ?_, hr⟩⟩
    rw [hk g (by rw [hv]; rfl)]
    exact hh

theorem there7 (V : World) (v0 v1 v2 v3 v4 v5 v6 : Value) (t : TypeId) : There (V.alloc (.cells #[v0, v1, v2, v3, v4, v5, v6] t)) V.heap.size 7 := fun o ho => by
  refine ⟨⟨#[v0, v1, v2, v3, v4, v5, v6][o]'(by simpa using ho), ?_⟩, World.frozen?_alloc_at _ _ _ _ rfl⟩
  rw [World.cell?_alloc_at _ _ _ _ rfl]
  exact Array.getElem?_eq_getElem _
/-- Block O holds a feature with the points v. -/
def OutAt (w : World) (O : Nat) (id la ki wi : Int) (v : Value) (lab : ByteArray) (pr : Int) : Prop := w.heap[O]? = some (Obj.cells #[.int .i64 id, .int .i64 la, .int .i64 ki, .int .i64 wi, v, .string lab, .int .i64 pr] 36 (0, 0))
theorem OutAt.cells {w : World} {O : Nat} {id la ki wi pr : Int} {v : Value} {lab : ByteArray} (h : OutAt w O id la ki wi v lab pr) :
    (w.cell? ⟨O, 0, none⟩ = some (.int .i64 id) ∧ w.cell? ⟨O, 1, none⟩ = some (.int .i64 la) ∧ w.cell? ⟨O, 2, none⟩ = some (.int .i64 ki) ∧ w.cell? ⟨O, 3, none⟩ = some (.int .i64 wi) ∧ w.cell? ⟨O, 4, none⟩ = some v ∧ w.cell? ⟨O, 5, none⟩ = some (.string lab) ∧ w.cell? ⟨O, 6, none⟩ = some (.int .i64 pr)) ∧ w.frozen? ⟨O, 4, none⟩ = false := by
  unfold OutAt at h
  refine ⟨⟨?_, ?_, ?_, ?_, ?_, ?_, ?_⟩, ?_⟩ <;> simp [World.cell?, World.frozen?, h]
theorem OutAt.lt {w : World} {O : Nat} {id la ki wi pr : Int} {v : Value} {lab : ByteArray} (h : OutAt w O id la ki wi v lab pr) : O < w.heap.size := lt_of_heap h
theorem There.out {w : World} {O r n : Nat} {x : Value} (h : There w r n) (hne : O ≠ r) : There (w.setCell ⟨O, 4, none⟩ x) r n := fun o ho => by
  obtain ⟨u, hu⟩ := (h o ho).1
  exact ⟨⟨u, by rw [set1_other (fun e => hne (by injection e))]; exact hu⟩, by rw [World.frozen?_setCell]; exact (h o ho).2⟩
theorem below7 {B r : Nat} {w W : World} {v0 v1 v2 v3 v4 v5 v6 : Value} (h : Below B w W) (hr : B ≤ r) : Below B w ((((((((W.setCell ⟨r, 0, none⟩ v0).setCell ⟨r, 1, none⟩ v1).setCell ⟨r, 2, none⟩ v2).setCell ⟨r, 3, none⟩ v3).setCell ⟨r, 4, none⟩ v4).setCell ⟨r, 5, none⟩ v5).setCell ⟨r, 6, none⟩ v6)) :=
  (((((((h.setCell (p := ⟨r, 0, none⟩) hr v0).setCell (p := ⟨r, 1, none⟩) hr v1).setCell (p := ⟨r, 2, none⟩) hr v2).setCell (p := ⟨r, 3, none⟩) hr v3).setCell (p := ⟨r, 4, none⟩) hr v4).setCell (p := ⟨r, 5, none⟩) hr v5).setCell (p := ⟨r, 6, none⟩) hr v6)
/-- What holds no points is as it was. -/
def NP (w w' : World) : Prop := ∀ (k : Nat) (cur : Array Value) (t : TypeId) (fz : Nat × Nat), w.heap[k]? = some (Obj.cells cur t fz) → t ≠ 111 → w'.heap[k]? = some (Obj.cells cur t fz)
theorem NP.refl (w : World) : NP w w := fun _ _ _ _ h _ => h
theorem NP.trans {a b c : World} (h : NP a b) (k : NP b c) : NP a c := fun i cur t fz h1 h2 => k i cur t fz (h i cur t fz h1 h2) h2
theorem NP.of_below {w w' : World} (h : Below w.heap.size w w') : NP w w' := fun k cur t fz h1 _ => (h.block k (lt_of_heap h1)).trans h1
theorem NP.of_grown {base : Nat} {w w' : World} {v : Value} {l : List (Int × Int)} (hR : Row base w v l) (hg : w.grownBy w' v.ownBlock) : NP w w' := fun k cur t fz h1 h2 => by
  refine (hg.block k (lt_of_heap h1) (fun e => ?_)).trans h1
  obtain ⟨cur', hc⟩ := heap_of_row hR k e.symm
  rw [h1] at hc
  injection hc with hc
  injection hc with _ hc2
  exact h2 hc2
theorem Row.other {base p o : Nat} {w : World} {v u : Value} {l : List (Int × Int)} {cur : Array Value} {t : TypeId} {fz : Nat × Nat} (h : Row base w v l) (hp : w.heap[p]? = some (Obj.cells cur t fz)) (ht : t ≠ 111) : Row base (w.setCell ⟨p, o, none⟩ u) v l := by
  refine ownsRow_of h fun g hg => Below.heap_setCell _ _ _ _ (fun e => ?_)
  obtain ⟨cur', hc⟩ := heap_of_row h g hg
  simp at e
  subst e
  rw [hp] at hc
  injection hc with hc
  injection hc with _ hc2
  exact ht hc2
theorem OutAt.set {w : World} {O : Nat} {id la ki wi pr : Int} {v v' : Value} {lab : ByteArray} (h : OutAt w O id la ki wi v lab pr) : OutAt (w.setCell ⟨O, 4, none⟩ v') O id la ki wi v' lab pr := by
  have := heap_setCell_same w O 4 _ 36 v' h
  simpa [OutAt] using this
theorem OutAt.below {w w' : World} {O : Nat} {id la ki wi pr : Int} {v : Value} {lab : ByteArray} (h : OutAt w O id la ki wi v lab pr) (hb : Below w.heap.size w w') : OutAt w' O id la ki wi v lab pr := (hb.block O h.lt).trans h
theorem OutAt.np {w w' : World} {O : Nat} {id la ki wi pr : Int} {v : Value} {lab : ByteArray} (h : OutAt w O id la ki wi v lab pr) (hn : NP w w') : OutAt w' O id la ki wi v lab pr := hn _ _ _ _ h (by decide)
theorem Row.out {base : Nat} {w : World} {O : Nat} {id la ki wi pr : Int} {v u x : Value} {lab : ByteArray} {l : List (Int × Int)} (h : Row base w u l) (ho : OutAt w O id la ki wi v lab pr) : Row base (w.setCell ⟨O, 4, none⟩ x) u l := Row.other h ho (by decide)
theorem Row.wide {base B : Nat} {w : World} {v : Value} {l : List (Int × Int)} (h : Row base w v l) (hB : B ≤ base) : Row B w v l := by
  obtain ⟨h1, h2 | ⟨g, cp, cur, hv, hg, hr⟩⟩ := h
  · exact ⟨h1, .inl h2⟩
  · exact ⟨h1, .inr ⟨g, cp, cur, hv, by omega, hr⟩⟩
theorem Row.no (base : Nat) (w : World) : Row base w (.slice none 0 0) [] := World.ownsRow_nil _ _ _ _
/-- A row that is not empty. -/
theorem Row.at {base : Nat} {w : World} {v : Value} {l : List (Int × Int)} (h : Row base w v l) (hne : 0 < l.length) :
    ∃ g cap, v = .slice (some ⟨g, 0, none⟩) l.length cap ∧ base ≤ g ∧ g < w.heap.size ∧ l.length ≤ cap ∧ PtsAt w g 0 l.length (px l) (py l) := by
  obtain ⟨a, cap, hv, hc, h0 | ⟨b, rfl, hb, hl, hp, ht⟩⟩ := h.own
  · omega
  · exact ⟨b, cap, hv, hb, hl, hc, hp⟩
theorem Row.set7 {base B r : Nat} {w : World} {v : Value} {l : List (Int × Int)} {v0 v1 v2 v3 v4 v5 v6 : Value} (h : Row base w v l) (hB : B ≤ base) (hr : r < base) : Row B ((((((((w.setCell ⟨r, 0, none⟩ v0).setCell ⟨r, 1, none⟩ v1).setCell ⟨r, 2, none⟩ v2).setCell ⟨r, 3, none⟩ v3).setCell ⟨r, 4, none⟩ v4).setCell ⟨r, 5, none⟩ v5).setCell ⟨r, 6, none⟩ v6)) v l := by
  obtain ⟨h1, h2 | ⟨g, cp, cur, hv, hg, hh, hr'⟩⟩ := h
  · exact ⟨h1, .inl h2⟩
  · refine ⟨h1, .inr ⟨g, cp, cur, hv, by omega, ?_, hr'⟩⟩
    rw [Below.heap_setCell _ _ _ _ (by simp; omega), Below.heap_setCell _ _ _ _ (by simp; omega), Below.heap_setCell _ _ _ _ (by simp; omega), Below.heap_setCell _ _ _ _ (by simp; omega), Below.heap_setCell _ _ _ _ (by simp; omega), Below.heap_setCell _ _ _ _ (by simp; omega), Below.heap_setCell _ _ _ _ (by simp; omega)]
    exact hh
end Go.Proofs.YtdohlnnbibnnbaaGreat
