/- Several texts in one. -/
import Derived.Test.YtchofahdcohibaaGreatVPaints5
import Derived.Deep.RegionHeld3
import Derived.Test.YtchofahdcohibaaGreatVPaints4
import Derived.OwnWalk
import Derived.Deep.DeepMust

/- The fault of a feature. -/

namespace Go.Proofs.YtchofahdcohibaaGreat
open Go.RowKit
set_option linter.unusedSimpArgs false
set_option linter.unusedVariables false
set_option maxRecDepth 100000

theorem l1In_eq (v lo hi : Int) (w : World) : Calls Tryz.prog 39 #[.int .i64 v, .int .i64 lo, .int .i64 hi] w fun e w' => e = .returned (.bool (inB v lo hi)) ∧ w = w' := (l1In_any v lo hi w).mono fun e w' ⟨he, hw⟩ => ⟨he, hw.symm⟩
theorem l2Size_eq (ki n : Int) (w : World) : Calls Tryz.prog 64 #[.int .i64 ki, .int .i64 n] w fun e w' => e = .returned (.bool (sizeB ki n)) ∧ w = w' := (l2Size_any ki n w).mono fun e w' ⟨he, hw⟩ => ⟨he, hw.symm⟩
theorem isWithin_eq (v lo hi : Int) (w : World) : Calls Tryz.prog 36 #[.int .i64 v, .int .i64 lo, .int .i64 hi] w fun e w' => e = .returned (.bool (inB v lo hi)) ∧ w = w' := (isWithin_any v lo hi w).mono fun e w' ⟨he, hw⟩ => ⟨he, hw.symm⟩
/-- Seven cells: a feature. -/
def FeatAt (w : World) (p o : Nat) (id la ki wi : Int) (pts : Value) (lab : ByteArray) (pr : Int) : Prop :=
  w.cell? ⟨p, o, none⟩ = some (.int .i64 id) ∧ w.cell? ⟨p, o + 1, none⟩ = some (.int .i64 la) ∧ w.cell? ⟨p, o + 2, none⟩ = some (.int .i64 ki) ∧ w.cell? ⟨p, o + 3, none⟩ = some (.int .i64 wi) ∧
  w.cell? ⟨p, o + 4, none⟩ = some pts ∧ w.cell? ⟨p, o + 5, none⟩ = some (.string lab) ∧ w.cell? ⟨p, o + 6, none⟩ = some (.int .i64 pr)
theorem FeatAt.below {w w' : World} {p o B : Nat} {id la ki wi pr : Int} {pts : Value} {lab : ByteArray} (h : FeatAt w p o id la ki wi pts lab pr) (hb : Below B w w') (hp : p < B) : FeatAt w' p o id la ki wi pts lab pr := by
  obtain ⟨h0, h1, h2, h3, h4, h5, h6⟩ := h
  refine ⟨(hb.cell (p := ⟨p, o, none⟩) hp).trans h0, (hb.cell (p := ⟨p, o + 1, none⟩) hp).trans h1, (hb.cell (p := ⟨p, o + 2, none⟩) hp).trans h2, (hb.cell (p := ⟨p, o + 3, none⟩) hp).trans h3, (hb.cell (p := ⟨p, o + 4, none⟩) hp).trans h4, (hb.cell (p := ⟨p, o + 5, none⟩) hp).trans h5, (hb.cell (p := ⟨p, o + 6, none⟩) hp).trans h6⟩
/-- All points are in the world. -/
def ptsIn (n : Nat) (X Y : Nat → Int) : Bool := decide (∀ i, i < n → inW (X i) (Y i) = true)
def rngB (id la ki wi pr : Int) : Bool := inB id 1 999 && (inB la 0 9 && (inB ki 1 3 && (inB wi 0 3 && inB pr 0 9)))
/-- The fault of a feature. -/
def featC (id la ki wi : Int) (n : Nat) (X Y : Nat → Int) (lab : ByteArray) (pr : Int) : Int :=
  if rngB id la ki wi pr = true then (if sizeB ki n = true then (if ptsIn n X Y = true then (if labB lab = true then 0 else 5) else 3) else 2) else 3

theorem ptsIn_bad {n : Nat} {X Y : Nat → Int} (k : Nat) (hk : k < n) (h : inW (X k) (Y k) = false) : ptsIn n X Y = false := by
  unfold ptsIn
  rw [decide_eq_false]
  intro hc
  have := hc k hk
  rw [h] at this; cases this

set_option maxHeartbeats 2000000 in
theorem l2Fault_any (p o : Nat) (id la ki wi : Int) (a : Option Addr) (n cap : Nat) (X Y : Nat → Int) (lab : ByteArray) (pr : Int) (w : World) (hf : FeatAt w p o id la ki wi (.slice a n cap) lab pr) (hpt : IsPts w a n X Y) (hl : lab.size ≤ 1048576) (hn : n ≤ 1048576) :
    Calls Tryz.prog 40 #[.pointer (some ⟨p, o, none⟩)] w fun e w' => e = .returned (.int .i64 (featC id la ki wi n X Y lab pr)) ∧ Below w.heap.size w w' := by
  have hpl : p < w.heap.size := World.block_lt_of_cell? _ _ hf.1
  have c0 : ∀ W', Below w.heap.size w W' → W'.cell? ⟨p, o, none⟩ = some (.int .i64 id) := fun W' h => (hf.below h hpl).1
  have c1 : ∀ W', Below w.heap.size w W' → W'.cell? ⟨p, o + 1, none⟩ = some (.int .i64 la) := fun W' h => (hf.below h hpl).2.1
  have c2 : ∀ W', Below w.heap.size w W' → W'.cell? ⟨p, o + 2, none⟩ = some (.int .i64 ki) := fun W' h => (hf.below h hpl).2.2.1
  have c3 : ∀ W', Below w.heap.size w W' → W'.cell? ⟨p, o + 3, none⟩ = some (.int .i64 wi) := fun W' h => (hf.below h hpl).2.2.2.1
  have c4 : ∀ W', Below w.heap.size w W' → W'.cell? ⟨p, o + 4, none⟩ = some (.slice a n cap) := fun W' h => (hf.below h hpl).2.2.2.2.1
  have c5 : ∀ W', Below w.heap.size w W' → W'.cell? ⟨p, o + 5, none⟩ = some (.string lab) := fun W' h => (hf.below h hpl).2.2.2.2.2.1
  have c6 : ∀ W', Below w.heap.size w W' → W'.cell? ⟨p, o + 6, none⟩ = some (.int .i64 pr) := fun W' h => (hf.below h hpl).2.2.2.2.2.2
  obtain ⟨h0, h1, h2, h3, h4, h5, h6⟩ := hf
  have HP : Hid (IsPts w a n X Y) := hpt
  clear hpt
  cases e0 : inB id 1 999
  · have hz : Hid (featC id la ki wi n X Y lab pr = 3) := by show _ = _; simp [featC, rngB, e0]
    go_enter Tryz.func40, Tryz.ntmps40
    go_wp2_with (go_at_call 39; refine (l1In_eq _ _ _ _).mono ?_; rintro e w' ⟨rfl, rfl⟩)
    go_ret
    exact ⟨ret_int hz.out.symm, by (repeat (first | exact Below.refl _ _ | assumption | refine Below.drew ?_ | refine bl_alloc ?_ _ | refine bl_then ?_ (by assumption) | refine Below.setCell ?_ (by first | omega | (simp; done) | (simp; omega)) _ | refine bl_store ?_ ?_ _ _))⟩
  cases e1 : inB la 0 9
  · have hz : Hid (featC id la ki wi n X Y lab pr = 3) := by show _ = _; simp [featC, rngB, e0, e1]
    go_enter Tryz.func40, Tryz.ntmps40
    go_wp2_with (go_at_call 39; refine (l1In_eq _ _ _ _).mono ?_; rintro e w' ⟨rfl, rfl⟩)
    go_ret
    exact ⟨ret_int hz.out.symm, by (repeat (first | exact Below.refl _ _ | assumption | refine Below.drew ?_ | refine bl_alloc ?_ _ | refine bl_then ?_ (by assumption) | refine Below.setCell ?_ (by first | omega | (simp; done) | (simp; omega)) _ | refine bl_store ?_ ?_ _ _))⟩
  cases e2 : inB ki 1 3
  · have hz : Hid (featC id la ki wi n X Y lab pr = 3) := by show _ = _; simp [featC, rngB, e0, e1, e2]
    go_enter Tryz.func40, Tryz.ntmps40
    go_wp2_with (go_at_call 39; refine (l1In_eq _ _ _ _).mono ?_; rintro e w' ⟨rfl, rfl⟩)
    go_ret
    exact ⟨ret_int hz.out.symm, by (repeat (first | exact Below.refl _ _ | assumption | refine Below.drew ?_ | refine bl_alloc ?_ _ | refine bl_then ?_ (by assumption) | refine Below.setCell ?_ (by first | omega | (simp; done) | (simp; omega)) _ | refine bl_store ?_ ?_ _ _))⟩
  cases e3 : inB wi 0 3
  · have hz : Hid (featC id la ki wi n X Y lab pr = 3) := by show _ = _; simp [featC, rngB, e0, e1, e2, e3]
    go_enter Tryz.func40, Tryz.ntmps40
    go_wp2_with (go_at_call 39; refine (l1In_eq _ _ _ _).mono ?_; rintro e w' ⟨rfl, rfl⟩)
    go_ret
    exact ⟨ret_int hz.out.symm, by (repeat (first | exact Below.refl _ _ | assumption | refine Below.drew ?_ | refine bl_alloc ?_ _ | refine bl_then ?_ (by assumption) | refine Below.setCell ?_ (by first | omega | (simp; done) | (simp; omega)) _ | refine bl_store ?_ ?_ _ _))⟩
  cases e4 : inB pr 0 9
  · have hz : Hid (featC id la ki wi n X Y lab pr = 3) := by show _ = _; simp [featC, rngB, e0, e1, e2, e3, e4]
    go_enter Tryz.func40, Tryz.ntmps40
    go_wp2_with (go_at_call 39; refine (l1In_eq _ _ _ _).mono ?_; rintro e w' ⟨rfl, rfl⟩)
    go_ret
    exact ⟨ret_int hz.out.symm, by (repeat (first | exact Below.refl _ _ | assumption | refine Below.drew ?_ | refine bl_alloc ?_ _ | refine bl_then ?_ (by assumption) | refine Below.setCell ?_ (by first | omega | (simp; done) | (simp; omega)) _ | refine bl_store ?_ ?_ _ _))⟩
  have hr : Hid (rngB id la ki wi pr = true) := by show _ = _; simp [rngB, e0, e1, e2, e3, e4]
  cases e5 : sizeB ki n
  · have hz : Hid (featC id la ki wi n X Y lab pr = 2) := by show _ = _; simp [featC, hr.out, e5]
    go_enter Tryz.func40, Tryz.ntmps40
    go_wp2_with (first | (go_at_call 39; refine (l1In_eq _ _ _ _).mono ?_; rintro e w' ⟨rfl, rfl⟩) | (go_at_call 64; refine (l2Size_eq _ _ _).mono ?_; rintro e w' ⟨rfl, rfl⟩))
    go_region_held3 (fun W' => Below w.heap.size w W') ((repeat (first | exact Below.refl _ _ | assumption | refine Below.drew ?_ | refine bl_alloc ?_ _ | refine bl_then ?_ (by assumption) | refine Below.setCell ?_ (by first | omega | (simp; done) | (simp; omega)) _ | refine bl_store ?_ ?_ _ _)))
      (first | (go_at_call 64; refine (l2Size_eq _ _ _).mono ?_; rintro e w' ⟨rfl, rfl⟩))
    go_wp2
    go_ret
    exact ⟨ret_int hz.out.symm, by (repeat (first | exact Below.refl _ _ | assumption | refine Below.drew ?_ | refine bl_alloc ?_ _ | refine bl_then ?_ (by assumption) | refine Below.setCell ?_ (by first | omega | (simp; done) | (simp; omega)) _ | refine bl_store ?_ ?_ _ _))⟩
  go_enter Tryz.func40, Tryz.ntmps40
  go_wp2_with (first | (go_at_call 39; refine (l1In_eq _ _ _ _).mono ?_; rintro e w' ⟨rfl, rfl⟩) | (go_at_call 64; refine (l2Size_eq _ _ _).mono ?_; rintro e w' ⟨rfl, rfl⟩))
  go_region_held3 (fun W' => Below w.heap.size w W') ((repeat (first | exact Below.refl _ _ | assumption | refine Below.drew ?_ | refine bl_alloc ?_ _ | refine bl_then ?_ (by assumption) | refine Below.setCell ?_ (by first | omega | (simp; done) | (simp; omega)) _ | refine bl_store ?_ ?_ _ _)))
    (first | (go_at_call 64; refine (l2Size_eq _ _ _).mono ?_; rintro e w' ⟨rfl, rfl⟩))
  go_wp2
  go_loopw [3] (fun i wr => ∃ k : Nat, k ≤ n ∧ i = .int .i64 k ∧ (∀ j, j < k → inW (X j) (Y j) = true) ∧ Below w.heap.size w wr) (fun i _ => n - (intOf i).toNat)
  case atStart => exact ⟨0, by omega, rfl, by omega, (Below.refl _ _).drew⟩
  case round =>
    obtain ⟨k, hk, rfl, hA, hB⟩ := hrel
    have HA : Hid (∀ j, j < k → inW (X j) (Y j) = true) := hA
    have HB : Hid (Below w.heap.size w wr) := hB
    clear h0 h1 h2 h3 h4 h5 h6 c0 c1 c2 c3 c6 hA
    by_cases hlt : k < n
    · rcases HP.out with hz | ⟨b, off, rfl, hbl, hpt⟩
      · omega
      have hi : (k : Int) < (n : Int) := by omega
      have hi0 : (0 : Int) ≤ (k : Int) := by omega
      have d4 : ∀ W', Below wr.heap.size wr W' → W'.cell? ⟨p, o + 4, none⟩ = some (.slice (some ⟨b, off, none⟩) n cap) := fun W' h => c4 W' (hB.trans (h.mono hB.size))
      have dx : ∀ W', Below wr.heap.size wr W' → W'.cell? ⟨b, off + k * 2, none⟩ = some (.int .i64 (X k)) := fun W' h => (hpt.below (hB.trans (h.mono hB.size)) hbl k hlt).1
      have dy : ∀ W', Below wr.heap.size wr W' → W'.cell? ⟨b, off + k * 2 + 1, none⟩ = some (.int .i64 (Y k)) := fun W' h => (hpt.below (hB.trans (h.mono hB.size)) hbl k hlt).2
      clear c4 c5 hB hpt
      have hr0 : Below wr.heap.size wr wr := Below.refl _ _
      cases ex : inB (X k) 0 1024
      · have hz : Hid (featC id la ki wi n X Y lab pr = 3) := by show _ = _; simp [featC, hr.out, e5, ptsIn_bad k hlt (show inW (X k) (Y k) = false by simp [inW, ex])]
        go_wp2_with (go_at_call 39; refine (l1In_eq _ _ _ _).mono ?_; rintro e w' ⟨rfl, rfl⟩)
        go_ret
        exact ⟨ret_int hz.out.symm, HB.out⟩
      cases ey : inB (Y k) 0 1024
      · have hz : Hid (featC id la ki wi n X Y lab pr = 3) := by show _ = _; simp [featC, hr.out, e5, ptsIn_bad k hlt (show inW (X k) (Y k) = false by simp [inW, ex, ey])]
        go_wp2_with (go_at_call 39; refine (l1In_eq _ _ _ _).mono ?_; rintro e w' ⟨rfl, rfl⟩)
        go_ret
        exact ⟨ret_int hz.out.symm, HB.out⟩
      have HI : Hid (inW (X k) (Y k) = true) := by show _ = _; simp [inW, ex, ey]
      go_wp2_with (go_at_call 39; refine (l1In_eq _ _ _ _).mono ?_; rintro e w' ⟨rfl, rfl⟩)
      go_roundw
      case rel => exact ⟨k + 1, by omega, by go_num, fun j hj => by
          by_cases e : j = k
          · rw [e]; exact HI.out
          · exact HA.out j (by omega), HB.out⟩
      case measure => simp [intOf]; omega
    · have hz : Hid (featC id la ki wi n X Y lab pr = if labB lab = true then 0 else 5) := by
        show _ = _
        have : ptsIn n X Y = true := decide_eq_true (fun i hi => HA.out i (by omega))
        simp [featC, hr.out, e5, this]
      have d4 := c4 wr hB
      have d5 := c5 wr hB
      clear c4 c5
      cases el : labB lab
      all_goals
        go_wp2_with (go_at_call 65; refine (l2Label_any _ _ hl).mono ?_; rintro e w' ⟨rfl, hb⟩)
        go_ret
        exact ⟨ret_int (by rw [hz.out]; simp [el]), bl_then HB.out hb⟩
end Go.Proofs.YtchofahdcohibaaGreat
/- A feature is copied: its points lie in a row of their own. -/

namespace Go.Proofs.YtchofahdcohibaaGreat
open Go.RowKit
set_option linter.unusedSimpArgs false
set_option linter.unusedVariables false
set_option maxRecDepth 100000

theorem Row.setB {base r o : Nat} {w : World} {v x : Value} {l : List (Int × Int)} (h : Row base w v l) (hr : r < base) : Row base (w.setCell ⟨r, o, none⟩ x) v l := by
  obtain ⟨h1, h2 | ⟨g, cp, cur, hv, hg, hh, hrest⟩⟩ := h
  · exact ⟨h1, .inl h2⟩
  · refine ⟨h1, .inr ⟨g, cp, cur, hv, hg, ?_, hrest⟩⟩
    rw [Below.heap_setCell _ _ _ _ (by simp; omega)]
    exact hh
theorem Row.wideB {base B : Nat} {w : World} {v : Value} {l : List (Int × Int)} (h : Row base w v l) (hB : B ≤ base) : Row B w v l := by
  obtain ⟨h1, h2 | ⟨g, cp, cur, hv, hg, hrest⟩⟩ := h
  · exact ⟨h1, .inl h2⟩
  · exact ⟨h1, .inr ⟨g, cp, cur, hv, by omega, hrest⟩⟩

set_option maxRecDepth 8000 in
set_option maxHeartbeats 1000000 in
theorem slicesClone_row {off : Nat} (b n cap : Nat) (X Y : Nat → Int) (w : World) (hp : PtsAt w b off n X Y) (hbl : b < w.heap.size) (hn : n ≤ 1048576) :
    Calls Tryz.prog 79 #[.slice (some ⟨b, off, none⟩) n cap] w fun e w' => ∃ a c, e = .returned (.slice a n c) ∧ Row w.heap.size w' (.slice a n c) (ptsOf X Y (List.range n)) ∧ Below w.heap.size w w' := by
  obtain ⟨i0, hi, hz0, hz1, hz2⟩ := info_parts (show (Tryz.prog.info? 58).map (fun i => (i.zero, i.size, i.bytes)) = some (some (.agg #[.int .i64 0, .int .i64 0]), 2, 16) by kernel_rfl)
  have HP : Hid (PtsAt w b off n X Y) := hp
  have HLEN : Hid ((ptsOf X Y (List.range n)).length = n) := by show _ = _; simp [ptsOf]
  clear hp
  have hnl : ∀ w, Sem.run Tryz.prog (binOp BinOp.eql 34 (.slice (some ⟨b, off, none⟩) n cap) (.slice none 0 0)) w = .ok (.bool false) w := fun _ => by kernel_rfl
  go_enter Tryz.func79, Tryz.ntmps79
  go_wp2_with (first
    | (at_builtin; go_must (refine wpList_append_own _ rfl _ _ 34 rfl w.heap.size 58 i0 (.agg #[.int .i64 0, .int .i64 0]) 2 16 Tryz.underlying34 hi hz0 hz1 hz2 rfl (by decide) (.slice (some ⟨w.heap.size, 0, none⟩) 0 0) 0 [] rfl (World.ownsRow_lit (base := w.heap.size) w #[] 0 (Nat.le_refl _) (Nat.zero_le _) rfl) ⟨b, off, none⟩ n cap (cellsL (ptsOf X Y (List.range n))) rfl ?c0 ?c1 ?c2 ?c3 ?c4 ?c5 ?_)))
  case c0 => rw [cellsL_len, HLEN.out]
  case c1 =>
    intro q u hq
    have h1 := pts_cellsO (HP.out.below (by (repeat (first | exact Below.refl _ _ | assumption | refine Below.drew ?_ | refine bl_alloc ?_ _ | refine bl_then ?_ (by assumption) | refine Below.setCell ?_ (by first | omega | (simp; done) | (simp; omega)) _ | refine bl_store ?_ ?_ _ _)) : Below w.heap.size w (w.alloc (.cells #[] 58))) hbl) q u hq
    by_cases hq0 : q = 0
    · subst hq0; simpa [Addr.add] using h1
    · simpa [Addr.add, hq0] using h1
  case c2 =>
    intro u hu
    unfold cellsL at hu
    rw [List.mem_flatMap] at hu
    obtain ⟨p, _, hp⟩ := hu
    simp at hp
    rcases hp with rfl | rfl <;> rfl
  case c3 => unfold maxLen; omega
  case c4 => omega
  case c5 => first | omega | (simp; done) | (simp; omega)
  intro v' w2 hown' hgrow hnil
  clear hnil
  obtain ⟨a, c, hv⟩ : ∃ a c, v' = .slice a n c := by
    obtain ⟨_, h2 | ⟨g, cp, cur, hv, _⟩⟩ := hown'
    · exact ⟨none, 0, by have e := h2.2; have e2 : n = 0 := by omega
                         subst e2; exact h2.1⟩
    · exact ⟨_, cp, by rw [hv]⟩
  have HB2 : Hid (Below w.heap.size w w2) := ((Below.refl _ _).alloc (Nat.le_refl _) _).trans ((Below.refl _ _).grown hgrow (by simp) (fun k hk => by simp [Value.ownBlock] at hk; omega))
  subst hv
  have HOWN : Hid (Row w.heap.size w2 (.slice a n c) (ptsOf X Y (List.range n))) := by
    show Row _ _ _ _
    unfold Row
    rw [HLEN.out]
    simpa using hown'
  clear hown' hgrow
  go_wp2
  go_ret
  exact ⟨a, c, rfl, HOWN.out, HB2.out⟩
set_option maxHeartbeats 4000000 in
theorem copyFeature_row {off : Nat} (id la ki wi : Int) (b n cap : Nat) (X Y : Nat → Int) (lab : ByteArray) (pr : Int) (w : World) (hp : PtsAt w b off n X Y) (hbl : b < w.heap.size) (hn : n ≤ 1048576) (hl : lab.size ≤ 1048576) :
    Calls Tryz.prog 47 #[.agg #[.int .i64 id, .int .i64 la, .int .i64 ki, .int .i64 wi, .slice (some ⟨b, off, none⟩) n cap, .string lab, .int .i64 pr]] w fun e w' => ∃ a c, e = .returned (.agg #[.int .i64 id, .int .i64 la, .int .i64 ki, .int .i64 wi, .slice a n c, .string lab, .int .i64 pr]) ∧ Row w.heap.size w' (.slice a n c) (ptsOf X Y (List.range n)) ∧ Below w.heap.size w w' := by
  have HP : Hid (PtsAt w b off n X Y) := hp
  clear hp
  go_enter Tryz.func47, Tryz.ntmps47
  go_wp2_with fail
  generalize hW : ((w.alloc _).alloc _ : World) = W
  have hB0 : Below w.heap.size w W := by subst hW; (repeat (first | exact Below.refl _ _ | assumption | refine Below.drew ?_ | refine bl_alloc ?_ _ | refine bl_then ?_ (by assumption) | refine Below.setCell ?_ (by first | omega | (simp; done) | (simp; omega)) _ | refine bl_store ?_ ?_ _ _))
  have q0 : W.cell? ⟨w.heap.size, 0, none⟩ = some (.int .i64 id) := by subst hW; simp [go_sem]
  have q1 : W.cell? ⟨w.heap.size, 1, none⟩ = some (.int .i64 la) := by subst hW; simp [go_sem]
  have q2 : W.cell? ⟨w.heap.size, 2, none⟩ = some (.int .i64 ki) := by subst hW; simp [go_sem]
  have q3 : W.cell? ⟨w.heap.size, 3, none⟩ = some (.int .i64 wi) := by subst hW; simp [go_sem]
  have q4 : W.cell? ⟨w.heap.size, 4, none⟩ = some (.slice (some ⟨b, off, none⟩) n cap) := by subst hW; simp [go_sem]
  have q5 : W.cell? ⟨w.heap.size, 5, none⟩ = some (.string lab) := by subst hW; simp [go_sem]
  have q6 : W.cell? ⟨w.heap.size, 6, none⟩ = some (.int .i64 pr) := by subst hW; simp [go_sem]
  have fz : ∀ o, W.frozen? ⟨w.heap.size, o, none⟩ = false := fun o => by subst hW; simp [go_sem]
  have hT : There W (w.heap.size + 1) 7 := fun o ho => by
    subst hW
    have hc : o = 0 ∨ o = 1 ∨ o = 2 ∨ o = 3 ∨ o = 4 ∨ o = 5 ∨ o = 6 := by omega
    rcases hc with rfl | rfl | rfl | rfl | rfl | rfl | rfl <;> exact ⟨⟨_, by simp [go_sem]; rfl⟩, by simp [go_sem]⟩
  have hsz : w.heap.size + 1 < W.heap.size := by subst hW; simp
  clear hW
  refine (slicesClone_row b n cap X Y W (HP.out.below hB0 hbl) (Nat.lt_of_lt_of_le hbl hB0.size) hn).mono ?_
  rintro e w1 ⟨a1, c1, rfl, hR1, hb1⟩
  have HR1 : Hid (Row W.heap.size w1 (.slice a1 n c1) (ptsOf X Y (List.range n))) := hR1
  clear hR1
  have hB1 : Below w.heap.size w w1 := bl_then hB0 hb1
  have p0 := bl_cell hb1 q0
  have p1 := bl_cell hb1 q1
  have p2 := bl_cell hb1 q2
  have p3 := bl_cell hb1 q3
  have p4 := bl_cell hb1 q4
  have p5 := bl_cell hb1 q5
  have p6 := bl_cell hb1 q6
  have f1 : w1.frozen? ⟨w.heap.size, 4, none⟩ = false := (hb1.frozen (p := ⟨w.heap.size, 4, none⟩) (by show w.heap.size < _; omega)).trans (fz 4)
  have f2 : w1.frozen? ⟨w.heap.size, 5, none⟩ = false := (hb1.frozen (p := ⟨w.heap.size, 5, none⟩) (by show w.heap.size < _; omega)).trans (fz 5)
  have hT1 := hT.below hb1
  have hsz1 := hb1.size
  clear q0 q1 q2 q3 q4 q5 q6 fz hT hb1 hB0
  have HT1 : Hid (There w1 (w.heap.size + 1) 7) := hT1
  clear hT1
  go_wp2_with fail
  generalize hW2 : (w1.setCell _ _ : World) = W2
  have g0 : W2.cell? ⟨w.heap.size, 0, none⟩ = some (.int .i64 id) := by subst hW2; rw [set1_other (by simp)]; exact p0
  have g1 : W2.cell? ⟨w.heap.size, 1, none⟩ = some (.int .i64 la) := by subst hW2; rw [set1_other (by simp)]; exact p1
  have g2 : W2.cell? ⟨w.heap.size, 2, none⟩ = some (.int .i64 ki) := by subst hW2; rw [set1_other (by simp)]; exact p2
  have g3 : W2.cell? ⟨w.heap.size, 3, none⟩ = some (.int .i64 wi) := by subst hW2; rw [set1_other (by simp)]; exact p3
  have g4 : W2.cell? ⟨w.heap.size, 4, none⟩ = some (.slice a1 n c1) := by subst hW2; exact set1_same p4
  have g5 : W2.cell? ⟨w.heap.size, 5, none⟩ = some (.string lab) := by subst hW2; rw [set1_other (by simp)]; exact p5
  have g6 : W2.cell? ⟨w.heap.size, 6, none⟩ = some (.int .i64 pr) := by subst hW2; rw [set1_other (by simp)]; exact p6
  have ff : W2.frozen? ⟨w.heap.size, 5, none⟩ = false := by subst hW2; rw [World.frozen?_setCell]; exact f2
  have hT2 : There W2 (w.heap.size + 1) 7 := fun o ho => by
    subst hW2
    obtain ⟨u, hu⟩ := (HT1.out o ho).1
    exact ⟨⟨u, by rw [set1_other (by simp)]; exact hu⟩, by rw [World.frozen?_setCell]; exact (HT1.out o ho).2⟩
  have hB2 : Below w.heap.size w W2 := by subst hW2; exact hB1.setCell (Nat.le_refl _) _
  have hsz2 : w1.heap.size ≤ W2.heap.size := by subst hW2; simp [World.setCell]
  have HR2 : Hid (Row W.heap.size W2 (.slice a1 n c1) (ptsOf X Y (List.range n))) := by show Row _ _ _ _; subst hW2; exact HR1.out.setB (by omega)
  clear hW2 p0 p1 p2 p3 p4 p5 p6 f1 f2 hB1
  refine (stringsClone_any lab W2 hl).mono ?_
  rintro e w3 ⟨rfl, hb3⟩
  have HR3 : Hid (Row W.heap.size w3 (.slice a1 n c1) (ptsOf X Y (List.range n))) := HR2.out.below hb3
  have hB3 : Below w.heap.size w w3 := bl_then hB2 hb3
  have p0 := bl_cell hb3 g0
  have p1 := bl_cell hb3 g1
  have p2 := bl_cell hb3 g2
  have p3 := bl_cell hb3 g3
  have p4 := bl_cell hb3 g4
  have p5 := bl_cell hb3 g5
  have p6 := bl_cell hb3 g6
  have f5 : w3.frozen? ⟨w.heap.size, 5, none⟩ = false := (hb3.frozen (p := ⟨w.heap.size, 5, none⟩) (by show w.heap.size < _; omega)).trans ff
  have hT3 := hT2.below hb3
  have hsz3 := hb3.size
  have t0 := hT3.cell 0 (by omega)
  have t1 := hT3.cell 1 (by omega)
  have t2 := hT3.cell 2 (by omega)
  have t3 := hT3.cell 3 (by omega)
  have t4 := hT3.cell 4 (by omega)
  have t5 := hT3.cell 5 (by omega)
  have t6 := hT3.cell 6 (by omega)
  have z0 := (hT3 0 (by omega)).2
  have z1 := (hT3 1 (by omega)).2
  have z2 := (hT3 2 (by omega)).2
  have z3 := (hT3 3 (by omega)).2
  have z4 := (hT3 4 (by omega)).2
  have z5 := (hT3 5 (by omega)).2
  have z6 := (hT3 6 (by omega)).2
  have HT4 : Hid (There (w3.setCell ⟨w.heap.size, 5, none⟩ (.string lab)) (w.heap.size + 1) 7) := fun o ho => by
    obtain ⟨u, hu⟩ := (hT3 o ho).1
    exact ⟨⟨u, by rw [set1_other (by simp)]; exact hu⟩, by rw [World.frozen?_setCell]; exact (hT3 o ho).2⟩
  have HB3 : Hid (Below w.heap.size w w3) := hB3
  clear g0 g1 g2 g3 g4 g5 g6 ff hT2 hT3 hB2 hB3 hb3
  go_wp2_with fail
  obtain ⟨y0, y1, y2, y3, y4, y5, y6⟩ := set7_at (v0 := .int .i64 id) (v1 := .int .i64 la) (v2 := .int .i64 ki) (v3 := .int .i64 wi) (v4 := .slice a1 n c1) (v5 := .string lab) (v6 := .int .i64 pr) HT4.out
  have key : ∀ (T : Array Value) (Wf : World), T[2]?.getD undef = .pointer (some ⟨w.heap.size + 1, 0, none⟩) → Wf.cell? ⟨w.heap.size + 1, 0, none⟩ = some (.int .i64 id) → Wf.cell? ⟨w.heap.size + 1, 1, none⟩ = some (.int .i64 la) → Wf.cell? ⟨w.heap.size + 1, 2, none⟩ = some (.int .i64 ki) → Wf.cell? ⟨w.heap.size + 1, 3, none⟩ = some (.int .i64 wi) → Wf.cell? ⟨w.heap.size + 1, 4, none⟩ = some (.slice a1 n c1) → Wf.cell? ⟨w.heap.size + 1, 5, none⟩ = some (.string lab) → Wf.cell? ⟨w.heap.size + 1, 6, none⟩ = some (.int .i64 pr) →
      (results Tryz.f47 T).run Tryz.prog Wf = .ok (.agg #[.int .i64 id, .int .i64 la, .int .i64 ki, .int .i64 wi, .slice a1 n c1, .string lab, .int .i64 pr]) Wf := fun T Wf hT h0 h1 h2 h3 h4 h5 h6 => by
    simp [results, Tryz.results47, go_sem, hT, h0, h1, h2, h3, h4, h5, h6]
  refine bodyPost_ret (key _ _ rfl y0 y1 y2 y3 y4 y5 y6) rfl ⟨a1, c1, rfl, ?_, ?_⟩
  · exact ((((((((((HR3.out.setB (by omega)).setB (by omega)).setB (by omega)).setB (by omega)).setB (by omega)).setB (by omega)).setB (by omega)).setB (by omega)).wideB (by omega)))
  · exact ((((((((HB3.out.setCell (Nat.le_refl _) _).setCell (Nat.le_succ _) _).setCell (Nat.le_succ _) _).setCell (Nat.le_succ _) _).setCell (Nat.le_succ _) _).setCell (Nat.le_succ _) _).setCell (Nat.le_succ _) _).setCell (Nat.le_succ _) _)
end Go.Proofs.YtchofahdcohibaaGreat
