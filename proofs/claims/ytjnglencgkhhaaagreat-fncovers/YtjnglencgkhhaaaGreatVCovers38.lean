/- Several texts in one. -/
import Derived.Test.YtjnglencgkhhaaaGreatVCovers34
import Derived.Test.YtjnglencgkhhaaaGreatVCovers8
import Derived.Test.YtjnglencgkhhaaaGreatVCovers7
import Derived.Test.YtjnglencgkhhaaaGreatVCovers37
import Derived.Test.YtjnglencgkhhaaaGreatVCovers24
import Derived.Test.YtjnglencgkhhaaaGreatVCovers31

/- Whether points cover a centre. -/

namespace Go.Proofs.YtjnglencgkhhaaaGreat
open Go.RowKit
set_option linter.unusedSimpArgs false
set_option linter.unusedVariables false
set_option maxRecDepth 100000

/-- Whether it is near one of the ways, the first one from the first point to itself. -/
def byB (cx cy r : Int) (X Y : Nat → Int) : Nat → Bool
  | 0 => false
  | k + 1 => byB cx cy r X Y k || isNearB cx cy (X (k - 1)) (Y (k - 1)) (X k) (Y k) r
/-- Whether it is near one of the first segments. -/
def segB (cx cy r : Int) (X Y : Nat → Int) : Nat → Bool
  | 0 => false
  | k + 1 => segB cx cy r X Y k || isNearB cx cy (X k) (Y k) (X (k + 1)) (Y (k + 1)) r
theorem byB_seg (cx cy r : Int) (X Y : Nat → Int) : ∀ k, byB cx cy r X Y (k + 1) = (isNearB cx cy (X 0) (Y 0) (X 0) (Y 0) r || segB cx cy r X Y k)
  | 0 => by simp [byB, segB]
  | k + 1 => by
    rw [byB, byB_seg cx cy r X Y k, segB, Bool.or_assoc]
    rfl
theorem near_self {px py ax ay bx by' r : Int} (h : isNearB px py ax ay ax ay r = true) (hb : okP bx by' = true) : isNearB px py ax ay bx by' r = true := by
  simp only [isNearB, Bool.and_eq_true] at h ⊢
  obtain ⟨h1, h2, h3, h4, h5⟩ := h
  refine ⟨h1, h2, hb, h4, near_dist ?_⟩
  have := of_decide_eq_true h5
  have ha : alongI px py ax ay ax ay = 0 := by simp [alongI]
  simp only [overI, underI, ha, Int.le_refl, if_true] at this
  omega
theorem segB_first (cx cy r : Int) (X Y : Nat → Int) (h : isNearB cx cy (X 0) (Y 0) (X 1) (Y 1) r = true) : ∀ k, segB cx cy r X Y (k + 1) = true
  | 0 => by simp [segB, h]
  | k + 1 => by rw [segB, segB_first cx cy r X Y h k]; rfl
theorem byB_line (cx cy r : Int) (X Y : Nat → Int) (n : Nat) (hn : 2 ≤ n) (h1 : okP (X 1) (Y 1) = true) : byB cx cy r X Y n = segB cx cy r X Y (n - 1) := by
  obtain ⟨k, rfl⟩ : ∃ k, n = k + 2 := ⟨n - 2, by omega⟩
  rw [byB_seg]
  show _ = segB cx cy r X Y (k + 1)
  cases h : isNearB cx cy (X 0) (Y 0) (X 0) (Y 0) r
  · rfl
  · rw [segB_first cx cy r X Y (near_self h h1) k]; rfl
theorem byB_true {cx cy r : Int} {X Y : Nat → Int} (k : Nat) (h : byB cx cy r X Y k = true) : ∀ n, k ≤ n → byB cx cy r X Y n = true := by
  intro n hn
  induction n with
  | zero => rw [show k = 0 by omega] at h; exact h
  | succ m ih =>
    by_cases e : k = m + 1
    · rw [← e]; exact h
    · rw [byB, ih (by omega)]; rfl

theorem segB_true {cx cy r : Int} {X Y : Nat → Int} (k : Nat) (h : segB cx cy r X Y k = true) : ∀ n, k ≤ n → segB cx cy r X Y n = true := by
  intro n hn
  induction n with
  | zero => rw [show k = 0 by omega] at h; exact h
  | succ m ih =>
    by_cases e : k = m + 1
    · rw [← e]; exact h
    · rw [segB, ih (by omega)]; rfl

set_option maxHeartbeats 4000000 in
theorem isByLine_any (cx cy r : Int) (b n cap : Nat) (X Y : Nat → Int) (w : World) (hp : PtsAt w b 0 n X Y) (hbl : b < w.heap.size) (hn : 0 < n) (hmax : n ≤ 1048576) (hcap : n ≤ cap) :
    Calls Tryz.prog 99 #[.agg #[.int .i64 cx, .int .i64 cy], .slice (some ⟨b, 0, none⟩) n cap, .int .i64 r] w fun e w' => e = .returned (.bool (byB cx cy r X Y n)) ∧ Below w.heap.size w w' := by
  have HP : Hid (PtsAt w b 0 n X Y) := hp
  obtain ⟨e0, e1⟩ := hp 0 hn
  simp only [Nat.zero_add, Nat.zero_mul] at e0 e1
  clear hp
  have hni : (0 : Int) < (n : Int) := by omega
  go_enter Tryz.func99, Tryz.ntmps99
  go_wp2_with fail
  generalize hW : ((w.alloc _).alloc _ : World) = W
  have HB0 : Hid (Below w.heap.size w W) := by show Below _ _ _; subst hW; (repeat (first | exact Below.refl _ _ | assumption | refine Below.drew ?_ | refine bl_alloc ?_ _ | refine bl_then ?_ (by assumption) | refine Below.setCell ?_ (by first | omega | (simp; done) | (simp; omega)) _ | refine bl_store ?_ ?_ _ _))
  have hT : There W (w.heap.size + 1) 2 := by
    subst hW
    have := there2 (w.alloc (.cells #[.int .i64 cx, .int .i64 cy] 31)) (.int .i64 (X 0)) (.int .i64 (Y 0)) 31
    simpa using this
  have c00 : ∀ W', Below W.heap.size W W' → W'.cell? ⟨w.heap.size, 0, none⟩ = some (.int .i64 cx) := fun W' h => by
    rw [h.cell (by subst hW; simp <;> omega)]; subst hW; simp [go_sem]
  have c01 : ∀ W', Below W.heap.size W W' → W'.cell? ⟨w.heap.size, 1, none⟩ = some (.int .i64 cy) := fun W' h => by
    rw [h.cell (by subst hW; simp <;> omega)]; subst hW; simp [go_sem]
  have c10 : ∀ W', Below W.heap.size W W' → W'.cell? ⟨w.heap.size + 1, 0, none⟩ = some (.int .i64 (X 0)) := fun W' h => by
    rw [h.cell (by subst hW; simp <;> omega)]; subst hW; simp [go_sem]
  have c11 : ∀ W', Below W.heap.size W W' → W'.cell? ⟨w.heap.size + 1, 1, none⟩ = some (.int .i64 (Y 0)) := fun W' h => by
    rw [h.cell (by subst hW; simp <;> omega)]; subst hW; simp [go_sem]
  have hszW : W.heap.size = w.heap.size + 1 + 1 := by subst hW; simp
  clear hW
  have q0 := c00 W (Below.refl _ _)
  have q1 := c01 W (Below.refl _ _)
  have q2 := c10 W (Below.refl _ _)
  have q3 := c11 W (Below.refl _ _)
  clear c00 c01 c10 c11
  go_loopw [15] (fun i wr => ∃ k : Nat, k ≤ n ∧ i = .int .i64 (k : Int) ∧ byB cx cy r X Y k = false ∧ Below (w.heap.size + 1) W wr ∧ There wr (w.heap.size + 1) 2 ∧ wr.cell? ⟨w.heap.size + 1, 0, none⟩ = some (.int .i64 (X (k - 1))) ∧ wr.cell? ⟨w.heap.size + 1, 1, none⟩ = some (.int .i64 (Y (k - 1)))) (fun i _ => n - (intOf i).toNat)
  case atStart => exact ⟨0, by omega, rfl, rfl, Below.refl _ _, hT, q2, q3⟩
  case round =>
    obtain ⟨k, hk, rfl, hF, hB, hT', f0, f1⟩ := hrel
    have HB : Hid (Below (w.heap.size + 1) W wr) := hB
    have HBw : Hid (Below w.heap.size w wr) := HB0.out.trans (hB.mono (by omega))
    have HF : Hid (byB cx cy r X Y k = false) := hF
    have hszr := hB.size
    have g0 := (hB.cell (p := ⟨w.heap.size, 0, none⟩) (by show w.heap.size < _; omega)).trans q0
    have g1 := (hB.cell (p := ⟨w.heap.size, 1, none⟩) (by show w.heap.size < _; omega)).trans q1
    clear hB hF
    by_cases hlt : k < n
    · obtain ⟨hx, hy⟩ := (HP.out.below HBw.out hbl) k hlt
      simp only [Nat.zero_add] at hx hy
      have hi' : (k : Int) < (n : Int) := by omega
      have hbw : b < wr.heap.size := by omega
      have HT : Hid (There wr (w.heap.size + 1) 2) := hT'
      have hl0 : w.heap.size < wr.heap.size := by omega
      have hl1 : w.heap.size + 1 < wr.heap.size := by omega
      clear hT'
      go_wp2_with fail
      generalize hV : (wr.alloc _ : World) = V
      have hbV : Below wr.heap.size wr V := by subst hV; (repeat (first | exact Below.refl _ _ | assumption | refine Below.drew ?_ | refine bl_alloc ?_ _ | refine bl_then ?_ (by assumption) | refine Below.setCell ?_ (by first | omega | (simp; done) | (simp; omega)) _ | refine bl_store ?_ ?_ _ _))
      have d0 : ∀ W', Below V.heap.size V W' → W'.cell? ⟨wr.heap.size, 0, none⟩ = some (.int .i64 (X k)) := fun W' h => by
        rw [h.cell (by subst hV; simp)]; subst hV; simp [go_sem]
      have d1 : ∀ W', Below V.heap.size V W' → W'.cell? ⟨wr.heap.size, 1, none⟩ = some (.int .i64 (Y k)) := fun W' h => by
        rw [h.cell (by subst hV; simp)]; subst hV; simp [go_sem]
      have hszV : wr.heap.size < V.heap.size := by subst hV; simp
      clear hV hx hy
      refine (impl_IsNear_any _ _ _ _ _ _ _ _).mono ?_
      rintro e w1 ⟨rfl, hb1⟩
      have hbr1 := bl_then hbV hb1
      have HB1 : Hid (Below w.heap.size w w1) := bl_then HBw.out hbr1
      cases hq : isNearB cx cy (X (k - 1)) (Y (k - 1)) (X k) (Y k) r
      · have hT1 := HT.out.below hbr1
        have t0 := hT1.cell 0 (by omega)
        have t1 := hT1.cell 1 (by omega)
        have z0 := (hT1 0 (by omega)).2
        have z1 := (hT1 1 (by omega)).2
        have p0 := d0 w1 hb1
        have p1 := d1 w1 hb1
        have HT1 : Hid (There w1 (w.heap.size + 1) 2) := hT1
        have HBW1 : Hid (Below (w.heap.size + 1) W w1) := HB.out.trans (hbr1.mono (by omega))
        have hsz1 := hbr1.size
        have HK : Hid (byB cx cy r X Y (k + 1) = false) := by show _ = _; rw [byB, HF.out, hq]; rfl
        clear hT1 d0 d1 hbr1 hb1 hbV f0 f1 g0 g1
        go_wp2_with fail
        go_roundw
        case rel =>
          refine ⟨k + 1, by omega, by go_num, HK.out, (HBW1.out.setCell (by show w.heap.size + 1 ≤ w.heap.size + 1; omega) _).setCell (by show w.heap.size + 1 ≤ w.heap.size + 1; omega) _, ?_, set2_0 (Option.isSome_iff_exists.2 ⟨_, t0⟩), set2_1 (Option.isSome_iff_exists.2 ⟨_, t1⟩)⟩
          exact (HT1.out.set 0 _).set 1 _
        case measure => simp [intOf]; omega
      · have HK : Hid (byB cx cy r X Y n = true) := byB_true (k + 1) (by rw [byB, hq]; simp) n (by omega)
        go_wp2_with fail
        go_ret
        exact ⟨ret_bool (by rw [HK.out]), HB1.out⟩
    · have hkn : k = n := by omega
      subst hkn
      go_wp2_with fail
      go_ret
      exact ⟨ret_bool (by rw [HF.out]), HBw.out⟩
theorem isInArea_any (cx cy r : Int) (b n cap : Nat) (X Y : Nat → Int) (w : World) (hp : PtsAt w b 0 n X Y) (hbl : b < w.heap.size) (hmax : n ≤ 1048576) (hcap : n ≤ cap) :
    Calls Tryz.prog 98 #[.agg #[.int .i64 cx, .int .i64 cy], .slice (some ⟨b, 0, none⟩) n cap, .int .i64 r] w fun e w' => e = .returned (.bool (insideB cx cy n X Y)) ∧ Below w.heap.size w w' := by
  have HP : Hid (PtsAt w b 0 n X Y) := hp
  clear hp
  go_enter Tryz.func98, Tryz.ntmps98
  go_wp2_with fail
  generalize hW : (w.alloc _ : World) = W
  have hB0 : Below w.heap.size w W := by subst hW; (repeat (first | exact Below.refl _ _ | assumption | refine Below.drew ?_ | refine bl_alloc ?_ _ | refine bl_then ?_ (by assumption) | refine Below.setCell ?_ (by first | omega | (simp; done) | (simp; omega)) _ | refine bl_store ?_ ?_ _ _))
  clear hW
  refine (impl_IsInside_any _ _ b n cap X Y W (HP.out.below hB0 hbl) (Nat.lt_of_lt_of_le hbl hB0.size) hcap hmax).mono ?_
  rintro e w1 ⟨rfl, hb1⟩
  go_wp2_with fail
  go_ret
  exact ⟨rfl, bl_then hB0 hb1⟩
end Go.Proofs.YtjnglencgkhhaaaGreat
/- What a feature without a fault becomes: how many points, and where. -/

namespace Go.Proofs.YtjnglencgkhhaaaGreat
open Go.RowKit
set_option linter.unusedSimpArgs false
set_option linter.unusedVariables false

/-- What else a feature without a fault has. -/
theorem featC_rng {id la ki wi : Int} {n : Nat} {X Y : Nat → Int} {lab : ByteArray} {pr : Int} (h : featC id la ki wi n X Y lab pr = 0) :
    (1 ≤ id ∧ id ≤ 999) ∧ (0 ≤ la ∧ la ≤ 9) ∧ (0 ≤ wi ∧ wi ≤ 3) ∧ (0 ≤ pr ∧ pr ≤ 9) := by
  unfold featC at h
  split at h
  · rename_i h1
    simp [rngB, inB] at h1
    omega
  · cases h
/-- How many points a kind has. -/
def kindN (ki : Int) (n : Nat) : Prop := (ki = 1 ∧ n = 1) ∨ (ki = 2 ∧ 2 ≤ n) ∨ (ki = 3 ∧ 3 ≤ n)
theorem featC_point {id la wi : Int} {n : Nat} {X Y : Nat → Int} {lab : ByteArray} {pr : Int} (h : featC id la 1 wi n X Y lab pr = 0) : n = 1 := by
  unfold featC at h
  split at h
  · split at h
    · rename_i h2
      simp [sizeB] at h2
      omega
    · cases h
  · cases h
theorem inW_zero : inW 0 0 = true := by decide
/-- All points of a list lie in the world. -/
def allW (l : List (Int × Int)) : Prop := ∀ p ∈ l, inW p.1 p.2 = true
theorem allW.at {l : List (Int × Int)} (h : allW l) (i : Nat) : inW (px l i) (py l i) = true := by
  by_cases hi : i < l.length
  · have e1 : px l i = (l[i]).1 := by simp [px, List.getD_eq_getElem?_getD, List.getElem?_eq_getElem hi]
    have e2 : py l i = (l[i]).2 := by simp [py, List.getD_eq_getElem?_getD, List.getElem?_eq_getElem hi]
    rw [e1, e2]
    exact h _ (List.getElem_mem hi)
  · have e1 : px l i = 0 := by simp [px, List.getD_eq_getElem?_getD, List.getElem?_eq_none (Nat.le_of_not_lt hi)]
    have e2 : py l i = 0 := by simp [py, List.getD_eq_getElem?_getD, List.getElem?_eq_none (Nat.le_of_not_lt hi)]
    rw [e1, e2]
    exact inW_zero
theorem allW_fill {k : Nat} {l : List (Int × Int)} (h : allW l) : allW (fillL k l) := fun p hp => by
  unfold fillL at hp
  rcases List.mem_append.1 hp with hp | hp
  · exact h p hp
  · obtain ⟨_, rfl⟩ := List.mem_replicate.1 hp
    cases hl : l.getLast? with
    | none => rw [List.getLastD_eq_getLast?, hl]; exact inW_zero
    | some q => rw [List.getLastD_eq_getLast?, hl]; exact h q (List.mem_of_getLast? hl)
theorem allW_simpT (ki z : Int) (n : Nat) (X Y : Nat → Int) (L : List Nat) (hz : zoomB z = true) (hin : ∀ i, i < n → inW (X i) (Y i) = true) : allW (simpT ki z n X Y L) := by
  have hs : allW (snapL X Y z n) := snapL_in X Y z hz n hin
  unfold simpT
  split
  · intro p hp
    unfold ptsOf at hp
    obtain ⟨i, _, rfl⟩ := List.mem_map.1 hp
    exact hs.at i
  · split
    · unfold openL
      split
      · exact fun p hp => hs p (List.dropLast_subset _ hp)
      · exact hs
    · exact hs
/-- What a feature without a fault becomes. -/
theorem simpR_facts {id la ki wi z : Int} {n : Nat} {X Y : Nat → Int} {lab : ByteArray} {pr : Int} {L : List Nat} (hfc : featC id la ki wi n X Y lab pr = 0) (hz : zoomB z = true)
    (hL : 3 ≤ (snapL X Y z n).length → Thin (px (snapL X Y z n)) (py (snapL X Y z n)) (gridI z) 0 ((snapL X Y z n).length - 1) L) :
    kindN ki (simpR 0 ki z n X Y L).length ∧ (simpR 0 ki z n X Y L).length ≤ 12 ∧ allW (simpR 0 ki z n X Y L) := by
  obtain ⟨hk, h0, h12, hkn, hin, _⟩ := featC_zero hfc
  have hT := simpT_len ki z n X Y L h0 h12 hL
  have hl : (simpR 0 ki z n X Y L).length = (simpT ki z n X Y L).length + (ki.toNat - (simpT ki z n X Y L).length) := by
    rw [simpR, if_pos rfl, fillL, List.length_append, List.length_replicate]
  refine ⟨?_, by omega, by rw [simpR, if_pos rfl]; exact allW_fill (allW_simpT ki z n X Y L hz hin)⟩
  rcases hk with rfl | rfl | rfl
  · left
    have hn1 := featC_point hfc
    subst hn1
    have h1 := snapL_len X Y z 1
    have e : simpT 1 z 1 X Y L = snapL X Y z 1 := by simp [simpT]
    rw [e] at hl hT
    refine ⟨rfl, ?_⟩
    have : (1 : Int).toNat = 1 := rfl
    omega
  · right; left
    have : (2 : Int).toNat = 2 := rfl
    exact ⟨rfl, by omega⟩
  · right; right
    have : (3 : Int).toNat = 3 := rfl
    exact ⟨rfl, by omega⟩
theorem simpT_le (ki z : Int) (n : Nat) (X Y : Nat → Int) (L : List Nat) (hL : 3 ≤ (snapL X Y z n).length → Thin (px (snapL X Y z n)) (py (snapL X Y z n)) (gridI z) 0 ((snapL X Y z n).length - 1) L) : (simpT ki z n X Y L).length ≤ n := by
  have h1 := snapL_len X Y z n
  unfold simpT
  split
  · unfold ptsOf thinP
    rw [List.length_map]
    split
    · simp; omega
    · have := ((hL (by omega)).len _ _ (by omega)).1
      simp
      omega
  · split
    · unfold openL
      split
      · rw [List.length_dropLast]; omega
      · omega
    · omega
end Go.Proofs.YtjnglencgkhhaaaGreat
/- How far from its points a feature is still seen. -/

namespace Go.Proofs.YtjnglencgkhhaaaGreat
open Go.RowKit
set_option linter.unusedSimpArgs false
set_option linter.unusedVariables false
set_option maxRecDepth 100000

/-- The reach, doubled. -/
def reachI (wi z : Int) : Int := (wi + 1) * unitI z
def reachR (C wi z : Int) : Int := if C = 0 then reachI wi z else 0
theorem reach_bd {wi z : Int} (hw : 0 ≤ wi ∧ wi ≤ 3) (hz : zoomB z = true) : 16 ≤ reachI wi z ∧ reachI wi z ≤ 512 := by
  unfold reachI
  rcases zoomB_cases hz with rfl | rfl | rfl | rfl
  all_goals
    simp only [show unitI 0 = 128 from rfl, show unitI 1 = 64 from rfl, show unitI 2 = 32 from rfl, show unitI 3 = 16 from rfl]
    omega
theorem unit_lit {z : Int} (hz : zoomB z = true) : unitI z = 128 ∨ unitI z = 64 ∨ unitI z = 32 ∨ unitI z = 16 := by rcases zoomB_cases hz with rfl | rfl | rfl | rfl <;> simp [unitI]

set_option maxHeartbeats 1000000 in
theorem reachAt_any (id la ki wi z : Int) (v : Value) (lab : ByteArray) (pr : Int) (w : World) (hw : 0 ≤ wi ∧ wi ≤ 3) (hz : zoomB z = true) (hv : ∃ a n c, v = .slice a n c) :
    Calls Tryz.prog 42 #[.agg #[.int .i64 id, .int .i64 la, .int .i64 ki, .int .i64 wi, v, .string lab, .int .i64 pr], .int .i64 z] w fun e w' => e = .returned (.int .i64 (reachI wi z)) ∧ Below w.heap.size w w' := by
  obtain ⟨a, n, c, rfl⟩ := hv
  have s1 := fun w => impl_UnitAt_any z w
  have hv : unitV z = .agg #[.int .i64 0, .int .i64 (unitI z)] := by simp [unitV, hz]
  simp only [hv] at s1
  have hbd := unit_lit hz
  have hr : Hid (reachI wi z = (wi + 1) * unitI z) := rfl
  generalize unitI z = u at *
  have i1 : ∀ w, (Instr.field 41 (.agg #[.int .i64 0, .int .i64 u]) 1).run Tryz.prog w = .ok (.int .i64 u) w := fun _ => by kernel_rfl
  have hS := (show Hid _ from s1)
  clear s1 hv
  obtain ⟨hw0, hw1⟩ := hw
  go_enter Tryz.func42, Tryz.ntmps42
  go_wp2_with fail
  generalize hW : (w.alloc _ : World) = W
  have hB0 : Below w.heap.size w W := by subst hW; (repeat (first | exact Below.refl _ _ | assumption | refine Below.drew ?_ | refine bl_alloc ?_ _ | refine bl_then ?_ (by assumption) | refine Below.setCell ?_ (by first | omega | (simp; done) | (simp; omega)) _ | refine bl_store ?_ ?_ _ _))
  have c3 : ∀ W', Below W.heap.size W W' → W'.cell? ⟨w.heap.size, 3, none⟩ = some (.int .i64 wi) := fun W' h => by
    rw [h.cell (by subst hW; simp)]; subst hW; simp [go_sem]
  clear hW
  have hr0 : Below W.heap.size W W := Below.refl _ _
  rcases hbd with rfl | rfl | rfl | rfl
  all_goals
    go_region_held3 (fun W' => Below W.heap.size W W') ((repeat (first | exact Below.refl _ _ | assumption | refine Below.drew ?_ | refine bl_alloc ?_ _ | refine bl_then ?_ (by assumption) | refine Below.setCell ?_ (by first | omega | (simp; done) | (simp; omega)) _ | refine bl_store ?_ ?_ _ _)))
      (first | (go_at_call 16; refine (hS.out _).mono ?_; rintro e w' ⟨rfl, hb⟩))
    go_wp2
    go_ret
    exact ⟨ret_int (by rw [IntWalk.i64_in (wi + 1) (by omega), IntWalk.i64_in _ (by omega)]; exact hr.out.symm), bl_then hB0 (by assumption)⟩
end Go.Proofs.YtjnglencgkhhaaaGreat
