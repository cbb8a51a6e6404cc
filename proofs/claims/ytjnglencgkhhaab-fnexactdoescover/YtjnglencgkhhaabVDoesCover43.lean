/- Whether the own points of a feature cover a centre: the program. -/
import Derived.Test.YtjnglencgkhhaabVDoesCover23
import Derived.Test.YtjnglencgkhhaabVDoesCover42
namespace Go.Proofs.Ytjnglencgkhhaab
open Go.RowKit
set_option linter.unusedSimpArgs false
set_option linter.unusedVariables false
set_option maxRecDepth 100000

/-- Whether doubled points cover a centre. -/
def coverB (ki wi z cx cy : Int) (D : List (Int × Int)) : Bool := if ki = 3 then insideB cx cy D.length (px D) (py D) else byB cx cy (reachI wi z) (px D) (py D) D.length
/-- A row that is not empty. -/
theorem Row.at {base : Nat} {w : World} {v : Value} {l : List (Int × Int)} (h : Row base w v l) (hne : 0 < l.length) :
    ∃ g cap, v = .slice (some ⟨g, 0, none⟩) l.length cap ∧ base ≤ g ∧ g < w.heap.size ∧ l.length ≤ cap ∧ PtsAt w g 0 l.length (px l) (py l) := by
  obtain ⟨a, cap, hv, hc, h0 | ⟨b, rfl, hb, hl, hp, ht⟩⟩ := h.own
  · omega
  · exact ⟨b, cap, hv, hb, hl, hc, hp⟩
theorem doubled_at (b off n cap : Nat) (X Y : Nat → Int) (w : World) (hp : PtsAt w b off n X Y) (hbl : b < w.heap.size) (hn0 : 0 < n) (hn : n ≤ 40) (hin : ∀ i, i < n → inW (X i) (Y i) = true) :
    Calls Try.prog 86 #[.slice (some ⟨b, off, none⟩) n cap] w fun e w' => ∃ g cg, e = .returned (.slice (some ⟨g, 0, none⟩) n cg) ∧ g < w'.heap.size ∧ n ≤ cg ∧ PtsAt w' g 0 n (px (dblL X Y n)) (py (dblL X Y n)) ∧ Below w.heap.size w w' :=
  (doubled_any b off n cap X Y w hp hbl hn hin).mono fun e w' ⟨v, he, hR, hb⟩ => by
    obtain ⟨g, cg, hv, h1, h2, h3, h4⟩ := hR.at (by rw [dblL_len]; exact hn0)
    rw [dblL_len] at hv h3 h4
    exact ⟨g, cg, by rw [he, hv], h2, h3, h4, hb⟩
theorem coveringOf_area (w : World) : Calls Try.prog 85 #[.int .i64 3] w fun e w' => e = .returned (.func (.func 111) #[] #[]) ∧ w = w' := by
  go_enter Try.func85, Try.ntmps85
  go_wp2
  go_ret
  exact ⟨rfl, rfl⟩
theorem coveringOf_line (ki : Int) (w : World) (h : ki ≠ 3) : Calls Try.prog 85 #[.int .i64 ki] w fun e w' => e = .returned (.func (.func 112) #[] #[]) ∧ w = w' := by
  have hk : (ki == 3) = false := by simpa using h
  go_enter Try.func85, Try.ntmps85
  go_wp2
  go_ret
  exact ⟨rfl, rfl⟩
set_option maxHeartbeats 4000000 in
theorem coversAsItIs_any (id la ki wi z cx cy : Int) (b n cap : Nat) (X Y : Nat → Int) (lab : ByteArray) (pr : Int) (w : World) (hp : PtsAt w b 0 n X Y) (hbl : b < w.heap.size) (hn0 : 0 < n) (hn : n ≤ 40) (hin : ∀ i, i < n → inW (X i) (Y i) = true) (hw : 0 ≤ wi ∧ wi ≤ 3) (hz : zoomB z = true) :
    Calls Try.prog 56 #[.agg #[.int .i64 id, .int .i64 la, .int .i64 ki, .int .i64 wi, .slice (some ⟨b, 0, none⟩) n cap, .string lab, .int .i64 pr], .int .i64 z, .agg #[.int .i64 cx, .int .i64 cy]] w fun e w' => e = .returned (.bool (coverB ki wi z cx cy (dblL X Y n))) ∧ Below w.heap.size w w' := by
  have HP : Hid (PtsAt w b 0 n X Y) := hp
  have HIN : Hid (∀ i, i < n → inW (X i) (Y i) = true) := hin
  have HW : Hid (0 ≤ wi ∧ wi ≤ 3) := hw
  have hdl := dblL_len X Y n
  clear hp hin hw
  go_enter Try.func56, Try.ntmps56
  go_wp2_with fail
  generalize hW : ((w.alloc _).alloc _ : World) = W
  have hB0 : Below w.heap.size w W := by subst hW; (repeat (first | exact Below.refl _ _ | assumption | refine Below.drew ?_ | refine bl_alloc ?_ _ | refine bl_then ?_ (by assumption) | refine Below.setCell ?_ (by first | omega | (simp; done) | (simp; omega)) _ | refine bl_store ?_ ?_ _ _))
  have c0 : ∀ W', Below W.heap.size W W' → W'.cell? ⟨w.heap.size, 0, none⟩ = some (.int .i64 id) := fun W' h => by
    rw [h.cell (by subst hW; simp <;> omega)]; subst hW; simp [go_sem]
  have c1 : ∀ W', Below W.heap.size W W' → W'.cell? ⟨w.heap.size, 1, none⟩ = some (.int .i64 la) := fun W' h => by
    rw [h.cell (by subst hW; simp <;> omega)]; subst hW; simp [go_sem]
  have c2 : ∀ W', Below W.heap.size W W' → W'.cell? ⟨w.heap.size, 2, none⟩ = some (.int .i64 ki) := fun W' h => by
    rw [h.cell (by subst hW; simp <;> omega)]; subst hW; simp [go_sem]
  have c3 : ∀ W', Below W.heap.size W W' → W'.cell? ⟨w.heap.size, 3, none⟩ = some (.int .i64 wi) := fun W' h => by
    rw [h.cell (by subst hW; simp <;> omega)]; subst hW; simp [go_sem]
  have c4 : ∀ W', Below W.heap.size W W' → W'.cell? ⟨w.heap.size, 4, none⟩ = some (.slice (some ⟨b, 0, none⟩) n cap) := fun W' h => by
    rw [h.cell (by subst hW; simp <;> omega)]; subst hW; simp [go_sem]
  have c5 : ∀ W', Below W.heap.size W W' → W'.cell? ⟨w.heap.size, 5, none⟩ = some (.string lab) := fun W' h => by
    rw [h.cell (by subst hW; simp <;> omega)]; subst hW; simp [go_sem]
  have c6 : ∀ W', Below W.heap.size W W' → W'.cell? ⟨w.heap.size, 6, none⟩ = some (.int .i64 pr) := fun W' h => by
    rw [h.cell (by subst hW; simp <;> omega)]; subst hW; simp [go_sem]
  have d0 : ∀ W', Below W.heap.size W W' → W'.cell? ⟨w.heap.size + 1, 0, none⟩ = some (.int .i64 cx) := fun W' h => by
    rw [h.cell (by subst hW; simp <;> omega)]; subst hW; simp [go_sem]
  have d1 : ∀ W', Below W.heap.size W W' → W'.cell? ⟨w.heap.size + 1, 1, none⟩ = some (.int .i64 cy) := fun W' h => by
    rw [h.cell (by subst hW; simp <;> omega)]; subst hW; simp [go_sem]
  clear hW
  have HB0 : Hid (Below w.heap.size w W) := hB0
  have HPW : Hid (PtsAt W b 0 n X Y) := HP.out.below hB0 hbl
  have hblW : b < W.heap.size := Nat.lt_of_lt_of_le hbl hB0.size
  clear hB0 HP
  have hr0 : Below W.heap.size W W := Below.refl _ _
  by_cases hk : ki = 3
  · subst hk
    have HK : Hid (coverB 3 wi z cx cy (dblL X Y n) = insideB cx cy n (px (dblL X Y n)) (py (dblL X Y n))) := by show _ = _; simp [coverB, hdl]
    refine (coveringOf_area _).mono ?_
    rintro e w1 ⟨rfl, rfl⟩
    go_wp2_with fail
    go_region_held3 (fun W' => Below W.heap.size W W') ((repeat (first | exact Below.refl _ _ | assumption | refine Below.drew ?_ | refine bl_alloc ?_ _ | refine bl_then ?_ (by assumption) | refine Below.setCell ?_ (by first | omega | (simp; done) | (simp; omega)) _ | refine bl_store ?_ ?_ _ _)))
      (first
        | (go_at_call 86; refine (doubled_at b 0 n cap X Y _ (HPW.out.below (by assumption) hblW) (Nat.lt_of_lt_of_le hblW (Below.size (by assumption))) hn0 hn HIN.out).mono ?_; rintro e w2 ⟨g, cg, rfl, hgl, hcg, hPg, hb2⟩)
        | (go_at_call 52; refine (reachAt_any id la 3 wi z _ lab pr _ HW.out hz ⟨_, _, _, rfl⟩).mono ?_; rintro e w3 ⟨rfl, hb3⟩)
        | (go_at_call 111; refine (isInArea_any _ _ _ g n cg _ _ _ (hPg.below hb3 hgl) (Nat.lt_of_lt_of_le hgl hb3.size) (by omega) hcg).mono ?_; rintro e w4 ⟨rfl, hb4⟩))
    go_wp2
    go_ret
    exact ⟨ret_bool HK.out.symm, bl_then HB0.out (by assumption)⟩
  · have HK : Hid (coverB ki wi z cx cy (dblL X Y n) = byB cx cy (reachI wi z) (px (dblL X Y n)) (py (dblL X Y n)) n) := by show _ = _; simp [coverB, hdl, hk]
    refine (coveringOf_line _ _ hk).mono ?_
    rintro e w1 ⟨rfl, rfl⟩
    go_wp2_with fail
    go_region_held3 (fun W' => Below W.heap.size W W') ((repeat (first | exact Below.refl _ _ | assumption | refine Below.drew ?_ | refine bl_alloc ?_ _ | refine bl_then ?_ (by assumption) | refine Below.setCell ?_ (by first | omega | (simp; done) | (simp; omega)) _ | refine bl_store ?_ ?_ _ _)))
      (first
        | (go_at_call 86; refine (doubled_at b 0 n cap X Y _ (HPW.out.below (by assumption) hblW) (Nat.lt_of_lt_of_le hblW (Below.size (by assumption))) hn0 hn HIN.out).mono ?_; rintro e w2 ⟨g, cg, rfl, hgl, hcg, hPg, hb2⟩)
        | (go_at_call 52; refine (reachAt_any id la ki wi z _ lab pr _ HW.out hz ⟨_, _, _, rfl⟩).mono ?_; rintro e w3 ⟨rfl, hb3⟩)
        | (go_at_call 112; refine (isByLine_any _ _ _ g n cg _ _ _ (hPg.below hb3 hgl) (Nat.lt_of_lt_of_le hgl hb3.size) hn0 (by omega) hcg).mono ?_; rintro e w4 ⟨rfl, hb4⟩))
    go_wp2
    go_ret
    exact ⟨ret_bool HK.out.symm, bl_then HB0.out (by assumption)⟩
end Go.Proofs.Ytjnglencgkhhaab
