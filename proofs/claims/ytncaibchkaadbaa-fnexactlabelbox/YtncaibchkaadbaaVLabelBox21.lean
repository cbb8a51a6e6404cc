/- Several texts in one. -/
import Derived.Test.YtncaibchkaadbaaVLabelBox5
import Derived.Test.YtncaibchkaadbaaVLabelBox20
import Derived.Test.YtncaibchkaadbaaVLabelBox18

/- The model's SnapAll. -/

namespace Go.Proofs.Ytncaibchkaadbaa
open Go.RowKit
set_option linter.unusedSimpArgs false
set_option linter.unusedVariables false

/-- All points are in the world. -/
def allIn (n : Nat) (X Y : Nat → Int) : Bool := decide (∀ i, i < n → inW (X i) (Y i) = true)
/-- The code of SnapAll. -/
def snapC (z : Int) (n : Nat) (X Y : Nat → Int) : Int := if zoomB z = true then (if n ≤ 12 then (if allIn n X Y = true then 0 else 3) else 2) else 3
/-- The points that SnapAll answers. -/
def snapR (z : Int) (n : Nat) (X Y : Nat → Int) : List (Int × Int) := if snapC z n X Y = 0 then snapL X Y z n else []
theorem snapR_no {z : Int} {n : Nat} {X Y : Nat → Int} (h : snapC z n X Y ≠ 0) : snapR z n X Y = [] := by simp [snapR, h]
theorem allIn_no {n : Nat} {X Y : Nat → Int} {k : Nat} (hk : k < n) (h : inW (X k) (Y k) = false) : allIn n X Y = false := by
  unfold allIn
  rw [decide_eq_false_iff_not]
  intro hc
  have := hc k hk
  rw [h] at this
  cases this
theorem allIn_ok {n : Nat} {X Y : Nat → Int} (h : ∀ i, i < n → inW (X i) (Y i) = true) : allIn n X Y = true := decide_eq_true h

/-- A row is as it was, with another base, where another block was written. -/
theorem Row.set2 {base B r : Nat} {w : World} {v : Value} {l : List (Int × Int)} {x y : Value} (h : Row base w v l) (hB : B ≤ base ∧ r < base) : Row B ((w.setCell ⟨r, 0, none⟩ x).setCell ⟨r, 1, none⟩ y) v l := by
  obtain ⟨h1, h2 | ⟨g, cp, cur, hv, hg, hh, hr⟩⟩ := h
  · exact ⟨h1, .inl h2⟩
  · refine ⟨h1, .inr ⟨g, cp, cur, hv, by omega, ?_, hr⟩⟩
    rw [Below.heap_setCell _ _ _ _ (by simp; omega), Below.heap_setCell _ _ _ _ (by simp; omega)]
    exact hh

end Go.Proofs.Ytncaibchkaadbaa
/- The program's ThinLine. -/

namespace Go.Proofs.Ytncaibchkaadbaa
open Go.RowKit
set_option linter.unusedSimpArgs false
set_option linter.unusedVariables false

/-- The code of ThinLine. -/
def thinC (r : Int) (n : Nat) (X Y : Nat → Int) : Int := if inB r 0 4096 = true then (if n ≤ 40 then codeN n X Y else 2) else 3
/-- The places that stay. -/
def thinP (n : Nat) (L : List Nat) : List Nat := if n < 3 then List.range n else L ++ [n - 1]
/-- The points that ThinLine answers. -/
def thinR (r : Int) (n : Nat) (X Y : Nat → Int) (L : List Nat) : List (Int × Int) := if thinC r n X Y = 0 then ptsOf X Y (thinP n L) else []
theorem thinR_no {r : Int} {n : Nat} {X Y : Nat → Int} {L : List Nat} (h : thinC r n X Y ≠ 0) : thinR r n X Y L = [] := by simp [thinR, h]
theorem pts_cells {w : World} {b n : Nat} {X Y : Nat → Int} (h : PtsAt w b 0 n X Y) : ∀ j u, (cellsL (ptsOf X Y (List.range n)))[j]? = some u → w.cell? ⟨b, j, none⟩ = some u := fun j u hu => by
  have hlen : (ptsOf X Y (List.range n)).length = n := by simp [ptsOf]
  have hj : j < n * 2 := by
    have := (List.getElem?_eq_some_iff.1 hu).1
    rw [cellsL_len, hlen] at this
    exact this
  have hi : j / 2 < n := by omega
  obtain ⟨e1, e2⟩ := cellsL_at (ptsOf X Y (List.range n)) (j / 2) (by rw [hlen]; exact hi)
  obtain ⟨c1, c2⟩ := h (j / 2) hi
  have ex : px (ptsOf X Y (List.range n)) (j / 2) = X (j / 2) := by simp [px, ptsOf, List.getD_eq_getElem?_getD, hi]
  have ey : py (ptsOf X Y (List.range n)) (j / 2) = Y (j / 2) := by simp [py, ptsOf, List.getD_eq_getElem?_getD, hi]
  rw [ex] at e1
  rw [ey] at e2
  simp only [Nat.zero_add] at c1 c2
  rcases Nat.mod_two_eq_zero_or_one j with hm | hm
  · have e : j / 2 * 2 = j := by omega
    rw [e] at e1 c1
    rw [e1] at hu
    rw [c1]
    exact hu
  · have e : j / 2 * 2 + 1 = j := by omega
    rw [e] at e2 c2
    rw [e2] at hu
    rw [c2]
    exact hu

set_option maxRecDepth 8000 in
set_option maxHeartbeats 4000000 in
theorem impl_ThinLine_any (b n cap : Nat) (X Y : Nat → Int) (r : Int) (L : List Nat) (w : World) (hp : PtsAt w b 0 n X Y) (hbl : b < w.heap.size) (hn : n ≤ 1048576) (hcap : n ≤ cap) (hL : 3 ≤ n → Thin X Y r 0 (n - 1) L) :
    Calls Try.prog 45 #[.slice (some ⟨b, 0, none⟩) n cap, .int .i64 r] w fun e w' => ∃ v, e = .returned (.agg #[.int .i64 (thinC r n X Y), v]) ∧ Row w.heap.size w' v (thinR r n X Y L) ∧ Below w.heap.size w w' := by
  obtain ⟨i0, hi, hz0, hz1, hz2⟩ := info_parts (show (Try.prog.info? 27).map (fun i => (i.zero, i.size, i.bytes)) = some (some (.agg #[.int .i64 0, .int .i64 0]), 2, 16) by kernel_rfl)
  have HP : Hid (PtsAt w b 0 n X Y) := hp
  have HL : Hid (3 ≤ n → Thin X Y r 0 (n - 1) L) := hL
  clear hp hL
  go_enter Try.func45, Try.ntmps45
  go_wp2_with fail
  generalize hW : (w.alloc _ : World) = W
  have HB0 : Hid (Below w.heap.size w W) := by show Below _ _ _; subst hW; (repeat (first | exact Below.refl _ _ | assumption | refine Below.drew ?_ | refine bl_alloc ?_ _ | refine bl_then ?_ (by assumption) | refine Below.setCell ?_ (by first | omega | (simp; done) | (simp; omega)) _ | refine bl_store ?_ ?_ _ _))
  have HT : Hid (There W w.heap.size 2) := by
    show There _ _ _
    subst hW
    exact there2 w (.int .i64 0) (.slice none 0 0) 74
  have hsz : w.heap.size < W.heap.size := by subst hW; simp
  clear hW
  have hr : Below W.heap.size W W := Below.refl _ _
  refine (isWithin_any _ _ _ _).mono ?_
  rintro e w' ⟨rfl, hw⟩
  have hw2 := hw.symm
  subst hw2
  clear hw
  cases h : inB r 0 4096
  · have hc : thinC r n X Y = 3 := by simp [thinC, h]
    have hT' := HT.out
    have t0 := hT'.cell 0 (by omega)
    have t1 := hT'.cell 1 (by omega)
    have f0 := (hT' 0 (by omega)).2
    have f1 := (hT' 1 (by omega)).2
    clear hT'
    go_wp2_with fail
    refine bodyPost_ret (v := .agg #[.int .i64 3, .slice none 0 0]) (by simp [results, Try.results45, go_sem, set2_0 (Option.isSome_iff_exists.2 ⟨_, t0⟩), set2_1 (Option.isSome_iff_exists.2 ⟨_, t1⟩)]) rfl ⟨.slice none 0 0, by rw [hc], by rw [thinR_no (by rw [hc]; decide)]; exact Row.no _ _, ?_⟩
    have HB1 := HB0.out
    (repeat (first | exact Below.refl _ _ | assumption | refine Below.drew ?_ | refine bl_alloc ?_ _ | refine bl_then ?_ (by assumption) | refine Below.setCell ?_ (by first | omega | (simp; done) | (simp; omega)) _ | refine bl_store ?_ ?_ _ _))
  · by_cases h40 : 40 < n
    · have hc : thinC r n X Y = 2 := by simp [thinC, h]; omega
      have hT' := HT.out
      have t0 := hT'.cell 0 (by omega)
      have t1 := hT'.cell 1 (by omega)
      have f0 := (hT' 0 (by omega)).2
      have f1 := (hT' 1 (by omega)).2
      have hni : (40 : Int) < (n : Int) := by omega
      clear hT'
      go_wp2_with fail
      refine bodyPost_ret (v := .agg #[.int .i64 2, .slice none 0 0]) (by simp [results, Try.results45, go_sem, set2_0 (Option.isSome_iff_exists.2 ⟨_, t0⟩), set2_1 (Option.isSome_iff_exists.2 ⟨_, t1⟩)]) rfl ⟨.slice none 0 0, by rw [hc], by rw [thinR_no (by rw [hc]; decide)]; exact Row.no _ _, ?_⟩
      have HB1 := HB0.out
      (repeat (first | exact Below.refl _ _ | assumption | refine Below.drew ?_ | refine bl_alloc ?_ _ | refine bl_then ?_ (by assumption) | refine Below.setCell ?_ (by first | omega | (simp; done) | (simp; omega)) _ | refine bl_store ?_ ?_ _ _))
    · have hni : ¬ (40 : Int) < (n : Int) := by omega
      have hrb : 0 ≤ r ∧ r ≤ 4096 := by simp [inB] at h; exact h
      have Hrb : Hid (0 ≤ r ∧ r ≤ 4096) := hrb
      clear hrb
      go_wp2_with fail
      refine (faultIn_any b 0 n cap X Y W (HP.out.below HB0.out hbl) (Nat.lt_of_lt_of_le hbl HB0.out.size) hcap hn).mono ?_
      rintro e w1 ⟨rfl, hb1⟩
      have HB1 : Hid (Below w.heap.size w w1) := bl_then HB0.out hb1
      have hT' := HT.out.below hb1
      have t0 := hT'.cell 0 (by omega)
      have t1 := hT'.cell 1 (by omega)
      have f0 := (hT' 0 (by omega)).2
      have f1 := (hT' 1 (by omega)).2
      have hsz1 := hb1.size
      have HT1 : Hid (There w1 w.heap.size 2) := hT'
      clear hT' hb1
      cases ha : allOk n X Y
      · have hcn : codeN n X Y = 3 := by simp [codeN, ha]
        have hc : thinC r n X Y = 3 := by simp [thinC, h, hcn]; omega
        rw [hcn]
        clear hcn
        go_wp2_with fail
        refine bodyPost_ret (v := .agg #[.int .i64 3, .slice none 0 0]) (by simp [results, Try.results45, go_sem, set2_0 (Option.isSome_iff_exists.2 ⟨_, t0⟩), set2_1 (Option.isSome_iff_exists.2 ⟨_, t1⟩)]) rfl ⟨.slice none 0 0, by rw [hc], by rw [thinR_no (by rw [hc]; decide)]; exact Row.no _ _, ?_⟩
        have HB2 := HB1.out
        (repeat (first | exact Below.refl _ _ | assumption | refine Below.drew ?_ | refine bl_alloc ?_ _ | refine bl_then ?_ (by assumption) | refine Below.setCell ?_ (by first | omega | (simp; done) | (simp; omega)) _ | refine bl_store ?_ ?_ _ _))
      · have hcn : codeN n X Y = 0 := by simp [codeN, ha]
        have hc : thinC r n X Y = 0 := by simp [thinC, h, hcn]; omega
        have hall : ∀ i, i < n → okP (X i) (Y i) = true := of_decide_eq_true ha
        have HALL : Hid (∀ i, i < n → okP (X i) (Y i) = true) := hall
        have HC : Hid (thinC r n X Y = 0) := hc
        have HRR : Hid (thinR r n X Y L = ptsOf X Y (thinP n L)) := by show _ = _; simp [thinR, hc]
        rw [hcn]
        clear hcn hc hall
        by_cases h3 : n < 3
        · have h3i : (n : Int) < 3 := by omega
          have hpp : thinP n L = List.range n := by simp [thinP, h3]
          have HPP : Hid (thinP n L = List.range n) := hpp
          clear hpp
          have HP1 : Hid (PtsAt w1 b 0 n X Y) := HP.out.below HB1.out hbl
          have hlen : (ptsOf X Y (List.range n)).length = n := by simp [ptsOf]
          have HLEN : Hid ((ptsOf X Y (List.range n)).length = n) := hlen
          clear hlen
          go_wp2_with (first
            | (at_builtin; go_must (refine wpList_append_own _ rfl _ _ 31 rfl w1.heap.size 27 i0 (.agg #[.int .i64 0, .int .i64 0]) 2 16 Try.underlying31 hi hz0 hz1 hz2 rfl (by decide) (.slice none 0 0) 0 [] rfl (World.ownsRow_nil _ _ _ _) ⟨b, 0, none⟩ n cap (cellsL (ptsOf X Y (List.range n))) rfl ?c0 ?c1 ?c2 ?c3 ?c4 ?c5 ?_)))
          case c0 => rw [cellsL_len, HLEN.out]
          case c1 =>
            intro q u hq
            have := pts_cells HP1.out q u hq
            by_cases hq0 : q = 0
            · subst hq0; simpa [Addr.add] using this
            · simpa [Addr.add, hq0] using this
          case c2 =>
            intro u hu
            unfold cellsL at hu
            rw [List.mem_flatMap] at hu
            obtain ⟨p, _, hp⟩ := hu
            simp at hp
            rcases hp with rfl | rfl <;> rfl
          case c3 => unfold maxLen; omega
          case c4 => omega
          case c5 => first | omega | (simp; omega)
          intro v' w2 hown' hgrow hnil
          clear hnil
          have hR : Row w1.heap.size w2 v' (ptsOf X Y (List.range n)) := by
            show World.ownsRow _ _ _ _ _ _ _
            rw [HLEN.out]
            simpa using hown'
          have hb2 : Below w1.heap.size w1 w2 := (Below.refl _ _).grown hgrow (Nat.le_refl _) (fun k hk => by cases hk)
          obtain ⟨av, cv, hv, _, _⟩ := hR.own
          have HR : Hid (Row w1.heap.size w2 v' (ptsOf X Y (List.range n))) := hR
          have HB2 : Hid (Below w.heap.size w w2) := bl_then HB1.out hb2
          have hT' := HT1.out.below hb2
          have u0 := hT'.cell 0 (by omega)
          have u1 := hT'.cell 1 (by omega)
          have g0 := (hT' 0 (by omega)).2
          have g1 := (hT' 1 (by omega)).2
          have hsz2 := hb2.size
          clear hT' hb2 hR t0 t1 f0 f1 hown' hgrow
          generalize (ptsOf X Y (List.range n)).length = lv at hv
          subst hv
          go_wp2_with fail
          refine bodyPost_ret (v := .agg #[.int .i64 0, .slice av lv cv]) (by simp [results, Try.results45, go_sem, set2_0 (Option.isSome_iff_exists.2 ⟨_, u0⟩), set2_1 (Option.isSome_iff_exists.2 ⟨_, u1⟩)]) rfl ⟨_, by rw [HC.out], ?_, ?_⟩
          · rw [HRR.out, HPP.out]
            exact Row.set2 HR.out (by omega)
          · have HB3 := HB2.out
            (repeat (first | exact Below.refl _ _ | assumption | refine Below.drew ?_ | refine bl_alloc ?_ _ | refine bl_then ?_ (by assumption) | refine Below.setCell ?_ (by first | omega | (simp; done) | (simp; omega)) _ | refine bl_store ?_ ?_ _ _))
        · have h3i : ¬ (n : Int) < 3 := by omega
          have hpp : thinP n L = L ++ [n - 1] := by simp [thinP, h3]
          have HPP : Hid (thinP n L = L ++ [n - 1]) := hpp
          clear hpp
          go_wp2_with fail
          refine (thinned_any b n cap X Y r L w1 (HP.out.below HB1.out hbl) (Nat.lt_of_lt_of_le hbl HB1.out.size) (by omega) (by omega) hcap HALL.out Hrb.out.1 Hrb.out.2 (HL.out (by omega))).mono ?_
          rintro e w2 ⟨v, rfl, hR, hb2⟩
          obtain ⟨av, cv, hv, _, _⟩ := hR.own
          have HR : Hid (Row w1.heap.size w2 v (ptsOf X Y (L ++ [n - 1]))) := hR
          have HB2 : Hid (Below w.heap.size w w2) := bl_then HB1.out hb2
          have hT' := HT1.out.below hb2
          have u0 := hT'.cell 0 (by omega)
          have u1 := hT'.cell 1 (by omega)
          have g0 := (hT' 0 (by omega)).2
          have g1 := (hT' 1 (by omega)).2
          have hsz2 := hb2.size
          clear hT' hb2 hR t0 t1 f0 f1
          generalize (ptsOf X Y (L ++ [n - 1])).length = lv at hv
          subst hv
          go_wp2_with fail
          refine bodyPost_ret (v := .agg #[.int .i64 0, .slice av lv cv]) (by simp [results, Try.results45, go_sem, set2_0 (Option.isSome_iff_exists.2 ⟨_, u0⟩), set2_1 (Option.isSome_iff_exists.2 ⟨_, u1⟩)]) rfl ⟨_, by rw [HC.out], ?_, ?_⟩
          · rw [HRR.out, HPP.out]
            exact Row.set2 HR.out (by omega)
          · have HB3 := HB2.out
            (repeat (first | exact Below.refl _ _ | assumption | refine Below.drew ?_ | refine bl_alloc ?_ _ | refine bl_then ?_ (by assumption) | refine Below.setCell ?_ (by first | omega | (simp; done) | (simp; omega)) _ | refine bl_store ?_ ?_ _ _))
end Go.Proofs.Ytncaibchkaadbaa
