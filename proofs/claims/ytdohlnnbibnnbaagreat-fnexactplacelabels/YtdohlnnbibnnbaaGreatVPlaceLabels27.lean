/- Several texts in one. -/
import Derived.Test.YtdohlnnbibnnbaaGreatVPlaceLabels25
import Derived.Test.YtdohlnnbibnnbaaGreatVPlaceLabels26
import Derived.Test.YtdohlnnbibnnbaaGreatVPlaceLabels10
import Derived.Shelf.Pu.Clone

/- The program's ThinLine. -/

namespace Go.Proofs.YtdohlnnbibnnbaaGreat
open Go.RowKit
set_option linter.unusedSimpArgs false
set_option linter.unusedVariables false

/-- The code of ThinLine. -/
def thinC (r : Int) (n : Nat) (X Y : Nat → Int) : Int := if inB r 0 4096 = true then (if n ≤ 40 then codeN n X Y else 2) else 3
/-- The places that stay. -/
def thinP (n : Nat) (L : List Nat) : List Nat := if n < 3 then List.range n else L ++ [n - 1]
/-- The points that ThinLine answers. -/
def thinR (r : Int) (n : Nat) (X Y : Nat → Int) (L : List Nat) : List (Int × Int) := if thinC r n X Y = 0 then ptsOf X Y (thinP n L) else []
theorem thinR_no {r : Int} {n : Nat} {X Y : Nat → Int} {L : List Nat} (h : thinC r n X Y ≠ 0) : thinR r n X Y L = [] := by simp [thinR, h]
theorem pts_cells {w : World} {b n : Nat} {X Y : Nat → Int} (h : PtsAt w b 0 n X Y) : ∀ j u, (cellsL (ptsOf X Y (List.range n)))[j]? = some u → w.cell? ⟨b, j, none⟩ = some u := fun j u hu => by
  have hlen : (ptsOf X Y (List.range n)).length = n := by simp [ptsOf]
  have hj : j < n * 2 := by
    have := (List.getElem?_eq_some_iff.1 hu).1
    rw [cellsL_len, hlen] at this
    exact this
  have hi : j / 2 < n := by omega
  obtain ⟨e1, e2⟩ := cellsL_at (ptsOf X Y (List.range n)) (j / 2) (by rw [hlen]; exact hi)
  obtain ⟨c1, c2⟩ := h (j / 2) hi
  have ex : px (ptsOf X Y (List.range n)) (j / 2) = X (j / 2) := by simp [px, ptsOf, List.getD_eq_getElem?_getD, hi]
  have ey : py (ptsOf X Y (List.range n)) (j / 2) = Y (j / 2) := by simp [py, ptsOf, List.getD_eq_getElem?_getD, hi]
  rw [ex] at e1
  rw [ey] at e2
  simp only [Nat.zero_add] at c1 c2
  rcases Nat.mod_two_eq_zero_or_one j with hm | hm
  · have e : j / 2 * 2 = j := by omega
    rw [e] at e1 c1
    rw [e1] at hu
    rw [c1]
    exact hu
  · have e : j / 2 * 2 + 1 = j := by omega
    rw [e] at e2 c2
    rw [e2] at hu
    rw [c2]
    exact hu

set_option maxRecDepth 8000 in
set_option maxHeartbeats 4000000 in
theorem impl_ThinLine_any (b n cap : Nat) (X Y : Nat → Int) (r : Int) (L : List Nat) (w : World) (hp : PtsAt w b 0 n X Y) (hbl : b < w.heap.size) (hn : n ≤ 1048576) (hcap : n ≤ cap) (hL : 3 ≤ n → Thin X Y r 0 (n - 1) L) :
    Calls Tryz.prog 61 #[.slice (some ⟨b, 0, none⟩) n cap, .int .i64 r] w fun e w' => ∃ v, e = .returned (.agg #[.int .i64 (thinC r n X Y), v]) ∧ Row w.heap.size w' v (thinR r n X Y L) ∧ Below w.heap.size w w' := by
  obtain ⟨i0, hi, hz0, hz1, hz2⟩ := info_parts (show (Tryz.prog.info? 111).map (fun i => (i.zero, i.size, i.bytes)) = some (some (.agg #[.int .i64 0, .int .i64 0]), 2, 16) by kernel_rfl)
  have HP : Hid (PtsAt w b 0 n X Y) := hp
  have HL : Hid (3 ≤ n → Thin X Y r 0 (n - 1) L) := hL
  clear hp hL
  go_enter Tryz.func61, Tryz.ntmps61
  go_wp2_with fail
  generalize hW : (w.alloc _ : World) = W
  have HB0 : Hid (Below w.heap.size w W) := by show Below _ _ _; subst hW; (repeat (first | exact Below.refl _ _ | assumption | refine Below.drew ?_ | refine bl_alloc ?_ _ | refine bl_then ?_ (by assumption) | refine Below.setCell ?_ (by first | omega | (simp; done) | (simp; omega)) _ | refine bl_store ?_ ?_ _ _))
  have HT : Hid (There W w.heap.size 2) := by
    show There _ _ _
    subst hW
    exact there2 w (.int .i64 0) (.slice none 0 0) 99
  have hsz : w.heap.size < W.heap.size := by subst hW; simp
  clear hW
  have hr : Below W.heap.size W W := Below.refl _ _
  refine (isWithin_any _ _ _ _).mono ?_
  rintro e w' ⟨rfl, hw⟩
  have hw2 := hw.symm
  subst hw2
  clear hw
  cases h : inB r 0 4096
  · have hc : thinC r n X Y = 3 := by simp [thinC, h]
    have hT' := HT.out
    have t0 := hT'.cell 0 (by omega)
    have t1 := hT'.cell 1 (by omega)
    have f0 := (hT' 0 (by omega)).2
    have f1 := (hT' 1 (by omega)).2
    clear hT'
    go_wp2_with fail
    refine bodyPost_ret (v := .agg #[.int .i64 3, .slice none 0 0]) (by simp [results, Tryz.results61, go_sem, set2_0 (Option.isSome_iff_exists.2 ⟨_, t0⟩), set2_1 (Option.isSome_iff_exists.2 ⟨_, t1⟩)]) rfl ⟨.slice none 0 0, by rw [hc], by rw [thinR_no (by rw [hc]; decide)]; exact Row.no _ _, ?_⟩
    have HB1 := HB0.out
    (repeat (first | exact Below.refl _ _ | assumption | refine Below.drew ?_ | refine bl_alloc ?_ _ | refine bl_then ?_ (by assumption) | refine Below.setCell ?_ (by first | omega | (simp; done) | (simp; omega)) _ | refine bl_store ?_ ?_ _ _))
  · by_cases h40 : 40 < n
    · have hc : thinC r n X Y = 2 := by simp [thinC, h]; omega
      have hT' := HT.out
      have t0 := hT'.cell 0 (by omega)
      have t1 := hT'.cell 1 (by omega)
      have f0 := (hT' 0 (by omega)).2
      have f1 := (hT' 1 (by omega)).2
      have hni : (40 : Int) < (n : Int) := by omega
      clear hT'
      go_wp2_with fail
      refine bodyPost_ret (v := .agg #[.int .i64 2, .slice none 0 0]) (by simp [results, Tryz.results61, go_sem, set2_0 (Option.isSome_iff_exists.2 ⟨_, t0⟩), set2_1 (Option.isSome_iff_exists.2 ⟨_, t1⟩)]) rfl ⟨.slice none 0 0, by rw [hc], by rw [thinR_no (by rw [hc]; decide)]; exact Row.no _ _, ?_⟩
      have HB1 := HB0.out
      (repeat (first | exact Below.refl _ _ | assumption | refine Below.drew ?_ | refine bl_alloc ?_ _ | refine bl_then ?_ (by assumption) | refine Below.setCell ?_ (by first | omega | (simp; done) | (simp; omega)) _ | refine bl_store ?_ ?_ _ _))
    · have hni : ¬ (40 : Int) < (n : Int) := by omega
      have hrb : 0 ≤ r ∧ r ≤ 4096 := by simp [inB] at h; exact h
      have Hrb : Hid (0 ≤ r ∧ r ≤ 4096) := hrb
      clear hrb
      go_wp2_with fail
      refine (faultIn_any b 0 n cap X Y W (HP.out.below HB0.out hbl) (Nat.lt_of_lt_of_le hbl HB0.out.size) hcap hn).mono ?_
      rintro e w1 ⟨rfl, hb1⟩
      have HB1 : Hid (Below w.heap.size w w1) := bl_then HB0.out hb1
      have hT' := HT.out.below hb1
      have t0 := hT'.cell 0 (by omega)
      have t1 := hT'.cell 1 (by omega)
      have f0 := (hT' 0 (by omega)).2
      have f1 := (hT' 1 (by omega)).2
      have hsz1 := hb1.size
      have HT1 : Hid (There w1 w.heap.size 2) := hT'
      clear hT' hb1
      cases ha : allOk n X Y
      · have hcn : codeN n X Y = 3 := by simp [codeN, ha]
        have hc : thinC r n X Y = 3 := by simp [thinC, h, hcn]; omega
        rw [hcn]
        clear hcn
        go_wp2_with fail
        refine bodyPost_ret (v := .agg #[.int .i64 3, .slice none 0 0]) (by simp [results, Tryz.results61, go_sem, set2_0 (Option.isSome_iff_exists.2 ⟨_, t0⟩), set2_1 (Option.isSome_iff_exists.2 ⟨_, t1⟩)]) rfl ⟨.slice none 0 0, by rw [hc], by rw [thinR_no (by rw [hc]; decide)]; exact Row.no _ _, ?_⟩
        have HB2 := HB1.out
        (repeat (first | exact Below.refl _ _ | assumption | refine Below.drew ?_ | refine bl_alloc ?_ _ | refine bl_then ?_ (by assumption) | refine Below.setCell ?_ (by first | omega | (simp; done) | (simp; omega)) _ | refine bl_store ?_ ?_ _ _))
      · have hcn : codeN n X Y = 0 := by simp [codeN, ha]
        have hc : thinC r n X Y = 0 := by simp [thinC, h, hcn]; omega
        have hall : ∀ i, i < n → okP (X i) (Y i) = true := of_decide_eq_true ha
        have HALL : Hid (∀ i, i < n → okP (X i) (Y i) = true) := hall
        have HC : Hid (thinC r n X Y = 0) := hc
        have HRR : Hid (thinR r n X Y L = ptsOf X Y (thinP n L)) := by show _ = _; simp [thinR, hc]
        rw [hcn]
        clear hcn hc hall
        by_cases h3 : n < 3
        · have h3i : (n : Int) < 3 := by omega
          have hpp : thinP n L = List.range n := by simp [thinP, h3]
          have HPP : Hid (thinP n L = List.range n) := hpp
          clear hpp
          have HP1 : Hid (PtsAt w1 b 0 n X Y) := HP.out.below HB1.out hbl
          have hlen : (ptsOf X Y (List.range n)).length = n := by simp [ptsOf]
          have HLEN : Hid ((ptsOf X Y (List.range n)).length = n) := hlen
          clear hlen
          go_wp2_with (first
            | (at_builtin; go_must (refine wpList_append_own _ rfl _ _ 34 rfl w1.heap.size 111 i0 (.agg #[.int .i64 0, .int .i64 0]) 2 16 Tryz.underlying34 hi hz0 hz1 hz2 rfl (by decide) (.slice none 0 0) 0 [] rfl (World.ownsRow_nil _ _ _ _) ⟨b, 0, none⟩ n cap (cellsL (ptsOf X Y (List.range n))) rfl ?c0 ?c1 ?c2 ?c3 ?c4 ?c5 ?_)))
          case c0 => rw [cellsL_len, HLEN.out]
          case c1 =>
            intro q u hq
            have := pts_cells HP1.out q u hq
            by_cases hq0 : q = 0
            · subst hq0; simpa [Addr.add] using this
            · simpa [Addr.add, hq0] using this
          case c2 =>
            intro u hu
            unfold cellsL at hu
            rw [List.mem_flatMap] at hu
            obtain ⟨p, _, hp⟩ := hu
            simp at hp
            rcases hp with rfl | rfl <;> rfl
          case c3 => unfold maxLen; omega
          case c4 => omega
          case c5 => first | omega | (simp; omega)
          intro v' w2 hown' hgrow hnil
          clear hnil
          have hR : Row w1.heap.size w2 v' (ptsOf X Y (List.range n)) := by
            show World.ownsRow _ _ _ _ _ _ _
            rw [HLEN.out]
            simpa using hown'
          have hb2 : Below w1.heap.size w1 w2 := (Below.refl _ _).grown hgrow (Nat.le_refl _) (fun k hk => by cases hk)
          obtain ⟨av, cv, hv, _, _⟩ := hR.own
          have HR : Hid (Row w1.heap.size w2 v' (ptsOf X Y (List.range n))) := hR
          have HB2 : Hid (Below w.heap.size w w2) := bl_then HB1.out hb2
          have hT' := HT1.out.below hb2
          have u0 := hT'.cell 0 (by omega)
          have u1 := hT'.cell 1 (by omega)
          have g0 := (hT' 0 (by omega)).2
          have g1 := (hT' 1 (by omega)).2
          have hsz2 := hb2.size
          clear hT' hb2 hR t0 t1 f0 f1 hown' hgrow
          generalize (ptsOf X Y (List.range n)).length = lv at hv
          subst hv
          go_wp2_with fail
          refine bodyPost_ret (v := .agg #[.int .i64 0, .slice av lv cv]) (by simp [results, Tryz.results61, go_sem, set2_0 (Option.isSome_iff_exists.2 ⟨_, u0⟩), set2_1 (Option.isSome_iff_exists.2 ⟨_, u1⟩)]) rfl ⟨_, by rw [HC.out], ?_, ?_⟩
          · rw [HRR.out, HPP.out]
            exact Row.set2 HR.out (by omega)
          · have HB3 := HB2.out
            (repeat (first | exact Below.refl _ _ | assumption | refine Below.drew ?_ | refine bl_alloc ?_ _ | refine bl_then ?_ (by assumption) | refine Below.setCell ?_ (by first | omega | (simp; done) | (simp; omega)) _ | refine bl_store ?_ ?_ _ _))
        · have h3i : ¬ (n : Int) < 3 := by omega
          have hpp : thinP n L = L ++ [n - 1] := by simp [thinP, h3]
          have HPP : Hid (thinP n L = L ++ [n - 1]) := hpp
          clear hpp
          go_wp2_with fail
          refine (thinned_any b n cap X Y r L w1 (HP.out.below HB1.out hbl) (Nat.lt_of_lt_of_le hbl HB1.out.size) (by omega) (by omega) hcap HALL.out Hrb.out.1 Hrb.out.2 (HL.out (by omega))).mono ?_
          rintro e w2 ⟨v, rfl, hR, hb2⟩
          obtain ⟨av, cv, hv, _, _⟩ := hR.own
          have HR : Hid (Row w1.heap.size w2 v (ptsOf X Y (L ++ [n - 1]))) := hR
          have HB2 : Hid (Below w.heap.size w w2) := bl_then HB1.out hb2
          have hT' := HT1.out.below hb2
          have u0 := hT'.cell 0 (by omega)
          have u1 := hT'.cell 1 (by omega)
          have g0 := (hT' 0 (by omega)).2
          have g1 := (hT' 1 (by omega)).2
          have hsz2 := hb2.size
          clear hT' hb2 hR t0 t1 f0 f1
          generalize (ptsOf X Y (L ++ [n - 1])).length = lv at hv
          subst hv
          go_wp2_with fail
          refine bodyPost_ret (v := .agg #[.int .i64 0, .slice av lv cv]) (by simp [results, Tryz.results61, go_sem, set2_0 (Option.isSome_iff_exists.2 ⟨_, u0⟩), set2_1 (Option.isSome_iff_exists.2 ⟨_, u1⟩)]) rfl ⟨_, by rw [HC.out], ?_, ?_⟩
          · rw [HRR.out, HPP.out]
            exact Row.set2 HR.out (by omega)
          · have HB3 := HB2.out
            (repeat (first | exact Below.refl _ _ | assumption | refine Below.drew ?_ | refine bl_alloc ?_ _ | refine bl_then ?_ (by assumption) | refine Below.setCell ?_ (by first | omega | (simp; done) | (simp; omega)) _ | refine bl_store ?_ ?_ _ _))
end Go.Proofs.YtdohlnnbibnnbaaGreat
/- Strings and lists of points are cloned. -/

namespace Go.Proofs.YtdohlnnbibnnbaaGreat
open Go.RowKit
set_option linter.unusedSimpArgs false
set_option linter.unusedVariables false

set_option maxRecDepth 8000 in
set_option maxHeartbeats 1000000 in
theorem slicesClone_any {off : Nat} (b n cap : Nat) (X Y : Nat → Int) (w : World) (hp : PtsAt w b off n X Y) (hbl : b < w.heap.size) (hn : n ≤ 1048576) :
    Calls Tryz.prog 103 #[.slice (some ⟨b, off, none⟩) n cap] w fun e w' => ∃ a c, e = .returned (.slice a n c) ∧ Below w.heap.size w w' := by
  obtain ⟨i0, hi, hz0, hz1, hz2⟩ := info_parts (show (Tryz.prog.info? 111).map (fun i => (i.zero, i.size, i.bytes)) = some (some (.agg #[.int .i64 0, .int .i64 0]), 2, 16) by kernel_rfl)
  have HP : Hid (PtsAt w b off n X Y) := hp
  have HLEN : Hid ((ptsOf X Y (List.range n)).length = n) := by show _ = _; simp [ptsOf]
  clear hp
  have hnl : ∀ w, Sem.run Tryz.prog (binOp BinOp.eql 34 (.slice (some ⟨b, off, none⟩) n cap) (.slice none 0 0)) w = .ok (.bool false) w := fun _ => by kernel_rfl
  go_enter Tryz.func103, Tryz.ntmps103
  go_wp2_with (first
    | (at_builtin; go_must (refine wpList_append_own _ rfl _ _ 34 rfl w.heap.size 111 i0 (.agg #[.int .i64 0, .int .i64 0]) 2 16 Tryz.underlying34 hi hz0 hz1 hz2 rfl (by decide) (.slice (some ⟨w.heap.size, 0, none⟩) 0 0) 0 [] rfl (World.ownsRow_lit (base := w.heap.size) w #[] 0 (Nat.le_refl _) (Nat.zero_le _) rfl) ⟨b, off, none⟩ n cap (cellsL (ptsOf X Y (List.range n))) rfl ?c0 ?c1 ?c2 ?c3 ?c4 ?c5 ?_)))
  case c0 => rw [cellsL_len, HLEN.out]
  case c1 =>
    intro q u hq
    have h1 := pts_cellsO (HP.out.below (by (repeat (first | exact Below.refl _ _ | assumption | refine Below.drew ?_ | refine bl_alloc ?_ _ | refine bl_then ?_ (by assumption) | refine Below.setCell ?_ (by first | omega | (simp; done) | (simp; omega)) _ | refine bl_store ?_ ?_ _ _)) : Below w.heap.size w (w.alloc (.cells #[] 111))) hbl) q u hq
    by_cases hq0 : q = 0
    · subst hq0; simpa [Addr.add] using h1
    · simpa [Addr.add, hq0] using h1
  case c2 =>
    intro u hu
    unfold cellsL at hu
    rw [List.mem_flatMap] at hu
    obtain ⟨p, _, hp⟩ := hu
    simp at hp
    rcases hp with rfl | rfl <;> rfl
  case c3 => unfold maxLen; omega
  case c4 => omega
  case c5 => first | omega | (simp; done) | (simp; omega)
  intro v' w2 hown' hgrow hnil
  clear hnil
  obtain ⟨a, c, hv⟩ : ∃ a c, v' = .slice a n c := by
    obtain ⟨_, h2 | ⟨g, cp, cur, hv, _⟩⟩ := hown'
    · exact ⟨none, 0, by have e := h2.2; have e2 : n = 0 := by omega
                         subst e2; exact h2.1⟩
    · exact ⟨_, cp, by rw [hv]⟩
  have HB2 : Hid (Below w.heap.size w w2) := ((Below.refl _ _).alloc (Nat.le_refl _) _).trans ((Below.refl _ _).grown hgrow (by simp) (fun k hk => by simp [Value.ownBlock] at hk; omega))
  subst hv
  clear hown' hgrow
  go_wp2
  go_ret
  exact ⟨a, c, rfl, HB2.out⟩

set_option maxHeartbeats 4000000 in
theorem copyFeature_any {off : Nat} (id la ki wi : Int) (b n cap : Nat) (X Y : Nat → Int) (lab : ByteArray) (pr : Int) (w : World) (hp : PtsAt w b off n X Y) (hbl : b < w.heap.size) (hn : n ≤ 1048576) (hl : lab.size ≤ 1048576) :
    Calls Tryz.prog 64 #[.agg #[.int .i64 id, .int .i64 la, .int .i64 ki, .int .i64 wi, .slice (some ⟨b, off, none⟩) n cap, .string lab, .int .i64 pr]] w fun e w' => ∃ a c, e = .returned (.agg #[.int .i64 id, .int .i64 la, .int .i64 ki, .int .i64 wi, .slice a n c, .string lab, .int .i64 pr]) ∧ Below w.heap.size w w' := by
  have HP : Hid (PtsAt w b off n X Y) := hp
  clear hp
  go_enter Tryz.func64, Tryz.ntmps64
  go_wp2_with fail
  generalize hW : ((w.alloc _).alloc _ : World) = W
  have hB0 : Below w.heap.size w W := by subst hW; (repeat (first | exact Below.refl _ _ | assumption | refine Below.drew ?_ | refine bl_alloc ?_ _ | refine bl_then ?_ (by assumption) | refine Below.setCell ?_ (by first | omega | (simp; done) | (simp; omega)) _ | refine bl_store ?_ ?_ _ _))
  have q0 : W.cell? ⟨w.heap.size, 0, none⟩ = some (.int .i64 id) := by subst hW; simp [go_sem]
  have q1 : W.cell? ⟨w.heap.size, 1, none⟩ = some (.int .i64 la) := by subst hW; simp [go_sem]
  have q2 : W.cell? ⟨w.heap.size, 2, none⟩ = some (.int .i64 ki) := by subst hW; simp [go_sem]
  have q3 : W.cell? ⟨w.heap.size, 3, none⟩ = some (.int .i64 wi) := by subst hW; simp [go_sem]
  have q4 : W.cell? ⟨w.heap.size, 4, none⟩ = some (.slice (some ⟨b, off, none⟩) n cap) := by subst hW; simp [go_sem]
  have q5 : W.cell? ⟨w.heap.size, 5, none⟩ = some (.string lab) := by subst hW; simp [go_sem]
  have q6 : W.cell? ⟨w.heap.size, 6, none⟩ = some (.int .i64 pr) := by subst hW; simp [go_sem]
  have fz : ∀ o, W.frozen? ⟨w.heap.size, o, none⟩ = false := fun o => by subst hW; simp [go_sem]
  have hT : There W (w.heap.size + 1) 7 := fun o ho => by
    subst hW
    have hc : o = 0 ∨ o = 1 ∨ o = 2 ∨ o = 3 ∨ o = 4 ∨ o = 5 ∨ o = 6 := by omega
    rcases hc with rfl | rfl | rfl | rfl | rfl | rfl | rfl <;> exact ⟨⟨_, by simp [go_sem]; rfl⟩, by simp [go_sem]⟩
  have hsz : w.heap.size + 1 < W.heap.size := by subst hW; simp
  clear hW
  refine (slicesClone_any b n cap X Y W (HP.out.below hB0 hbl) (Nat.lt_of_lt_of_le hbl hB0.size) hn).mono ?_
  rintro e w1 ⟨a1, c1, rfl, hb1⟩
  have hB1 : Below w.heap.size w w1 := bl_then hB0 hb1
  have p0 := bl_cell hb1 q0
  have p1 := bl_cell hb1 q1
  have p2 := bl_cell hb1 q2
  have p3 := bl_cell hb1 q3
  have p4 := bl_cell hb1 q4
  have p5 := bl_cell hb1 q5
  have p6 := bl_cell hb1 q6
  have f1 : w1.frozen? ⟨w.heap.size, 4, none⟩ = false := (hb1.frozen (p := ⟨w.heap.size, 4, none⟩) (by show w.heap.size < _; omega)).trans (fz 4)
  have f2 : w1.frozen? ⟨w.heap.size, 5, none⟩ = false := (hb1.frozen (p := ⟨w.heap.size, 5, none⟩) (by show w.heap.size < _; omega)).trans (fz 5)
  have hT1 := hT.below hb1
  have hsz1 := hb1.size
  clear q0 q1 q2 q3 q4 q5 q6 fz hT hb1 hB0
  have HT1 : Hid (There w1 (w.heap.size + 1) 7) := hT1
  clear hT1
  go_wp2_with fail
  generalize hW2 : (w1.setCell _ _ : World) = W2
  have g0 : W2.cell? ⟨w.heap.size, 0, none⟩ = some (.int .i64 id) := by subst hW2; rw [set1_other (by simp)]; exact p0
  have g1 : W2.cell? ⟨w.heap.size, 1, none⟩ = some (.int .i64 la) := by subst hW2; rw [set1_other (by simp)]; exact p1
  have g2 : W2.cell? ⟨w.heap.size, 2, none⟩ = some (.int .i64 ki) := by subst hW2; rw [set1_other (by simp)]; exact p2
  have g3 : W2.cell? ⟨w.heap.size, 3, none⟩ = some (.int .i64 wi) := by subst hW2; rw [set1_other (by simp)]; exact p3
  have g4 : W2.cell? ⟨w.heap.size, 4, none⟩ = some (.slice a1 n c1) := by subst hW2; exact set1_same p4
  have g5 : W2.cell? ⟨w.heap.size, 5, none⟩ = some (.string lab) := by subst hW2; rw [set1_other (by simp)]; exact p5
  have g6 : W2.cell? ⟨w.heap.size, 6, none⟩ = some (.int .i64 pr) := by subst hW2; rw [set1_other (by simp)]; exact p6
  have ff : W2.frozen? ⟨w.heap.size, 5, none⟩ = false := by subst hW2; rw [World.frozen?_setCell]; exact f2
  have hT2 : There W2 (w.heap.size + 1) 7 := fun o ho => by
    subst hW2
    obtain ⟨u, hu⟩ := (HT1.out o ho).1
    exact ⟨⟨u, by rw [set1_other (by simp)]; exact hu⟩, by rw [World.frozen?_setCell]; exact (HT1.out o ho).2⟩
  have hB2 : Below w.heap.size w W2 := by subst hW2; exact hB1.setCell (Nat.le_refl _) _
  have hsz2 : w1.heap.size ≤ W2.heap.size := by subst hW2; simp [World.setCell]
  clear hW2 p0 p1 p2 p3 p4 p5 p6 f1 f2 hB1
  refine (stringsClone_any lab W2 hl).mono ?_
  rintro e w3 ⟨rfl, hb3⟩
  have hB3 : Below w.heap.size w w3 := bl_then hB2 hb3
  have p0 := bl_cell hb3 g0
  have p1 := bl_cell hb3 g1
  have p2 := bl_cell hb3 g2
  have p3 := bl_cell hb3 g3
  have p4 := bl_cell hb3 g4
  have p5 := bl_cell hb3 g5
  have p6 := bl_cell hb3 g6
  have f5 : w3.frozen? ⟨w.heap.size, 5, none⟩ = false := (hb3.frozen (p := ⟨w.heap.size, 5, none⟩) (by show w.heap.size < _; omega)).trans ff
  have hT3 := hT2.below hb3
  have hsz3 := hb3.size
  have t0 := hT3.cell 0 (by omega)
  have t1 := hT3.cell 1 (by omega)
  have t2 := hT3.cell 2 (by omega)
  have t3 := hT3.cell 3 (by omega)
  have t4 := hT3.cell 4 (by omega)
  have t5 := hT3.cell 5 (by omega)
  have t6 := hT3.cell 6 (by omega)
  have z0 := (hT3 0 (by omega)).2
  have z1 := (hT3 1 (by omega)).2
  have z2 := (hT3 2 (by omega)).2
  have z3 := (hT3 3 (by omega)).2
  have z4 := (hT3 4 (by omega)).2
  have z5 := (hT3 5 (by omega)).2
  have z6 := (hT3 6 (by omega)).2
  have HT4 : Hid (There (w3.setCell ⟨w.heap.size, 5, none⟩ (.string lab)) (w.heap.size + 1) 7) := fun o ho => by
    obtain ⟨u, hu⟩ := (hT3 o ho).1
    exact ⟨⟨u, by rw [set1_other (by simp)]; exact hu⟩, by rw [World.frozen?_setCell]; exact (hT3 o ho).2⟩
  have HB3 : Hid (Below w.heap.size w w3) := hB3
  clear g0 g1 g2 g3 g4 g5 g6 ff hT2 hT3 hB2 hB3 hb3
  go_wp2_with fail
  obtain ⟨y0, y1, y2, y3, y4, y5, y6⟩ := set7_at (v0 := .int .i64 id) (v1 := .int .i64 la) (v2 := .int .i64 ki) (v3 := .int .i64 wi) (v4 := .slice a1 n c1) (v5 := .string lab) (v6 := .int .i64 pr) HT4.out
  have key : ∀ (T : Array Value) (Wf : World), T[2]?.getD undef = .pointer (some ⟨w.heap.size + 1, 0, none⟩) → Wf.cell? ⟨w.heap.size + 1, 0, none⟩ = some (.int .i64 id) → Wf.cell? ⟨w.heap.size + 1, 1, none⟩ = some (.int .i64 la) → Wf.cell? ⟨w.heap.size + 1, 2, none⟩ = some (.int .i64 ki) → Wf.cell? ⟨w.heap.size + 1, 3, none⟩ = some (.int .i64 wi) → Wf.cell? ⟨w.heap.size + 1, 4, none⟩ = some (.slice a1 n c1) → Wf.cell? ⟨w.heap.size + 1, 5, none⟩ = some (.string lab) → Wf.cell? ⟨w.heap.size + 1, 6, none⟩ = some (.int .i64 pr) →
      (results Tryz.f64 T).run Tryz.prog Wf = .ok (.agg #[.int .i64 id, .int .i64 la, .int .i64 ki, .int .i64 wi, .slice a1 n c1, .string lab, .int .i64 pr]) Wf := fun T Wf hT h0 h1 h2 h3 h4 h5 h6 => by
    simp [results, Tryz.results64, go_sem, hT, h0, h1, h2, h3, h4, h5, h6]
  refine bodyPost_ret (key _ _ rfl y0 y1 y2 y3 y4 y5 y6) rfl ⟨a1, c1, rfl, ?_⟩
  exact ((((((((HB3.out.setCell (Nat.le_refl _) _).setCell (Nat.le_succ _) _).setCell (Nat.le_succ _) _).setCell (Nat.le_succ _) _).setCell (Nat.le_succ _) _).setCell (Nat.le_succ _) _).setCell (Nat.le_succ _) _).setCell (Nat.le_succ _) _)
end Go.Proofs.YtdohlnnbibnnbaaGreat
