/- A tile read from bytes: the program and the model. -/
import Derived.Test.YtcbpaockahkakaaVReadTile41
import Derived.Test.YtcbpaockahkakaaVReadTile42
namespace Go.Proofs.Ytcbpaockahkakaa
open Go.RowKit
set_option linter.unusedSimpArgs false
set_option linter.unusedVariables false
set_option maxRecDepth 100000

/-- An answer with a tile. -/
abbrev trV (c z x y : Int) (v : Value) : Value := .agg #[.int .i64 c, .int .i64 z, .int .i64 x, .int .i64 y, v]
/-- An answer with a tile that owns its memory. -/
def TlAns (C z x y : Int) (L : List Fx) (w : World) (e : Ending) (w' : World) : Prop :=
  ∃ a cap T, e = .returned (trV C z x y (.slice a L.length cap)) ∧ IsFs w' a L.length T ∧ (∀ i, i < L.length → (T i).same (fxG L i)) ∧ OwnR w' w.heap.size w'.heap.size a L.length (fun i => (T i).n) (fun i => (T i).cap) ∧ Below w.heap.size w w'
/-- What ReadTile tells. -/
noncomputable def tlC (z x y : Int) (Z : Nat → Int) (n : Nat) : Int := if refB z x y = true then upC Z n else 3
open Classical in
noncomputable def tlK (z x y : Int) (Z : Nat → Int) (n : Nat) (v : Int) : Int := if tlC z x y Z n = 0 then v else 0
open Classical in
noncomputable def tlL (z x y : Int) (Z : Nat → Int) (n : Nat) : List Fx := if tlC z x y Z n = 0 then upL Z n else []
theorem TlAns.bad {C z x y : Int} {Z : Nat → Int} {n : Nat} {w w' : World} (hc : tlC z x y Z n = C) (h0 : C ≠ 0) (hb : Below w.heap.size w w') : TlAns (tlC z x y Z n) (tlK z x y Z n z) (tlK z x y Z n x) (tlK z x y Z n y) (tlL z x y Z n) w (.returned (trV C 0 0 0 (.slice none 0 0))) w' := by
  have h1 : ¬ tlC z x y Z n = 0 := by rw [hc]; exact h0
  unfold tlK tlL
  rw [if_neg h1, if_neg h1, if_neg h1, if_neg h1, hc]
  exact ⟨none, 0, fun _ => fxFeat ⟨[], ByteArray.empty, []⟩ none 0, rfl, .inl rfl, fun i hi => absurd hi (Nat.not_lt_zero _), .inl rfl, hb⟩
theorem OwnR.wideR {w : World} {lo lo' hi hi' m : Nat} {a : Option Addr} {N C : Nat → Nat} (h : OwnR w lo hi a m N C) (h1 : lo' ≤ lo) (h2 : hi ≤ hi') (h3 : hi' ≤ w.heap.size) : OwnR w lo' hi' a m N C := by
  rcases h with h | ⟨g, q, e, ⟨k1, k2, k3⟩, hT, hq, hd⟩
  · exact .inl h
  · exact .inr ⟨g, q, e, ⟨by omega, by omega, h3⟩, hT, fun i hi => ⟨⟨by have := (hq i hi).1; omega, by have := (hq i hi).1; omega, (hq i hi).1.2.2⟩, (hq i hi).2⟩, hd⟩
theorem there5t (V : World) (a b c d e : Value) (t : TypeId) : There (V.alloc (.cells #[a, b, c, d, e] t)) V.heap.size 5 := fun o ho => by
  have : o = 0 ∨ o = 1 ∨ o = 2 ∨ o = 3 ∨ o = 4 := by omega
  rcases this with rfl | rfl | rfl | rfl | rfl <;> exact ⟨⟨_, by simp [go_sem]; rfl⟩, by simp [go_sem]⟩
theorem There.putT {W : World} {r n o r' : Nat} {v : Value} (h : There W r n) : There (W.setCell ⟨r', o, none⟩ v) r n := fun o' ho => by
  obtain ⟨⟨u, hu⟩, hf⟩ := h o' ho
  refine ⟨?_, by rw [World.frozen?_setCell]; exact hf⟩
  by_cases e : (⟨r', o, none⟩ : Addr) = ⟨r, o', none⟩
  · rw [e]; exact ⟨v, World.cell?_setCell_same _ _ _ (by rw [hu])⟩
  · exact ⟨u, by rw [set1_other e]; exact hu⟩
theorem sett5_at {W : World} {r : Nat} {a b c d e : Value} (hT : There W r 5) :
    (((((W.setCell ⟨r, 0, none⟩ a).setCell ⟨r, 1, none⟩ b).setCell ⟨r, 2, none⟩ c).setCell ⟨r, 3, none⟩ d).setCell ⟨r, 4, none⟩ e).cell? ⟨r, 0, none⟩ = some a ∧
    (((((W.setCell ⟨r, 0, none⟩ a).setCell ⟨r, 1, none⟩ b).setCell ⟨r, 2, none⟩ c).setCell ⟨r, 3, none⟩ d).setCell ⟨r, 4, none⟩ e).cell? ⟨r, 1, none⟩ = some b ∧
    (((((W.setCell ⟨r, 0, none⟩ a).setCell ⟨r, 1, none⟩ b).setCell ⟨r, 2, none⟩ c).setCell ⟨r, 3, none⟩ d).setCell ⟨r, 4, none⟩ e).cell? ⟨r, 2, none⟩ = some c ∧
    (((((W.setCell ⟨r, 0, none⟩ a).setCell ⟨r, 1, none⟩ b).setCell ⟨r, 2, none⟩ c).setCell ⟨r, 3, none⟩ d).setCell ⟨r, 4, none⟩ e).cell? ⟨r, 3, none⟩ = some d ∧
    (((((W.setCell ⟨r, 0, none⟩ a).setCell ⟨r, 1, none⟩ b).setCell ⟨r, 2, none⟩ c).setCell ⟨r, 3, none⟩ d).setCell ⟨r, 4, none⟩ e).cell? ⟨r, 4, none⟩ = some e := by
  obtain ⟨x0, h0⟩ := (hT 0 (by omega)).1
  obtain ⟨x1, h1⟩ := (hT 1 (by omega)).1
  obtain ⟨x2, h2⟩ := (hT 2 (by omega)).1
  obtain ⟨x3, h3⟩ := (hT 3 (by omega)).1
  obtain ⟨x4, h4⟩ := (hT 4 (by omega)).1
  have ne : ∀ i j : Nat, i ≠ j → (⟨r, i, none⟩ : Addr) ≠ ⟨r, j, none⟩ := fun i j hij h => hij (by injection h)
  refine ⟨?_, ?_, ?_, ?_, ?_⟩
  · rw [set1_other (ne 4 0 (by omega)), set1_other (ne 3 0 (by omega)), set1_other (ne 2 0 (by omega)), set1_other (ne 1 0 (by omega))]; exact set1_same (by exact h0)
  · rw [set1_other (ne 4 1 (by omega)), set1_other (ne 3 1 (by omega)), set1_other (ne 2 1 (by omega))]; exact set1_same (by rw [set1_other (ne 0 1 (by omega))]; exact h1)
  · rw [set1_other (ne 4 2 (by omega)), set1_other (ne 3 2 (by omega))]; exact set1_same (by rw [set1_other (ne 1 2 (by omega)), set1_other (ne 0 2 (by omega))]; exact h2)
  · rw [set1_other (ne 4 3 (by omega))]; exact set1_same (by rw [set1_other (ne 2 3 (by omega)), set1_other (ne 1 3 (by omega)), set1_other (ne 0 3 (by omega))]; exact h3)
  · exact set1_same (by rw [set1_other (ne 3 4 (by omega)), set1_other (ne 2 4 (by omega)), set1_other (ne 1 4 (by omega)), set1_other (ne 0 4 (by omega))]; exact h4)
/-- Five stores into a block that was not there. -/
theorem mid5 {W : World} {r : Nat} {a b c d e : Value} : MidB r (r + 1) W (((((W.setCell ⟨r, 0, none⟩ a).setCell ⟨r, 1, none⟩ b).setCell ⟨r, 2, none⟩ c).setCell ⟨r, 3, none⟩ d).setCell ⟨r, 4, none⟩ e) :=
  (((((MidB.refl r (r + 1) W).set (Nat.le_refl _) (Nat.lt_succ_self _) _ _).set (Nat.le_refl _) (Nat.lt_succ_self _) _ _).set (Nat.le_refl _) (Nat.lt_succ_self _) _ _).set (Nat.le_refl _) (Nat.lt_succ_self _) _ _).set (Nat.le_refl _) (Nat.lt_succ_self _) _ _
theorem sheetTile_any (z x y : Int) (a : Option Addr) (n cap : Nat) (w : World) : Calls Try.prog 53 #[.agg #[.int .i64 z, .int .i64 x, .int .i64 y, .slice a n cap]] w fun e w' => e = .returned (.agg #[.int .i64 z, .int .i64 x, .int .i64 y, .slice a n cap]) ∧ Below w.heap.size w w' := by
  go_enter Try.func53, Try.ntmps53
  go_wp2
  exact bodyPost_ret (v := .agg #[.int .i64 z, .int .i64 x, .int .i64 y, .slice a n cap]) (by simp [results, Try.results53, go_sem]) rfl ⟨rfl, by (repeat (first | exact Below.refl _ _ | assumption | refine Below.drew ?_ | refine bl_alloc ?_ _ | refine bl_then ?_ (by assumption) | refine Below.setCell ?_ (by first | omega | (simp; done) | (simp; omega)) _ | refine bl_store ?_ ?_ _ _))⟩
set_option maxHeartbeats 8000000 in
theorem spec_ReadTile_any (z x y : Int) (b n : Nat) (Z : Nat → Int) (w : World) (hs : BsAt w b 0 n Z) (hbl : b < w.heap.size) (hr : ∀ i, 0 ≤ Z i ∧ Z i ≤ 255) (hn : n ≤ 1048576) :
    Calls Try.prog 22 #[refV z x y, .slice (some ⟨b, 0, none⟩) n n] w (TlAns (tlC z x y Z n) (tlK z x y Z n z) (tlK z x y Z n x) (tlK z x y Z n y) (tlL z x y Z n) w) := by
  have HS : Hid (BsAt w b 0 n Z) := hs
  have HU : Hid (∀ W, BsAt W b 0 n Z → b < W.heap.size → Calls Try.prog 9 #[.slice (some ⟨b, 0, none⟩) n n] W (UpAns (upC Z n) (upL Z n) W)) := fun W h1 h2 => (spec_UnpackList_some b 0 n n Z W h2 h1 (Nat.le_refl _) hr hn).mono fun e w' h => unP_ans h
  clear hs hr
  go_enter Try.func22, Try.ntmps22
  go_wp2_with fail
  generalize hW : ((w.alloc _).alloc _ : World) = W
  have hB0 : Below w.heap.size w W := by subst hW; (repeat (first | exact Below.refl _ _ | assumption | refine Below.drew ?_ | refine bl_alloc ?_ _ | refine bl_then ?_ (by assumption) | refine Below.setCell ?_ (by first | omega | (simp; done) | (simp; omega)) _ | refine bl_store ?_ ?_ _ _))
  have HB0 : Hid (Below w.heap.size w W) := hB0
  have HT : Hid (There W (w.heap.size + 1) 5) := by
    show There _ _ _
    subst hW
    have := there5t (w.alloc (.cells #[.int .i64 z, .int .i64 x, .int .i64 y] 44)) (.int .i64 0) (.int .i64 0) (.int .i64 0) (.int .i64 0) (.slice none 0 0) 48
    simpa using this
  have HC : Hid (W.cell? ⟨w.heap.size, 0, none⟩ = some (.int .i64 z) ∧ W.cell? ⟨w.heap.size, 1, none⟩ = some (.int .i64 x) ∧ W.cell? ⟨w.heap.size, 2, none⟩ = some (.int .i64 y)) := by
    show _ ∧ _
    subst hW
    exact ⟨by simp [go_sem], by simp [go_sem], by simp [go_sem]⟩
  have hLW : w.heap.size + 1 < W.heap.size := by subst hW; simp
  clear hW hB0
  refine (l7Fault_any z x y _).mono ?_
  rintro e w1 ⟨rfl, hb1⟩
  have HB1 : Hid (Below w.heap.size w w1) := bl_then HB0.out hb1
  have HT1 : Hid (There w1 (w.heap.size + 1) 5) := HT.out.below hb1
  have HS1 : Hid (BsAt w1 b 0 n Z) := HS.out.below (HB1.out) hbl
  have hbl1 : b < w1.heap.size := Nat.lt_of_lt_of_le hbl HB1.out.size
  have hL1 : w.heap.size + 1 < w1.heap.size := Nat.lt_of_lt_of_le hLW hb1.size
  have HC1 : Hid (w1.cell? ⟨w.heap.size, 0, none⟩ = some (.int .i64 z) ∧ w1.cell? ⟨w.heap.size, 1, none⟩ = some (.int .i64 x) ∧ w1.cell? ⟨w.heap.size, 2, none⟩ = some (.int .i64 y)) := ⟨bl_cellB hb1 (HC.out.1), bl_cellB hb1 (HC.out.2.1), bl_cellB hb1 (HC.out.2.2)⟩
  clear hb1 HB0 HT HS hLW HC
  rcases refC_cases z x y with ⟨hc, hr⟩ | ⟨hc, hr⟩
  · simp only [hc]
    go_wp2_with fail
    refine (HU.out _ HS1.out hbl1).mono ?_
    rintro e w2 ⟨a, cap, T, rfl, hF, hTs, hO, hb2⟩
    have HB2 : Hid (Below w.heap.size w w2) := bl_then HB1.out hb2
    have HT2 : Hid (There w2 (w.heap.size + 1) 5) := HT1.out.below hb2
    have hL2 : w.heap.size + 1 < w2.heap.size := Nat.lt_of_lt_of_le hL1 hb2.size
    have hs12 := hb2.size
    have HF : Hid (IsFs w2 a (upL Z n).length T) := hF
    have HTs : Hid (∀ i, i < (upL Z n).length → (T i).same (fxG (upL Z n) i)) := hTs
    have HO : Hid (OwnR w2 w1.heap.size w2.heap.size a (upL Z n).length (fun i => (T i).n) (fun i => (T i).cap)) := hO
    obtain ⟨d0, d1, d2⟩ : w2.cell? ⟨w.heap.size, 0, none⟩ = some (.int .i64 z) ∧ w2.cell? ⟨w.heap.size, 1, none⟩ = some (.int .i64 x) ∧ w2.cell? ⟨w.heap.size, 2, none⟩ = some (.int .i64 y) := ⟨bl_cellB hb2 (HC1.out.1), bl_cellB hb2 (HC1.out.2.1), bl_cellB hb2 (HC1.out.2.2)⟩
    have hl2 : w.heap.size < w2.heap.size := by omega
    have hT2 := HT2.out
    have t0 := hT2.cell 0 (by omega)
    have t1 := hT2.cell 1 (by omega)
    have t2 := hT2.cell 2 (by omega)
    have t3 := hT2.cell 3 (by omega)
    have t4 := hT2.cell 4 (by omega)
    have f0 := (hT2 0 (by omega)).2
    have f1 := (hT2 1 (by omega)).2
    have f2 := (hT2 2 (by omega)).2
    have f3 := (hT2 3 (by omega)).2
    have f4 := (hT2 4 (by omega)).2
    clear hT2 hF hTs hO hb2 HB1 HT1 HS1 HC1
    have HCC : Hid (tlC z x y Z n = upC Z n) := by show _ = _; unfold tlC; rw [if_pos hr]
    by_cases h0 : upC Z n = 0
    · have HK : Hid (TlAns (tlC z x y Z n) (tlK z x y Z n z) (tlK z x y Z n x) (tlK z x y Z n y) (tlL z x y Z n) w = TlAns 0 z x y (upL Z n) w) := by
        show _ = _
        unfold tlK tlL
        rw [HCC.out, if_pos h0, if_pos h0, if_pos h0, if_pos h0, h0]
      have HOK : Hid (∀ W', MidB (w.heap.size + 1) (w.heap.size + 2) w2 W' → IsFs W' a (upL Z n).length T ∧ OwnR W' w.heap.size W'.heap.size a (upL Z n).length (fun i => (T i).n) (fun i => (T i).cap)) := fun W' hM => by
        refine ⟨isFs_mid HF.out HO.out hM (by omega), (HO.out.away hM (.inl (by omega))).wideR (by omega) hM.size (Nat.le_refl _)⟩
      simp only [h0]
      clear hc hr h0
      generalize hLL : (upL Z n).length = m at *
      go_wp2_with fail
      obtain ⟨q0, q1, q2, q3, q4⟩ := sett5_at (a := .int .i64 0) (b := .int .i64 z) (c := .int .i64 x) (d := .int .i64 y) (e := .slice a m cap) HT2.out
      have hM := mid5 (W := w2) (r := w.heap.size + 1) (a := .int .i64 0) (b := .int .i64 z) (c := .int .i64 x) (d := .int .i64 y) (e := .slice a m cap)
      generalize hX : (((((w2.setCell ⟨w.heap.size + 1, 0, none⟩ (.int .i64 0)).setCell ⟨w.heap.size + 1, 1, none⟩ (.int .i64 z)).setCell ⟨w.heap.size + 1, 2, none⟩ (.int .i64 x)).setCell ⟨w.heap.size + 1, 3, none⟩ (.int .i64 y)).setCell ⟨w.heap.size + 1, 4, none⟩ (.slice a m cap)) = X at *
      have hXs : w.heap.size + 1 < X.heap.size := World.block_lt_of_cell? _ _ q0
      have hM2 := hM.trans (MidB.of_below (lo := w.heap.size + 1) (hi := w.heap.size + 2) (bl_alloc (Below.refl X.heap.size X) (.cells #[.int .i64 0, .slice a m cap] 27)))
      have hB2 := HB2.out.trans ((hM2.below (by omega)).mono (Nat.le_succ _))
      obtain ⟨h1, h2⟩ := HOK.out _ hM2
      refine bodyPost_ret (v := trV 0 z x y (.slice a m cap)) (by simp [results, Try.results22, go_sem, q0, q1, q2, q3, q4, hXs]) rfl ?_
      rw [HK.out]
      unfold TlAns
      rw [hLL]
      exact ⟨a, cap, T, rfl, h1, HTs.out, h2, hB2⟩
    · have HBAD : Hid (∀ W', Below w.heap.size w W' → TlAns (tlC z x y Z n) (tlK z x y Z n z) (tlK z x y Z n x) (tlK z x y Z n y) (tlL z x y Z n) w (.returned (trV (upC Z n) 0 0 0 (.slice none 0 0))) W') := fun W' h => TlAns.bad HCC.out h0 h
      clear HCC HF HTs HO
      generalize upC Z n = C at *
      generalize (upL Z n).length = m at *
      go_wp2_with fail
      obtain ⟨q0, q1, q2, q3, q4⟩ := sett5_at (a := .int .i64 C) (b := .int .i64 0) (c := .int .i64 0) (d := .int .i64 0) (e := .slice none 0 0) HT2.out
      have hM := mid5 (W := w2) (r := w.heap.size + 1) (a := .int .i64 C) (b := .int .i64 0) (c := .int .i64 0) (d := .int .i64 0) (e := .slice none 0 0)
      generalize hX : (((((w2.setCell ⟨w.heap.size + 1, 0, none⟩ (.int .i64 C)).setCell ⟨w.heap.size + 1, 1, none⟩ (.int .i64 0)).setCell ⟨w.heap.size + 1, 2, none⟩ (.int .i64 0)).setCell ⟨w.heap.size + 1, 3, none⟩ (.int .i64 0)).setCell ⟨w.heap.size + 1, 4, none⟩ (.slice none 0 0)) = X at *
      have hXs : w.heap.size + 1 < X.heap.size := World.block_lt_of_cell? _ _ q0
      have hM2 := hM.trans (MidB.of_below (lo := w.heap.size + 1) (hi := w.heap.size + 1 + 1) (bl_alloc (Below.refl X.heap.size X) (.cells #[.int .i64 C, .slice a m cap] 27)))
      have hB2 := HB2.out.trans ((hM2.below (by omega)).mono (Nat.le_succ _))
      exact bodyPost_ret (v := trV C 0 0 0 (.slice none 0 0)) (by simp [results, Try.results22, go_sem, q0, q1, q2, q3, q4, hXs]) rfl (HBAD.out _ hB2)
  · simp only [hc]
    have HBAD : Hid (∀ W', Below w.heap.size w W' → TlAns (tlC z x y Z n) (tlK z x y Z n z) (tlK z x y Z n x) (tlK z x y Z n y) (tlL z x y Z n) w (.returned (trV 3 0 0 0 (.slice none 0 0))) W') := fun W' h => TlAns.bad (by unfold tlC; rw [hr]; rfl) (by decide) h
    have hT1 := HT1.out
    have t0 := hT1.cell 0 (by omega)
    have t1 := hT1.cell 1 (by omega)
    have t2 := hT1.cell 2 (by omega)
    have t3 := hT1.cell 3 (by omega)
    have t4 := hT1.cell 4 (by omega)
    have f0 := (hT1 0 (by omega)).2
    have f1 := (hT1 1 (by omega)).2
    have f2 := (hT1 2 (by omega)).2
    have f3 := (hT1 3 (by omega)).2
    have f4 := (hT1 4 (by omega)).2
    clear hc hr hT1
    go_wp2_with fail
    obtain ⟨q0, q1, q2, q3, q4⟩ := sett5_at (a := .int .i64 3) (b := .int .i64 0) (c := .int .i64 0) (d := .int .i64 0) (e := .slice none 0 0) HT1.out
    refine bodyPost_ret (v := trV 3 0 0 0 (.slice none 0 0)) (by simp [results, Try.results22, go_sem, q0, q1, q2, q3, q4]) rfl (HBAD.out _ ?_)
    exact ((((HB1.out.setCell (Nat.le_succ _) _).setCell (Nat.le_succ _) _).setCell (Nat.le_succ _) _).setCell (Nat.le_succ _) _).setCell (Nat.le_succ _) _
end Go.Proofs.Ytcbpaockahkakaa
