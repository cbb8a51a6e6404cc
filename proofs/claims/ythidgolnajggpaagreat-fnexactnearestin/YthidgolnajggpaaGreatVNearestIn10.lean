/- Points, doubled: the program and the model. -/
import Derived.Test.YthidgolnajggpaaGreatVNearestIn9
namespace Go.Proofs.YthidgolnajggpaaGreat
open Go.RowKit
set_option linter.unusedSimpArgs false
set_option linter.unusedVariables false
set_option maxRecDepth 100000

/-- Points, doubled. -/
def dblL (X Y : Nat → Int) (n : Nat) : List (Int × Int) := (List.range n).map fun i => (2 * X i, 2 * Y i)
theorem dblL_len (X Y : Nat → Int) (n : Nat) : (dblL X Y n).length = n := by simp [dblL]
theorem dblL_add (X Y : Nat → Int) (k : Nat) : dblL X Y (k + 1) = dblL X Y k ++ [(2 * X k, 2 * Y k)] := by simp [dblL, List.range_succ]
theorem dblL_px (X Y : Nat → Int) (n i : Nat) (h : i < n) : px (dblL X Y n) i = 2 * X i ∧ py (dblL X Y n) i = 2 * Y i := by
  simp [px, py, dblL, List.getD_eq_getElem?_getD, h]

set_option maxHeartbeats 4000000 in
theorem l4Doubled_any (b off n cap : Nat) (X Y : Nat → Int) (w : World) (hp : PtsAt w b off n X Y) (hbl : b < w.heap.size) (hn : n ≤ 40) (hin : ∀ i, i < n → inW (X i) (Y i) = true) :
    Calls Tryz.prog 143 #[.slice (some ⟨b, off, none⟩) n cap] w fun e w' => ∃ v, e = .returned v ∧ Row w.heap.size w' v (dblL X Y n) ∧ Below w.heap.size w w' := by
  obtain ⟨i0, hi, hz0, hz1, hz2⟩ := info_parts info_pt
  have HP : Hid (PtsAt w b off n X Y) := hp
  have HIN : Hid (∀ i, i < n → inW (X i) (Y i) = true) := hin
  clear hp hin
  go_enter Tryz.func143, Tryz.ntmps143
  go_wp2_with fail
  generalize hW : (w.alloc _ : World) = W
  have hB0 : Below w.heap.size w W := by subst hW; (repeat (first | exact Below.refl _ _ | assumption | refine Below.drew ?_ | refine bl_alloc ?_ _ | refine bl_then ?_ (by assumption) | refine Below.setCell ?_ (by first | omega | (simp; done) | (simp; omega)) _ | refine bl_store ?_ ?_ _ _))
  have hO0 : W.ownsRow w.heap.size 132 2 (.slice (some ⟨w.heap.size, 0, none⟩) 0 0) 0 [] := by
    subst hW
    exact World.ownsRow_lit (base := w.heap.size) w #[] 0 (Nat.le_refl _) (Nat.zero_le _) rfl
  clear hW
  have HB0 : Hid (Below w.heap.size w W) := hB0
  have HO0 : Hid (Row w.heap.size W (.slice (some ⟨w.heap.size, 0, none⟩) 0 0) []) := hO0
  clear hB0 hO0
  go_loopw [3, 4] (fun v i wr => ∃ k : Nat, k ≤ n ∧ i = .int .i64 (k : Int) ∧ Row w.heap.size wr v (dblL X Y k) ∧ Below w.heap.size w wr) (fun _ i _ => n - (intOf i).toNat)
  case atStart => exact ⟨0, by omega, rfl, HO0.out, HB0.out⟩
  case round =>
    obtain ⟨k, hk, rfl, hO, hB⟩ := hrel
    by_cases hlt : k < n
    · obtain ⟨hx, hy⟩ := (HP.out.below hB hbl) k hlt
      obtain ⟨⟨x0, x1⟩, y0, y1⟩ := inW_bd (HIN.out k hlt)
      have HB : Hid (Below w.heap.size w wr) := hB
      have HO : Hid (Row w.heap.size wr u3 (dblL X Y k)) := hO
      have hbw : b < wr.heap.size := Nat.lt_of_lt_of_le hbl hB.size
      have hszc : w.heap.size ≤ wr.heap.size := hB.size
      have HLEN : Hid ((dblL X Y k).length = k) := dblL_len X Y k
      have HS : Hid (dblL X Y (k + 1) = dblL X Y k ++ [(2 * X k, 2 * Y k)]) := dblL_add X Y k
      clear hO hB
      have hi' : (k : Int) < (n : Int) := by omega
      have wx : IntKind.i64.wrap (2 * X k) = 2 * X k := IntWalk.i64_in _ (by omega)
      have wy : IntKind.i64.wrap (2 * Y k) = 2 * Y k := IntWalk.i64_in _ (by omega)
      go_wp2_with fail
      go_region_law (refine step_append_own rfl (.tmp 12) (.tmp 26) 119 rfl w.heap.size 132 i0 (.agg #[.int .i64 0, .int .i64 0]) 2 16 Tryz.underlying119 hi hz0 hz1 hz2 rfl (by decide) u3 (dblL X Y k).length (cellsL (dblL X Y k)) rfl ?own ⟨wr.heap.size, 0, none⟩ 1 1 [.int .i64 (2 * X k), .int .i64 (2 * Y k)] rfl rfl ?c1 ?c2 ?c3 ?c4 ?c5 ?_
                     case own => exact World.ownsRow.alloc HO.out _
                     case c1 =>
                       intro q u hq
                       match q, hq with
                       | 0, hq => simp at hq; subst hq; simp [Addr.add, go_sem]
                       | 1, hq => simp at hq; subst hq; simp [Addr.add, go_sem]
                       | q + 2, hq => simp at hq
                     case c2 => intro u hu; simp at hu; rcases hu with rfl | rfl <;> rfl
                     case c3 => have := HLEN.out; unfold maxLen; omega
                     case c4 => have := HLEN.out; omega
                     case c5 => first | omega | (simp; omega)
                     intro v' w3 hown' hgrow hnil
                     clear hnil
                     have hBV : Below wr.heap.size wr (World.alloc (World.drew wr) (.cells #[.int .i64 (2 * X k), .int .i64 (2 * Y k)] 132)) := by (repeat (first | exact Below.refl _ _ | assumption | refine Below.drew ?_ | refine bl_alloc ?_ _ | refine bl_then ?_ (by assumption) | refine Below.setCell ?_ (by first | omega | (simp; done) | (simp; omega)) _ | refine bl_store ?_ ?_ _ _))
                     have hBg : Below w.heap.size (World.alloc (World.drew wr) (.cells #[.int .i64 (2 * X k), .int .i64 (2 * Y k)] 132)) w3 := (Below.refl _ _).grown hgrow (by have := hBV.size; omega) (fun k hk => (HO.out.lt k hk).1)
                     have HB3 : Hid (Below w.heap.size w w3) := (HB.out.trans (hBV.mono hszc)).trans hBg
                     have HO3 : Hid (Row w.heap.size w3 v' (dblL X Y (k + 1))) := (by
                       show Row _ _ _ _
                       rw [HS.out]
                       show World.ownsRow _ _ _ _ _ _ _
                       rw [cellsL_add, List.length_append]
                       exact hown')
                     clear hown' hgrow hBg hBV)
      all_goals
        go_wp2_with fail
        go_roundw
        case rel => exact ⟨k + 1, by omega, by go_num, HO3.out, HB3.out⟩
        case measure => simp [intOf]; omega
    · go_wp2
      go_ret
      have hkn : k = n := by omega
      subst hkn
      exact ⟨_, rfl, hO, hB⟩
set_option maxHeartbeats 4000000 in
theorem doubled_any (b off n cap : Nat) (X Y : Nat → Int) (w : World) (hp : PtsAt w b off n X Y) (hbl : b < w.heap.size) (hn : n ≤ 40) (hin : ∀ i, i < n → inW (X i) (Y i) = true) :
    Calls Tryz.prog 105 #[.slice (some ⟨b, off, none⟩) n cap] w fun e w' => ∃ v, e = .returned v ∧ Row w.heap.size w' v (dblL X Y n) ∧ Below w.heap.size w w' := by
  obtain ⟨i0, hi, hz0, hz1, hz2⟩ := info_parts info_pt
  have HP : Hid (PtsAt w b off n X Y) := hp
  have HIN : Hid (∀ i, i < n → inW (X i) (Y i) = true) := hin
  clear hp hin
  go_enter Tryz.func105, Tryz.ntmps105
  go_wp2_with fail
  go_loopw [3, 8] (fun v i wr => ∃ k : Nat, k ≤ n ∧ i = .int .i64 (k : Int) ∧ Row w.heap.size wr v (dblL X Y k) ∧ Below w.heap.size w wr) (fun _ i _ => n - (intOf i).toNat)
  case atStart => exact ⟨0, by omega, rfl, Row.no _ _, Below.refl _ _⟩
  case round =>
    obtain ⟨k, hk, rfl, hO, hB⟩ := hrel
    by_cases hlt : k < n
    · obtain ⟨hx, hy⟩ := (HP.out.below hB hbl) k hlt
      obtain ⟨⟨x0, x1⟩, y0, y1⟩ := inW_bd (HIN.out k hlt)
      have HB : Hid (Below w.heap.size w wr) := hB
      have HO : Hid (Row w.heap.size wr u3 (dblL X Y k)) := hO
      have hbw : b < wr.heap.size := Nat.lt_of_lt_of_le hbl hB.size
      have hszc : w.heap.size ≤ wr.heap.size := hB.size
      have HLEN : Hid ((dblL X Y k).length = k) := dblL_len X Y k
      have HS : Hid (dblL X Y (k + 1) = dblL X Y k ++ [(2 * X k, 2 * Y k)]) := dblL_add X Y k
      clear hO hB
      have hi' : (k : Int) < (n : Int) := by omega
      go_wp2_with (first
        | (at_builtin; go_must (refine wpList_append_own _ rfl _ _ 119 rfl w.heap.size 132 i0 (.agg #[.int .i64 0, .int .i64 0]) 2 16 Tryz.underlying119 hi hz0 hz1 hz2 rfl (by decide) _ (dblL X Y k).length (cellsL (dblL X Y k)) rfl (World.ownsRow.alloc (World.ownsRow.alloc HO.out _) _) ⟨wr.heap.size + 1, 0, none⟩ 1 1 [.int .i64 (2 * X k), .int .i64 (2 * Y k)] rfl rfl ?c1 ?c2 ?c3 ?c4 ?c5 ?_)))
      try (case c1 =>
        intro q u hq
        match q, hq with
        | 0, hq => simp at hq; subst hq; simp [Addr.add, go_sem]
        | 1, hq => simp at hq; subst hq; simp [Addr.add, go_sem]
        | q + 2, hq => simp at hq)
      case c2 => first | (intro u hu; simp at hu; rcases hu with rfl | rfl <;> rfl) | exact ⟨rfl, rfl⟩
      case c3 => have := HLEN.out; unfold maxLen; omega
      case c4 => have := HLEN.out; omega
      case c5 => first | omega | (simp; omega)
      intro v' w3 hown' hgrow hnil
      clear hnil
      generalize hV : ((wr.alloc _).alloc _ : World) = V at hgrow
      have hBV : Below wr.heap.size wr V := by subst hV; (repeat (first | exact Below.refl _ _ | assumption | refine Below.drew ?_ | refine bl_alloc ?_ _ | refine bl_then ?_ (by assumption) | refine Below.setCell ?_ (by first | omega | (simp; done) | (simp; omega)) _ | refine bl_store ?_ ?_ _ _))
      have hBg : Below w.heap.size V w3 := (Below.refl _ _).grown hgrow (by have := hBV.size; omega) (fun k hk => (HO.out.lt k hk).1)
      have HB3 : Hid (Below w.heap.size w w3) := (HB.out.trans (hBV.mono hszc)).trans hBg
      have HO3 : Hid (Row w.heap.size w3 v' (dblL X Y (k + 1))) := by
        show Row _ _ _ _
        rw [HS.out]
        show World.ownsRow _ _ _ _ _ _ _
        rw [cellsL_add, List.length_append]
        exact hown'
      clear hown' hgrow hBg hBV hV
      go_wp2
      go_roundw
      case rel => exact ⟨k + 1, by omega, by go_num, HO3.out, HB3.out⟩
      case measure => simp [intOf]; omega
    · go_wp2
      go_ret
      have hkn : k = n := by omega
      subst hkn
      exact ⟨_, rfl, hO, hB⟩
end Go.Proofs.YthidgolnajggpaaGreat
