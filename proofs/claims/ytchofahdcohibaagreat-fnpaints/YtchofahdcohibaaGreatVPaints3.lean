/- Several texts in one. -/
import Derived.Test.YtchofahdcohibaaGreatVPaints2
import Derived.Deep.LoopGhost
import Derived.Deep.DeepMust
import Derived.Test.YtchofahdcohibaaGreatRows
import Derived.WalkKit
import Derived.Test.YtchofahdcohibaaGreatVPaints1
import Derived.Deep.RegionHeld3
import Derived.Deep.OwnRows

/- PointFault answers the fault of a point. -/

namespace Go.Proofs.YtchofahdcohibaaGreat
open Go.RowKit
set_option linter.unusedSimpArgs false
set_option linter.unusedVariables false

theorem PointFault_any (x y : Int) (w : World) : Calls Tryz.prog 112 #[.agg #[.int .i64 x, .int .i64 y]] w fun e w' => e = .returned (.int .i64 (codeP x y)) ∧ Below w.heap.size w w' := by
  have i0 : ∀ w, (Instr.index 162 (.agg #[.int .i64 x, .int .i64 y]) (.int .i64 0)).run Tryz.prog w = .ok (.int .i64 x) w := fun _ => by kernel_rfl
  have i1 : ∀ w, (Instr.index 162 (.agg #[.int .i64 x, .int .i64 y]) (.int .i64 1)).run Tryz.prog w = .ok (.int .i64 y) w := fun _ => by kernel_rfl
  have hk : Hid (codeP x y = if (-1024 ≤ x ∧ x ≤ 4096) ∧ (-1024 ≤ y ∧ y ≤ 4096) then 0 else 3) := by
    show _ = _
    unfold codeP
    simp only [okP_iff]
  go_enter Tryz.func112, Tryz.ntmps112
  go_wp2_with (go_at_call 123; refine (pairOf_any _ _ _).mono ?_; rintro e w' ⟨rfl, hb1⟩)
  have hB : Hid (Below w.heap.size w w') := by
    show Below _ _ _
    (repeat (first | exact Below.refl _ _ | assumption | refine Below.drew ?_ | refine bl_alloc ?_ _ | refine bl_then ?_ (by assumption) | refine Below.setCell ?_ (by first | omega | (simp; done) | (simp; omega)) _ | refine bl_store ?_ ?_ _ _))
  clear hb1
  go_loop [7] (fun i => ∃ k : Nat, k ≤ 2 ∧ i = .int .i64 k ∧ (1 ≤ k → -1024 ≤ x ∧ x ≤ 4096) ∧ (2 ≤ k → -1024 ≤ y ∧ y ≤ 4096)) (fun i => 2 - (intOf i).toNat)
  case atStart => exact ⟨0, by omega, rfl, by omega, by omega⟩
  case round =>
    obtain ⟨k, hk2, rfl, hx, hy⟩ := hrel
    have hcase : k = 0 ∨ k = 1 ∨ k = 2 := by omega
    rcases hcase with rfl | rfl | rfl
    · clear hx hy
      by_cases h1 : x < -1024
      · go_wp2
        go_ret
        exact ⟨ret_int (by rw [hk.out]; simp; omega), hB.out⟩
      · have h1' : decide (x < -1024) = false := by simpa using h1
        go_wp2
        · go_ret
          exact ⟨ret_int (by rw [hk.out]; simp; omega), hB.out⟩
        · go_round
          case rel => exact ⟨1, by omega, rfl, by omega, by omega⟩
          case measure => simp [intOf]
    · have hx' := hx (by omega)
      clear hx hy
      by_cases h1 : y < -1024
      · go_wp2
        go_ret
        exact ⟨ret_int (by rw [hk.out]; simp; omega), hB.out⟩
      · have h1' : decide (y < -1024) = false := by simpa using h1
        go_wp2
        · go_ret
          exact ⟨ret_int (by rw [hk.out]; simp; omega), hB.out⟩
        · go_round
          case rel => exact ⟨2, by omega, rfl, by omega, by omega⟩
          case measure => simp [intOf]
    · have hx' := hx (by omega)
      have hy' := hy (by omega)
      clear hx hy
      go_wp2
      go_ret
      exact ⟨ret_int (by rw [hk.out, if_pos ⟨hx', hy'⟩]), hB.out⟩
end Go.Proofs.YtchofahdcohibaaGreat
/- faultIn answers the fault of the first point of a list that has one. -/

namespace Go.Proofs.YtchofahdcohibaaGreat
open Go.RowKit
set_option linter.unusedSimpArgs false
set_option linter.unusedVariables false

/-- From the address on lie n points. -/
def PtsAt (w : World) (b off n : Nat) (X Y : Nat → Int) : Prop :=
  ∀ i, i < n → w.cell? ⟨b, off + i * 2, none⟩ = some (.int .i64 (X i)) ∧ w.cell? ⟨b, off + i * 2 + 1, none⟩ = some (.int .i64 (Y i))
theorem PtsAt.lt {w : World} {b off n : Nat} {X Y : Nat → Int} (h : PtsAt w b off n X Y) (hn : 0 < n) : b < w.heap.size :=
  World.block_lt_of_cell? w ⟨b, off + 0 * 2, none⟩ (h 0 hn).1
theorem PtsAt.below {w w' : World} {b off n B : Nat} {X Y : Nat → Int} (h : PtsAt w b off n X Y) (hb : Below B w w') (hB : b < B) : PtsAt w' b off n X Y := fun i hi =>
  ⟨(hb.cell (p := ⟨b, off + i * 2, none⟩) hB).trans (h i hi).1, (hb.cell (p := ⟨b, off + i * 2 + 1, none⟩) hB).trans (h i hi).2⟩
/-- No point has a fault. -/
def allOk (n : Nat) (X Y : Nat → Int) : Bool := decide (∀ i, i < n → okP (X i) (Y i) = true)
def codeN (n : Nat) (X Y : Nat → Int) : Int := if allOk n X Y = true then 0 else 3
theorem codeN_no {n : Nat} {X Y : Nat → Int} (k : Nat) (hk : k < n) (h : okP (X k) (Y k) = false) : codeN n X Y = 3 := by
  unfold codeN allOk
  rw [if_neg]
  intro hc
  have := of_decide_eq_true hc k hk
  rw [h] at this
  cases this
theorem codeN_ok {n : Nat} {X Y : Nat → Int} (h : ∀ i, i < n → okP (X i) (Y i) = true) : codeN n X Y = 0 := by
  unfold codeN allOk
  rw [if_pos (decide_eq_true h)]

theorem faultIn_any (b off n cap : Nat) (X Y : Nat → Int) (w : World) (hp : PtsAt w b off n X Y) (hbl : b < w.heap.size) (hcap : n ≤ cap) (hmax : n ≤ 1048576) :
    Calls Tryz.prog 93 #[.slice (some ⟨b, off, none⟩) n cap] w fun e w' => e = .returned (.int .i64 (codeN n X Y)) ∧ Below w.heap.size w w' := by
  have HP : Hid (PtsAt w b off n X Y) := hp
  clear hp
  go_enter Tryz.func93, Tryz.ntmps93
  go_wp2
  go_loopw [8] (fun i wr => ∃ k : Nat, k ≤ n ∧ i = .int .i64 k ∧ (∀ j, j < k → okP (X j) (Y j) = true) ∧ Below w.heap.size w wr) (fun i _ => n - (intOf i).toNat)
  case atStart => exact ⟨0, by omega, rfl, by omega, Below.refl _ _⟩
  case round =>
    obtain ⟨k, hk2, rfl, hok, hB⟩ := hrel
    by_cases hlt : k < n
    · obtain ⟨hx, hy⟩ := (HP.out.below hB hbl) k hlt
      have HO : Hid (∀ j, j < k → okP (X j) (Y j) = true) := hok
      have HB : Hid (Below w.heap.size w wr) := hB
      have hsz := hB.size
      clear hok hB
      have hi : (k : Int) < (n : Int) := by omega
      cases hq : okP (X k) (Y k)
      · have hz : codeP (X k) (Y k) = 3 := codeP_no hq
        go_wp2_with (go_at_call 112; refine (PointFault_any _ _ _).mono ?_; rintro e w' ⟨rfl, hb1⟩)
        go_ret
        exact ⟨ret_int (by rw [codeN_no k hlt hq]), by have HB' := HB.out; (repeat (first | exact Below.refl _ _ | assumption | refine Below.drew ?_ | refine bl_alloc ?_ _ | refine bl_then ?_ (by assumption) | refine Below.setCell ?_ (by first | omega | (simp; done) | (simp; omega)) _ | refine bl_store ?_ ?_ _ _))⟩
      · have hz : codeP (X k) (Y k) = 0 := codeP_ok hq
        go_wp2_with (go_at_call 112; refine (PointFault_any _ _ _).mono ?_; rintro e w' ⟨rfl, hb1⟩)
        go_roundw
        case rel => exact ⟨k + 1, by omega, by go_num, fun j hj => by
            by_cases e : j = k
            · rw [e]; exact hq
            · exact HO.out j (by omega), by have HB' := HB.out; (repeat (first | exact Below.refl _ _ | assumption | refine Below.drew ?_ | refine bl_alloc ?_ _ | refine bl_then ?_ (by assumption) | refine Below.setCell ?_ (by first | omega | (simp; done) | (simp; omega)) _ | refine bl_store ?_ ?_ _ _))⟩
        case measure => simp [intOf]; omega
    · go_wp2
      go_ret
      exact ⟨ret_int (codeN_ok (fun i hi => hok i (by omega))).symm, hB⟩
end Go.Proofs.YtchofahdcohibaaGreat
/- Rows of drawn points. -/

namespace Go.Proofs.YtchofahdcohibaaGreat
open Go.RowKit
set_option linter.unusedSimpArgs false
set_option linter.unusedVariables false

/-- A row of numbers of which we own the block holds points. -/
theorem ring_of {w : World} {base : Nat} {e : TypeId} {v : Value} {k : Nat} {xs : List Value} (h : w.ownsRow base e 2 v k xs) (hn : Nums xs) (hne : v ≠ .slice none 0 0) :
    ∃ (b cp : Nat) (X Y : Nat → Int), v = .slice (some ⟨b, 0, none⟩) k cp ∧ base ≤ b ∧ b < w.heap.size ∧ k ≤ cp ∧ PtsAt w b 0 k X Y := by
  obtain ⟨h1, h2 | ⟨g, cp, cur, rfl, hg, hh, hkc, hcm, hcs, htk⟩⟩ := h
  · exact absurd h2.1 hne
  · have hgl : g < w.heap.size := by
      rcases Nat.lt_or_ge g w.heap.size with h' | h'
      · exact h'
      · rw [Array.getElem?_eq_none h'] at hh; cases hh
    have hx : ∀ j, j < k * 2 → ∃ z : Int, w.cell? ⟨g, j, none⟩ = some (.int .i64 z) := fun j hj => by
      have hc := World.ownsRow.cellAt (w := w) (base := base) (e := e) (size := 2) (g := g) (cap := cp) (n := k) (xs := xs) ⟨h1, .inr ⟨g, cp, cur, rfl, hg, hh, hkc, hcm, hcs, htk⟩⟩ j hj
      have hjl : j < xs.length := by omega
      obtain ⟨z, hz⟩ := hn (xs[j]) (List.getElem_mem hjl)
      refine ⟨z, ?_⟩
      rw [hc]
      simp [hjl, hz]
    refine ⟨g, cp, fun i => if h : i < k then (hx (i * 2) (by omega)).choose else 0, fun i => if h : i < k then (hx (i * 2 + 1) (by omega)).choose else 0, rfl, hg, hgl, hkc, fun i hi => ?_⟩
    simp only [Nat.zero_add, hi, dite_true]
    exact ⟨(hx (i * 2) (by omega)).choose_spec, (hx (i * 2 + 1) (by omega)).choose_spec⟩

/-- A slice of points behind what was there. -/
def Ring (w w' : World) (v : Value) : Prop := ∃ (b k cp : Nat) (X Y : Nat → Int), v = .slice (some ⟨b, 0, none⟩) k cp ∧ w.heap.size ≤ b ∧ b < w'.heap.size ∧ k ≤ 41 ∧ k ≤ cp ∧ PtsAt w' b 0 k X Y

theorem PtsAt.set {w : World} {b off n r o : Nat} {X Y : Nat → Int} {v : Value} (h : PtsAt w b off n X Y) (hr : r ≠ b) : PtsAt (w.setCell ⟨r, o, none⟩ v) b off n X Y := fun i hi =>
  ⟨by rw [World.cell?_setCell_other]; exact (h i hi).1; intro e; injection e with e; omega, by rw [World.cell?_setCell_other]; exact (h i hi).2; intro e; injection e with e; omega⟩
theorem ring_fin {w wz : World} {base r k : Nat} {e : TypeId} {v u0 u1 : Value} {xs : List Value} (hO : wz.ownsRow base e 2 v k xs) (hN : Nums xs) (hE : v ≠ .slice none 0 0) (hk : k ≤ 41) (hr : r < base) (hw : w.heap.size ≤ base) :
    Ring w ((wz.setCell ⟨r, 0, none⟩ u0).setCell ⟨r, 1, none⟩ u1) v := by
  obtain ⟨b, cp, X, Y, hv, h1, h2, h3, h4⟩ := ring_of hO hN hE
  refine ⟨b, k, cp, X, Y, hv, by omega, ?_, hk, h3, (h4.set (by omega)).set (by omega)⟩
  have := (((Below.refl r wz).setCell (p := ⟨r, 0, none⟩) (Nat.le_refl _) u0).setCell (p := ⟨r, 1, none⟩) (Nat.le_refl _) u1).size
  omega
theorem There.belowB {W W' : World} {r n B : Nat} (h : There W r n) (hb : Below B W W') (hr : r < B) : There W' r n := fun o ho => by
  obtain ⟨u, hu⟩ := (h o ho).1
  exact ⟨⟨u, (hb.cell (p := ⟨r, o, none⟩) hr).trans hu⟩, (hb.frozen (p := ⟨r, o, none⟩) hr).trans (h o ho).2⟩
/-- The two cells of a point. -/
def Two (w : World) (p : Nat) (x y : Int) : Prop := w.cell? ⟨p, 0, none⟩ = some (.int .i64 x) ∧ w.cell? ⟨p, 1, none⟩ = some (.int .i64 y)
theorem Two.keeps {w w' : World} {p s : Nat} {x y : Int} (h : Two w p x y) (hk : Keeps s w w') (hp : p ≠ s) : Two w' p x y :=
  ⟨(hk.cell (p := ⟨p, 0, none⟩) (World.block_lt_of_cell? _ _ h.1) hp).trans h.1, (hk.cell (p := ⟨p, 1, none⟩) (World.block_lt_of_cell? _ _ h.2) hp).trans h.2⟩
theorem nums_rep : ∀ n : Nat, Nums (List.replicate n (.int .i64 0)) := fun n u hu => ⟨0, (List.mem_replicate.1 hu).2⟩

theorem Ring.below {w w1 w2 : World} {v : Value} (h : Ring w w1 v) (hb : Below w1.heap.size w1 w2) : Ring w w2 v := by
  obtain ⟨b, k, cp, X, Y, hv, h1, h2, h3, h4, h5⟩ := h
  exact ⟨b, k, cp, X, Y, hv, h1, Nat.lt_of_lt_of_le h2 hb.size, h3, h4, h5.below hb h2⟩

end Go.Proofs.YtchofahdcohibaaGreat
/- Drawn arguments of SnapPoint and SnapAll: whatever they are, nothing that was there is written. -/

namespace Go.Proofs.YtchofahdcohibaaGreat
open Go.RowKit
set_option linter.unusedSimpArgs false
set_option linter.unusedVariables false

set_option maxHeartbeats 1000000 in
theorem l1Pick_new10 (a : Option Addr) (n cap : Nat) (Z : Nat → Int) (s t : Nat) (x0 x1 x2 x3 x4 x5 x6 x7 x8 x9 : Int) (w : World) (T : TypeId) (h : Src a n cap Z s t w) (hcap : n ≤ cap) (ht : t ≤ 900) :
    Calls Tryz.prog 33 #[.pointer (some ⟨s, 0, none⟩), .slice (some ⟨w.heap.size, 0, none⟩) 10 10] (w.alloc (.cells #[.int .i64 x0, .int .i64 x1, .int .i64 x2, .int .i64 x3, .int .i64 x4, .int .i64 x5, .int .i64 x6, .int .i64 x7, .int .i64 x8, .int .i64 x9] T)) fun e w' => ∃ x : Int, e = .returned (.int .i64 x) ∧ Src a n cap Z s (t + 1) w' ∧ Keeps s w w' := by
  have hsl : s < w.heap.size := World.block_lt_of_cell? _ _ h.code
  have hb : Below w.heap.size w (w.alloc (.cells #[.int .i64 x0, .int .i64 x1, .int .i64 x2, .int .i64 x3, .int .i64 x4, .int .i64 x5, .int .i64 x6, .int .i64 x7, .int .i64 x8, .int .i64 x9] T)) := by (repeat (first | exact Below.refl _ _ | assumption | refine Below.drew ?_ | refine bl_alloc ?_ _ | refine bl_then ?_ (by assumption) | refine Below.setCell ?_ (by first | omega | (simp; done) | (simp; omega)) _ | refine bl_store ?_ ?_ _ _))
  refine (l1Pick_any a n cap Z s t w.heap.size 10 (fun i => if i = 0 then x0 else if i = 1 then x1 else if i = 2 then x2 else if i = 3 then x3 else if i = 4 then x4 else if i = 5 then x5 else if i = 6 then x6 else if i = 7 then x7 else if i = 8 then x8 else x9) _ (h.below hb) hcap ht (by omega) (by omega) (by omega) (fun i hi => ?_)).mono ?_
  · have hc : i = 0 ∨ i = 1 ∨ i = 2 ∨ i = 3 ∨ i = 4 ∨ i = 5 ∨ i = 6 ∨ i = 7 ∨ i = 8 ∨ i = 9 := by omega
    rcases hc with rfl | rfl | rfl | rfl | rfl | rfl | rfl | rfl | rfl | rfl <;> simp [go_sem]
  · rintro e w' ⟨x, rfl, hS, hK⟩
    exact ⟨x, rfl, hS, (Keeps.of_below hb).trans hK⟩

theorem l3Draw_any (a : Option Addr) (n cap : Nat) (Z : Nat → Int) (s t : Nat) (w : World) (h : Src a n cap Z s t w) (hcap : n ≤ cap) (ht : t ≤ 900) :
    Calls Tryz.prog 12 #[.pointer (some ⟨s, 0, none⟩)] w fun e w' => ∃ x : Int, e = .returned (.int .i64 x) ∧ Src a n cap Z s (t + 1) w' ∧ Keeps s w w' := by
  have HS : Hid (Src a n cap Z s t w) := h
  clear h
  go_enter Tryz.func12, Tryz.ntmps12
  go_wp2_with fail
  refine (l1Pick_new10 a n cap Z s t _ _ _ _ _ _ _ _ _ _ _ _ HS.out hcap ht).mono ?_
  rintro e w1 ⟨x, rfl, hS1, hK1⟩
  have HS1 : Hid (Src a n cap Z s (t + 1) w1) := hS1
  have HK1 : Hid (Keeps s w w1) := hK1
  clear hS1 hK1
  go_wp2
  go_ret
  exact ⟨_, rfl, HS1.out, HK1.out⟩

end Go.Proofs.YtchofahdcohibaaGreat
/- The row of bytes in the table of types. -/

namespace Go.Proofs.YtchofahdcohibaaGreat
open Go.RowKit
theorem info_u8 : (Tryz.prog.info? 5).map (fun i => (i.zero, i.size, i.bytes)) = some (some (.int .u8 0), 1, 1) := by kernel_rfl
end Go.Proofs.YtchofahdcohibaaGreat
/- What the small functions of points answer, and that they write nothing that was there. -/

namespace Go.Proofs.YtchofahdcohibaaGreat
open Go.RowKit
set_option linter.unusedSimpArgs false
set_option linter.unusedVariables false

theorem l1Cross_any (ax ay bx by' cx cy : Int) (w : World) (ha : okP ax ay = true) (hb : okP bx by' = true) (hc : okP cx cy = true) :
    Calls Tryz.prog 102 #[.agg #[.int .i64 ax, .int .i64 ay], .agg #[.int .i64 bx, .int .i64 by'], .agg #[.int .i64 cx, .int .i64 cy]] w fun e w' => e = .returned (.int .i64 (crossI ax ay bx by' cx cy)) ∧ Below w.heap.size w w' := by
  obtain ⟨⟨a1, a2⟩, a3, a4⟩ := okP_bd ha
  obtain ⟨⟨b1, b2⟩, b3, b4⟩ := okP_bd hb
  obtain ⟨⟨c1, c2⟩, c3, c4⟩ := okP_bd hc
  clear ha hb hc
  unfold crossI
  obtain ⟨p1, p2⟩ := mul_bd (a := bx - ax) (b := cy - ay) (B := 5120) (C := 5120) (by omega) (by omega) (by omega) (by omega) (by omega)
  obtain ⟨q1, q2⟩ := mul_bd (a := by' - ay) (b := cx - ax) (B := 5120) (C := 5120) (by omega) (by omega) (by omega) (by omega) (by omega)
  go_enter Tryz.func102, Tryz.ntmps102
  go_wp2
  go_ret
  exact ⟨rfl, by (repeat (first | exact Below.refl _ _ | assumption | refine Below.drew ?_ | refine bl_alloc ?_ _ | refine bl_then ?_ (by assumption) | refine Below.setCell ?_ (by first | omega | (simp; done) | (simp; omega)) _ | refine bl_store ?_ ?_ _ _))⟩

theorem l1Distance_any (ax ay bx by' : Int) (w : World) (ha : okP ax ay = true) (hb : okP bx by' = true) :
    Calls Tryz.prog 101 #[.agg #[.int .i64 ax, .int .i64 ay], .agg #[.int .i64 bx, .int .i64 by']] w fun e w' => e = .returned (.int .i64 (distI ax ay bx by')) ∧ Below w.heap.size w w' := by
  obtain ⟨⟨a1, a2⟩, a3, a4⟩ := okP_bd ha
  obtain ⟨⟨b1, b2⟩, b3, b4⟩ := okP_bd hb
  clear ha hb
  have hd : Hid (distI ax ay bx by' = (ax - bx) * (ax - bx) + (ay - by') * (ay - by')) := by
    show _ = _
    unfold distI
    rw [← Int.neg_sub ax bx, ← Int.neg_sub ay by', Int.neg_mul_neg, Int.neg_mul_neg]
  obtain ⟨p1, p2⟩ := mul_bd (a := ax - bx) (b := ax - bx) (B := 5120) (C := 5120) (by omega) (by omega) (by omega) (by omega) (by omega)
  obtain ⟨q1, q2⟩ := mul_bd (a := ay - by') (b := ay - by') (B := 5120) (C := 5120) (by omega) (by omega) (by omega) (by omega) (by omega)
  go_enter Tryz.func101, Tryz.ntmps101
  go_wp2
  go_ret
  exact ⟨ret_int hd.out.symm, by (repeat (first | exact Below.refl _ _ | assumption | refine Below.drew ?_ | refine bl_alloc ?_ _ | refine bl_then ?_ (by assumption) | refine Below.setCell ?_ (by first | omega | (simp; done) | (simp; omega)) _ | refine bl_store ?_ ?_ _ _))⟩

/-- Both within 5120, either way. -/
def Df (x y : Int) : Prop := (-5120 ≤ x ∧ x ≤ 5120) ∧ (-5120 ≤ y ∧ y ≤ 5120)

theorem wayOf_any (ax ay bx by' : Int) (w : World) (ha : okP ax ay = true) (hb : okP bx by' = true) :
    Calls Tryz.prog 130 #[.agg #[.int .i64 ax, .int .i64 ay], .agg #[.int .i64 bx, .int .i64 by']] w fun e w' => e = .returned (.agg #[.int .i64 (bx - ax), .int .i64 (by' - ay)]) ∧ Below w.heap.size w w' := by
  obtain ⟨⟨a1, a2⟩, a3, a4⟩ := okP_bd ha
  obtain ⟨⟨b1, b2⟩, b3, b4⟩ := okP_bd hb
  clear ha hb
  go_enter Tryz.func130, Tryz.ntmps130
  go_wp2
  exact bodyPost_ret (v := .agg #[.int .i64 (bx - ax), .int .i64 (by' - ay)]) (by simp [results, Tryz.results130, go_sem]) rfl ⟨rfl, by (repeat (first | exact Below.refl _ _ | assumption | refine Below.drew ?_ | refine bl_alloc ?_ _ | refine bl_then ?_ (by assumption) | refine Below.setCell ?_ (by first | omega | (simp; done) | (simp; omega)) _ | refine bl_store ?_ ?_ _ _))⟩

theorem dotOf_any (ax ay bx by' : Int) (w : World) (ha : Df ax ay) (hb : Df bx by') :
    Calls Tryz.prog 131 #[.agg #[.int .i64 ax, .int .i64 ay], .agg #[.int .i64 bx, .int .i64 by']] w fun e w' => e = .returned (.int .i64 (ax * bx + ay * by')) ∧ Below w.heap.size w w' := by
  obtain ⟨⟨a1, a2⟩, a3, a4⟩ := ha
  obtain ⟨⟨b1, b2⟩, b3, b4⟩ := hb
  obtain ⟨p1, p2⟩ := mul_bd (a := ax) (b := bx) (B := 5120) (C := 5120) (by omega) (by omega) (by omega) (by omega) (by omega)
  obtain ⟨q1, q2⟩ := mul_bd (a := ay) (b := by') (B := 5120) (C := 5120) (by omega) (by omega) (by omega) (by omega) (by omega)
  go_enter Tryz.func131, Tryz.ntmps131
  go_wp2
  go_ret
  exact ⟨rfl, by (repeat (first | exact Below.refl _ _ | assumption | refine Below.drew ?_ | refine bl_alloc ?_ _ | refine bl_then ?_ (by assumption) | refine Below.setCell ?_ (by first | omega | (simp; done) | (simp; omega)) _ | refine bl_store ?_ ?_ _ _))⟩

theorem squareOf_any (ax ay : Int) (w : World) (ha : Df ax ay) :
    Calls Tryz.prog 129 #[.agg #[.int .i64 ax, .int .i64 ay]] w fun e w' => e = .returned (.int .i64 (ax * ax + ay * ay)) ∧ Below w.heap.size w w' := by
  have HA : Hid (Df ax ay) := ha
  clear ha
  go_enter Tryz.func129, Tryz.ntmps129
  go_wp2_with (go_at_call 131; refine (dotOf_any _ _ _ _ _ HA.out HA.out).mono ?_; rintro e w' ⟨rfl, hb1⟩)
  go_ret
  exact ⟨rfl, by (repeat (first | exact Below.refl _ _ | assumption | refine Below.drew ?_ | refine bl_alloc ?_ _ | refine bl_then ?_ (by assumption) | refine Below.setCell ?_ (by first | omega | (simp; done) | (simp; omega)) _ | refine bl_store ?_ ?_ _ _))⟩

/-- Whether a is above b neither in X nor in Y. -/
def upB (ax ay bx by' : Int) : Bool := decide (ax ≤ bx) && decide (ay ≤ by')
end Go.Proofs.YtchofahdcohibaaGreat
/- toPointS hands back the same points in new memory; eqPointS tells that two lists are the same. -/

namespace Go.Proofs.YtchofahdcohibaaGreat
open Go.RowKit
set_option linter.unusedSimpArgs false
set_option linter.unusedVariables false

/-- A list of n points that came in: there is none, or they lie at an address. -/
def IsPts (w : World) (a : Option Addr) (n : Nat) (X Y : Nat → Int) : Prop :=
  n = 0 ∨ ∃ b off, a = some ⟨b, off, none⟩ ∧ b < w.heap.size ∧ PtsAt w b off n X Y
theorem IsPts.below {w w' : World} {a : Option Addr} {n : Nat} {X Y : Nat → Int} (h : IsPts w a n X Y) (hb : Below w.heap.size w w') : IsPts w' a n X Y := by
  rcases h with h | ⟨b, off, e, hl, hp⟩
  · exact .inl h
  · exact .inr ⟨b, off, e, Nat.lt_of_lt_of_le hl hb.size, hp.below hb hl⟩

theorem There.set {W : World} {r n : Nat} (h : There W r n) (o : Nat) (v : Value) : There (W.setCell ⟨r, o, none⟩ v) r n := fun o' ho => by
  obtain ⟨u, hu⟩ := (h o' ho).1
  refine ⟨?_, ?_⟩
  · by_cases e : o = o'
    · subst e
      exact ⟨v, World.cell?_setCell_same _ _ _ (by rw [hu])⟩
    · exact ⟨u, by rw [World.cell?_setCell_other]; exact hu; simp [e]⟩
  · rw [World.frozen?_setCell]; exact (h o' ho).2

theorem fill_step {W : World} {B n k : Nat} {X Y : Nat → Int} (hT : There W B (n * 2)) (hk : k < n) (hp : PtsAt W B 0 k X Y) :
    PtsAt ((W.setCell ⟨B, k * 2, none⟩ (.int .i64 (X k))).setCell ⟨B, k * 2 + 1, none⟩ (.int .i64 (Y k))) B 0 (k + 1) X Y := fun i hi => by
  by_cases e : i = k
  · subst e
    obtain ⟨u, hu⟩ := (hT (i * 2) (by omega)).1
    obtain ⟨v, hv⟩ := ((hT.set (i * 2) (.int .i64 (X i))) (i * 2 + 1) (by omega)).1
    refine ⟨?_, ?_⟩
    · rw [World.cell?_setCell_other]
      · simpa using World.cell?_setCell_same _ _ _ (by rw [hu])
      · simp
    · simpa using World.cell?_setCell_same _ _ _ (by rw [hv])
  · obtain ⟨h1, h2⟩ := hp i (by omega)
    refine ⟨?_, ?_⟩
    · rw [World.cell?_setCell_other, World.cell?_setCell_other]
      · exact h1
      · simp <;> omega
      · simp <;> omega
    · rw [World.cell?_setCell_other, World.cell?_setCell_other]
      · exact h2
      · simp <;> omega
      · simp <;> omega

theorem info_ip : (Tryz.prog.info? 58).map (fun i => (i.zero, i.size, i.bytes)) = some (some (.agg #[.int .i64 0, .int .i64 0]), 2, 16) := by kernel_rfl
theorem make_pts (n : Nat) (h : n ≤ 1048576) (w : World) :
    (Instr.makeSlice 34 (.int .i64 (n : Int)) (.int .i64 (n : Int))).run Tryz.prog w = .ok (.slice (some ⟨w.heap.size, 0, none⟩) n n) (w.alloc (.cells (madeCells #[.int .i64 0, .int .i64 0] (n * 2)) 58)) := by
  obtain ⟨i, hi, hz, hs, hb⟩ := info_parts info_ip
  have hr := run_make (P := Tryz.prog) w 34 58 i _ Tryz.underlying34 hi hz .i64 .i64 (n : Int) (n : Int) (by omega) (Int.le_refl _) (by rw [hb]; omega) (by omega)
  simp only [Int.toNat_natCast, hs] at hr
  exact hr
theorem there_made (n : Nat) (w : World) (t : TypeId) : There (w.alloc (.cells (madeCells #[.int .i64 0, .int .i64 0] n) t)) w.heap.size n := fun o ho => by
  have hz := size_madeCells #[.int .i64 0, .int .i64 0] n
  refine ⟨⟨(madeCells #[.int .i64 0, .int .i64 0] n)[o]'(by rw [hz]; exact ho), ?_⟩, World.frozen?_alloc_at _ _ _ _ rfl⟩
  rw [World.cell?_alloc_at _ _ _ _ rfl]
  exact Array.getElem?_eq_getElem _

end Go.Proofs.YtchofahdcohibaaGreat
