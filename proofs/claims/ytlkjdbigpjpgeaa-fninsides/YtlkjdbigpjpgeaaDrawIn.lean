/- Drawn arguments of IsInside, BoxOf and DoMeet: whatever they are, nothing that was there is written. -/
import Derived.Test.YtlkjdbigpjpgeaaMany
import Derived.Test.YtlkjdbigpjpgeaaDraw4
import Derived.Test.YtlkjdbigpjpgeaaList
namespace Go.Proofs.Ytlkjdbigpjpgeaa
open Go.RowKit
set_option linter.unusedSimpArgs false
set_option linter.unusedVariables false

theorem l1Pick_new2 (a : Option Addr) (n cap : Nat) (Z : Nat → Int) (s t : Nat) (x0 x1 : Int) (w : World) (T : TypeId) (h : Src a n cap Z s t w) (hcap : n ≤ cap) (ht : t ≤ 900) :
    Calls Try.prog 44 #[.pointer (some ⟨s, 0, none⟩), .slice (some ⟨w.heap.size, 0, none⟩) 2 2] (w.alloc (.cells #[.int .i64 x0, .int .i64 x1] T)) fun e w' => ∃ x : Int, e = .returned (.int .i64 x) ∧ (x = x0 ∨ x = x1) ∧ Src a n cap Z s (t + 1) w' ∧ Keeps s w w' := by
  have hsl : s < w.heap.size := World.block_lt_of_cell? _ _ h.code
  have hb : Below w.heap.size w (w.alloc (.cells #[.int .i64 x0, .int .i64 x1] T)) := by (repeat (first | exact Below.refl _ _ | assumption | refine Below.drew ?_ | refine bl_alloc ?_ _ | refine bl_then ?_ (by assumption) | refine Below.setCell ?_ (by first | omega | (simp; done) | (simp; omega)) _ | refine bl_store ?_ ?_ _ _))
  have HS : Hid (Src a n cap Z s t (w.alloc (.cells #[.int .i64 x0, .int .i64 x1] T))) := h.below hb
  have HB : Hid (Below w.heap.size w (w.alloc (.cells #[.int .i64 x0, .int .i64 x1] T))) := hb
  have hV : ∀ i, i < 2 → (w.alloc (.cells #[.int .i64 x0, .int .i64 x1] T)).cell? ⟨w.heap.size, i, none⟩ = some (.int .i64 (if i = 0 then x0 else x1)) := fun i hi => by
    have hc : i = 0 ∨ i = 1 := by omega
    rcases hc with rfl | rfl <;> simp [go_sem]
  have HV := (show Hid _ from hV)
  clear h hb hV
  generalize hW : (w.alloc (.cells #[.int .i64 x0, .int .i64 x1] T) : World) = W at *
  have hlt : w.heap.size < W.heap.size := by subst hW; simp
  clear hW
  go_enter Try.func44, Try.ntmps44
  go_wp2_with fail
  refine (l1Next_any a n cap Z s t 2 _ HS.out hcap (by omega) (by omega) (by omega)).mono ?_
  rintro e w1 ⟨v, rfl, hv, hS1, hK1⟩
  have hc := (hK1.cell (p := ⟨w.heap.size, v, none⟩) hlt (show w.heap.size ≠ s by omega)).trans (HV.out v hv)
  have hvi : (v : Int) < 2 := by omega
  have HS1 : Hid (Src a n cap Z s (t + 1) w1) := hS1
  have HK1 : Hid (Keeps s w w1) := (Keeps.of_below HB.out).trans hK1
  have HX : Hid ((if v = 0 then x0 else x1) = x0 ∨ (if v = 0 then x0 else x1) = x1) := by show _ ∨ _; split <;> simp
  clear hS1 hK1 HV HB HS
  clear HX
  by_cases h0 : v = 0
  · rw [if_pos h0] at hc
    clear h0
    go_wp2
    go_ret
    exact ⟨_, rfl, .inl rfl, HS1.out, HK1.out⟩
  · rw [if_neg h0] at hc
    clear h0
    go_wp2
    go_ret
    exact ⟨_, rfl, .inr rfl, HS1.out, HK1.out⟩

/-- A row of numbers of which we own the block holds points. -/
theorem ring_of {w : World} {base : Nat} {e : TypeId} {v : Value} {k : Nat} {xs : List Value} (h : w.ownsRow base e 2 v k xs) (hn : Nums xs) (hne : v ≠ .slice none 0 0) :
    ∃ (b cp : Nat) (X Y : Nat → Int), v = .slice (some ⟨b, 0, none⟩) k cp ∧ base ≤ b ∧ b < w.heap.size ∧ k ≤ cp ∧ PtsAt w b 0 k X Y := by
  obtain ⟨h1, h2 | ⟨g, cp, cur, rfl, hg, hh, hkc, hcm, hcs, htk⟩⟩ := h
  · exact absurd h2.1 hne
  · have hgl : g < w.heap.size := by
      rcases Nat.lt_or_ge g w.heap.size with h' | h'
      · exact h'
      · rw [Array.getElem?_eq_none h'] at hh; cases hh
    have hx : ∀ j, j < k * 2 → ∃ z : Int, w.cell? ⟨g, j, none⟩ = some (.int .i64 z) := fun j hj => by
      have hc := World.ownsRow.cellAt (w := w) (base := base) (e := e) (size := 2) (g := g) (cap := cp) (n := k) (xs := xs) ⟨h1, .inr ⟨g, cp, cur, rfl, hg, hh, hkc, hcm, hcs, htk⟩⟩ j hj
      have hjl : j < xs.length := by omega
      obtain ⟨z, hz⟩ := hn (xs[j]) (List.getElem_mem hjl)
      refine ⟨z, ?_⟩
      rw [hc]
      simp [hjl, hz]
    refine ⟨g, cp, fun i => if h : i < k then (hx (i * 2) (by omega)).choose else 0, fun i => if h : i < k then (hx (i * 2 + 1) (by omega)).choose else 0, rfl, hg, hgl, hkc, fun i hi => ?_⟩
    simp only [Nat.zero_add, hi, dite_true]
    exact ⟨(hx (i * 2) (by omega)).choose_spec, (hx (i * 2 + 1) (by omega)).choose_spec⟩

/-- A slice of points behind what was there. -/
def Ring (w w' : World) (v : Value) : Prop := ∃ (b k cp : Nat) (X Y : Nat → Int), v = .slice (some ⟨b, 0, none⟩) k cp ∧ w.heap.size ≤ b ∧ b < w'.heap.size ∧ k ≤ 41 ∧ k ≤ cp ∧ PtsAt w' b 0 k X Y

theorem PtsAt.set {w : World} {b off n r o : Nat} {X Y : Nat → Int} {v : Value} (h : PtsAt w b off n X Y) (hr : r ≠ b) : PtsAt (w.setCell ⟨r, o, none⟩ v) b off n X Y := fun i hi =>
  ⟨by rw [World.cell?_setCell_other]; exact (h i hi).1; intro e; injection e with e; omega, by rw [World.cell?_setCell_other]; exact (h i hi).2; intro e; injection e with e; omega⟩
theorem ring_fin {w wz : World} {base r k : Nat} {e : TypeId} {v u0 u1 : Value} {xs : List Value} (hO : wz.ownsRow base e 2 v k xs) (hN : Nums xs) (hE : v ≠ .slice none 0 0) (hk : k ≤ 41) (hr : r < base) (hw : w.heap.size ≤ base) :
    Ring w ((wz.setCell ⟨r, 0, none⟩ u0).setCell ⟨r, 1, none⟩ u1) v := by
  obtain ⟨b, cp, X, Y, hv, h1, h2, h3, h4⟩ := ring_of hO hN hE
  refine ⟨b, k, cp, X, Y, hv, by omega, ?_, hk, h3, (h4.set (by omega)).set (by omega)⟩
  have := (((Below.refl r wz).setCell (p := ⟨r, 0, none⟩) (Nat.le_refl _) u0).setCell (p := ⟨r, 1, none⟩) (Nat.le_refl _) u1).size
  omega
theorem There.belowB {W W' : World} {r n B : Nat} (h : There W r n) (hb : Below B W W') (hr : r < B) : There W' r n := fun o ho => by
  obtain ⟨u, hu⟩ := (h o ho).1
  exact ⟨⟨u, (hb.cell (p := ⟨r, o, none⟩) hr).trans hu⟩, (hb.frozen (p := ⟨r, o, none⟩) hr).trans (h o ho).2⟩
/-- The two cells of a point. -/
def Two (w : World) (p : Nat) (x y : Int) : Prop := w.cell? ⟨p, 0, none⟩ = some (.int .i64 x) ∧ w.cell? ⟨p, 1, none⟩ = some (.int .i64 y)
theorem Two.keeps {w w' : World} {p s : Nat} {x y : Int} (h : Two w p x y) (hk : Keeps s w w') (hp : p ≠ s) : Two w' p x y :=
  ⟨(hk.cell (p := ⟨p, 0, none⟩) (World.block_lt_of_cell? _ _ h.1) hp).trans h.1, (hk.cell (p := ⟨p, 1, none⟩) (World.block_lt_of_cell? _ _ h.2) hp).trans h.2⟩
theorem nums_rep : ∀ n : Nat, Nums (List.replicate n (.int .i64 0)) := fun n u hu => ⟨0, (List.mem_replicate.1 hu).2⟩

set_option maxHeartbeats 4000000 in
theorem DrawIsInside_any (a : Option Addr) (n cap : Nat) (Z : Nat → Int) (w : World) (h : IsBytes w a n Z) (hrng : ∀ i, 0 ≤ Z i ∧ Z i ≤ 255) (hn : n ≤ 1048576) (hcap : n ≤ cap) :
    Calls Try.prog 18 #[.slice a n cap] w fun e w' => ∃ (px py : Int) (v : Value), e = .returned (.tuple #[.agg #[.int .i64 px, .int .i64 py], v]) ∧ Ring w w' v ∧ Below w.heap.size w w' := by
  have HI : Hid (IsBytes w a n Z) := h
  have HR : Hid (∀ i, 0 ≤ Z i ∧ Z i ≤ 255) := hrng
  obtain ⟨i0, hi, hz0, hz1, hz2⟩ := info_parts info_ipm
  clear h hrng
  go_enter Try.func18, Try.ntmps18
  go_wp2_with fail
  generalize hW : (w.alloc _ : World) = W
  have hB0 : Below w.heap.size w W := by subst hW; (repeat (first | exact Below.refl _ _ | assumption | refine Below.drew ?_ | refine bl_alloc ?_ _ | refine bl_then ?_ (by assumption) | refine Below.setCell ?_ (by first | omega | (simp; done) | (simp; omega)) _ | refine bl_store ?_ ?_ _ _))
  have hsz : W.heap.size = w.heap.size + 1 := by subst hW; simp
  have hT : There W w.heap.size 2 := fun o ho => by
    subst hW
    have hc : o = 0 ∨ o = 1 := by omega
    rcases hc with rfl | rfl <;> exact ⟨⟨_, by simp [go_sem]; rfl⟩, by simp [go_sem]⟩
  clear hW
  have HT : Hid (There W w.heap.size 2) := hT
  have HB0 : Hid (Below w.heap.size w W) := hB0
  have HZ : Hid (W.heap.size = w.heap.size + 1) := hsz
  have HI1 : Hid (IsBytes W a n Z) := HI.out.below hB0
  clear hB0 hsz HI hT
  refine (l1Source_ex _ _ _ _).mono ?_
  rintro e w1 ⟨rfl, hw1⟩
  have hS1 : Src a n cap Z W.heap.size 0 w1 := by rw [← hw1]; exact src_start a n cap Z W HI1.out HR.out hn
  have hb1 : Below W.heap.size W w1 := by rw [← hw1]; unfold srcW; (repeat (first | exact Below.refl _ _ | assumption | refine Below.drew ?_ | refine bl_alloc ?_ _ | refine bl_then ?_ (by assumption) | refine Below.setCell ?_ (by first | omega | (simp; done) | (simp; omega)) _ | refine bl_store ?_ ?_ _ _))
  have HS1 : Hid (Src a n cap Z W.heap.size 0 w1) := hS1
  have HK1 : Hid (Keeps W.heap.size W w1) := Keeps.of_below hb1
  clear hw1 hS1 hb1 HI1
  go_wp2_with fail
  refine (l1Bent_any a n cap Z _ 0 _ HS1.out hcap (by omega)).mono ?_
  rintro e w2 ⟨x0, y0, t2, rfl, ht2, hS2, hK2⟩
  have HS2 : Hid (Src a n cap Z W.heap.size t2 w2) := hS2
  have HK2 : Hid (Keeps W.heap.size W w2) := HK1.out.trans hK2
  have hs2 : W.heap.size < w2.heap.size := World.block_lt_of_cell? _ _ hS2.code
  clear hS2 hK2 HS1 HK1
  go_wp2_with fail
  generalize hV : (w2.alloc _ : World) = V
  have hBV : Below w2.heap.size w2 V := by subst hV; (repeat (first | exact Below.refl _ _ | assumption | refine Below.drew ?_ | refine bl_alloc ?_ _ | refine bl_then ?_ (by assumption) | refine Below.setCell ?_ (by first | omega | (simp; done) | (simp; omega)) _ | refine bl_store ?_ ?_ _ _))
  have hP : Two V w2.heap.size x0 y0 := by subst hV; exact ⟨by simp [go_sem], by simp [go_sem]⟩
  clear hV
  have HP : Hid (Two V w2.heap.size x0 y0) := hP
  have HSV : Hid (Src a n cap Z W.heap.size t2 V) := HS2.out.below hBV
  have HKV : Hid (Keeps W.heap.size W V) := HK2.out.trans (Keeps.of_below hBV)
  have hlV : w2.heap.size < V.heap.size := World.block_lt_of_cell? _ _ hP.1
  clear hBV hP HS2 HK2
  refine (l1Many_any a n cap Z _ t2 7 _ HSV.out hcap (by omega) (by omega) (by omega)).mono ?_
  rintro e w3 ⟨v, k, t3, xs, rfl, hk, ht3, hO3, hE, hN, hS3, hK3⟩
  have HS3 : Hid (Src a n cap Z W.heap.size t3 w3) := hS3
  have HK3 : Hid (Keeps W.heap.size W w3) := HKV.out.trans hK3
  have HP3 : Hid (Two w3 w2.heap.size x0 y0) := HP.out.keeps hK3 (by omega)
  have HO3 : Hid (w3.ownsRow V.heap.size 25 2 v k xs) := hO3
  have HE : Hid (v ≠ .slice none 0 0) := hE
  have HN : Hid (Nums xs) := hN
  have hl3 : V.heap.size ≤ w3.heap.size := hK3.size
  clear hS3 hK3 HSV HKV HP hO3 hE hN
  go_wp2_with fail
  refine (l1Next_any a n cap Z _ t3 10 _ HS3.out hcap (by omega) (by omega) (by omega)).mono ?_
  rintro e w4 ⟨c, rfl, hc, hS4, hK4⟩
  have HS4 : Hid (Src a n cap Z W.heap.size (t3 + 1) w4) := hS4
  have HK4 : Hid (Keeps W.heap.size W w4) := HK3.out.trans hK4
  have HP4 : Hid (Two w4 w2.heap.size x0 y0) := HP3.out.keeps hK4 (by omega)
  have HO4 : Hid (w4.ownsRow V.heap.size 25 2 v k xs) := ownsRow_keeps HO3.out hK4 (by omega)
  have HT4 : Hid (There w4 w.heap.size 2) := HT.out.keeps HK4.out (by have := HZ.out; omega)
  have hl4 : V.heap.size ≤ w4.heap.size := Nat.le_trans hl3 hK4.size
  clear hS4 hK4 HS3 HK3 HP3 HO3 HT
  by_cases hc0 : c = 0
  · have hci : ((c : Int) == 0) = true := by simp; omega
    clear hc hc0
    go_wp2_with fail
    refine (l1Bent_any a n cap Z _ (t3 + 1) _ HS4.out hcap (by omega)).mono ?_
    rintro e w5 ⟨x, y, t5, rfl, ht5, hS5, hK5⟩
    have HK5 : Hid (Keeps W.heap.size W w5) := HK4.out.trans hK5
    have HP5 : Hid (Two w5 w2.heap.size x0 y0) := HP4.out.keeps hK5 (by omega)
    have HO5 : Hid (w5.ownsRow V.heap.size 25 2 v k xs) := ownsRow_keeps HO4.out hK5 (by omega)
    have HT5 : Hid (There w5 w.heap.size 2) := HT4.out.keeps hK5 (by have := HZ.out; omega)
    have hl5 : V.heap.size ≤ w5.heap.size := Nat.le_trans hl4 hK5.size
    clear hS5 hK5 HS4 HK4 HP4 HO4 HT4
    go_wp2_with (first
      | (at_builtin; go_must (refine wpList_append_own _ rfl _ _ 36 rfl V.heap.size 25 i0 (.agg #[.int .i64 0, .int .i64 0]) 2 16 Try.underlying36 hi hz0 hz1 hz2 rfl (by decide) _ k xs rfl (HO5.out.alloc _) ⟨w5.heap.size, 0, none⟩ 1 1 [.int .i64 x, .int .i64 y] rfl rfl ?c1 ?c2 ?c3 ?c4 ?c5 ?_)))
    case c1 =>
      intro q u hq
      match q, hq with
      | 0, hq => simp at hq; subst hq; simp [Addr.add, go_sem]
      | 1, hq => simp at hq; subst hq; simp [Addr.add, go_sem]
      | q + 2, hq => simp at hq
    case c2 => intro u hu; simp at hu; rcases hu with rfl | rfl <;> rfl
    case c3 => unfold maxLen; omega
    case c4 => omega
    case c5 => simp; omega
    intro v' w6 hown' hgrow hnil
    have HE6 : Hid (v' ≠ .slice none 0 0) := hnil
    have hBg : Below V.heap.size (w5.alloc (.cells #[.int .i64 x, .int .i64 y] 25)) w6 := (Below.refl _ _).grown hgrow (by simp; omega) (fun k hk => (HO5.out.lt k hk).1)
    have hBa : Below V.heap.size w5 (w5.alloc (.cells #[.int .i64 x, .int .i64 y] 25)) := (Below.refl _ _).alloc hl5 _
    have hB6 : Below V.heap.size w5 w6 := hBa.trans hBg
    have HO6 : Hid (w6.ownsRow V.heap.size 25 2 v' (k + 1) (xs ++ [.int .i64 x, .int .i64 y])) := hown'
    have hBW : Below W.heap.size w5 w6 := hB6.mono (by omega)
    have HK6 : Hid (Keeps W.heap.size W w6) := HK5.out.thenB hBW
    have hP6 : Two w6 w2.heap.size x0 y0 := ⟨(hB6.cell (p := ⟨w2.heap.size, 0, none⟩) hlV).trans HP5.out.1, (hB6.cell (p := ⟨w2.heap.size, 1, none⟩) hlV).trans HP5.out.2⟩
    have hT6 : There w6 w.heap.size 2 := HT5.out.belowB hB6 (by have := HZ.out; omega)
    clear hown' hgrow hBg hBa hnil hB6 hBW
    have t0 := hT6.cell 0 (by omega)
    have t1 := hT6.cell 1 (by omega)
    have f0 := (hT6 0 (by omega)).2
    have f1 := (hT6 1 (by omega)).2
    have q0 := hP6.1
    have q1 := hP6.2
    go_wp2
    refine bodyPost_ret (v := .tuple #[.agg #[.int .i64 x0, .int .i64 y0], _]) (by simp [results, Try.results18, go_sem, set2_0 (Option.isSome_iff_exists.2 ⟨_, t0⟩), set2_1 (Option.isSome_iff_exists.2 ⟨_, t1⟩)]) rfl ⟨x0, y0, _, rfl, ring_fin HO6.out (HN.out.add x y) HE6.out (by omega) (by have := HZ.out; omega) (by have := HZ.out; omega), ?_⟩
    exact ((HB0.out.trans (HK6.out.below (by have := HZ.out; omega) (by have := HZ.out; omega))).setCell (Nat.le_refl _) _).setCell (Nat.le_refl _) _

  have hci : ((c : Int) == 0) = false := by simp; omega
  by_cases hc1 : c = 1
  · have hcj : ((c : Int) == 1) = true := by simp; omega
    clear hc hc0 hc1
    go_wp2_with fail
    refine (l1Pick_new2 a n cap Z _ (t3 + 1) _ _ _ _ HS4.out hcap (by omega)).mono ?_
    rintro e w5 ⟨x, rfl, hx, hS5, hK5⟩
    have HK5 : Hid (Keeps W.heap.size W w5) := HK4.out.trans hK5
    have HP5 : Hid (Two w5 w2.heap.size x0 y0) := HP4.out.keeps hK5 (by omega)
    have HT5 : Hid (There w5 w.heap.size 2) := HT4.out.keeps hK5 (by have := HZ.out; omega)
    have hl5 : V.heap.size ≤ w5.heap.size := Nat.le_trans hl4 hK5.size
    clear hS5 hK5 HS4 HK4 HP4 HO4 HT4 HE HN
    rcases hx with rfl | rfl
    · obtain ⟨mk, hmk, hmw⟩ : ∃ f : World → World, (∀ w : World, (Instr.makeSlice 36 (.int .i64 40) (.int .i64 40)).run Try.prog w = .ok (.slice (some ⟨w.heap.size, 0, none⟩) 40 40) (f w)) ∧ ∀ w : World, f w = w.alloc (.cells (Array.replicate 80 (.int .i64 0)) 25) :=
        ⟨fun w => w.alloc (.cells (Array.replicate 80 (.int .i64 0)) 25), fun _ => by kernel_rfl, fun _ => rfl⟩
      have hB6 : Below w5.heap.size w5 (mk w5) := by rw [hmw]; exact (Below.refl _ _).alloc (Nat.le_refl _) _
      have HO6 : Hid ((mk w5).ownsRow V.heap.size 25 2 (.slice (some ⟨w5.heap.size, 0, none⟩) 40 40) 40 (List.replicate 80 (.int .i64 0))) := by
        show World.ownsRow _ _ _ _ _ _ _
        rw [hmw]
        exact World.ownsRow_lit w5 (Array.replicate 80 (.int .i64 0)) 40 hl5 (by decide) (by simp)
      have HK6 : Hid (Keeps W.heap.size W (mk w5)) := HK5.out.trans (Keeps.of_below hB6)
      have hP6 : Two (mk w5) w2.heap.size x0 y0 := HP5.out.keeps (Keeps.of_below (s := W.heap.size) hB6) (by omega)
      have hT6 : There (mk w5) w.heap.size 2 := HT5.out.below hB6
      clear hB6 hmw
      have t0 := hT6.cell 0 (by omega)
      have t1 := hT6.cell 1 (by omega)
      have f0 := (hT6 0 (by omega)).2
      have f1 := (hT6 1 (by omega)).2
      have q0 := hP6.1
      have q1 := hP6.2
      go_wp2
      refine bodyPost_ret (v := .tuple #[.agg #[.int .i64 x0, .int .i64 y0], _]) (by simp [results, Try.results18, go_sem, set2_0 (Option.isSome_iff_exists.2 ⟨_, t0⟩), set2_1 (Option.isSome_iff_exists.2 ⟨_, t1⟩)]) rfl ⟨x0, y0, _, rfl, ring_fin HO6.out (nums_rep _) (fun h => by cases h) (by omega) (by have := HZ.out; omega) (by have := HZ.out; omega), ?_⟩
      exact ((HB0.out.trans (HK6.out.below (by have := HZ.out; omega) (by have := HZ.out; omega))).setCell (Nat.le_refl _) _).setCell (Nat.le_refl _) _
    · obtain ⟨mk, hmk, hmw⟩ : ∃ f : World → World, (∀ w : World, (Instr.makeSlice 36 (.int .i64 41) (.int .i64 41)).run Try.prog w = .ok (.slice (some ⟨w.heap.size, 0, none⟩) 41 41) (f w)) ∧ ∀ w : World, f w = w.alloc (.cells (Array.replicate 82 (.int .i64 0)) 25) :=
        ⟨fun w => w.alloc (.cells (Array.replicate 82 (.int .i64 0)) 25), fun _ => by kernel_rfl, fun _ => rfl⟩
      have hB6 : Below w5.heap.size w5 (mk w5) := by rw [hmw]; exact (Below.refl _ _).alloc (Nat.le_refl _) _
      have HO6 : Hid ((mk w5).ownsRow V.heap.size 25 2 (.slice (some ⟨w5.heap.size, 0, none⟩) 41 41) 41 (List.replicate 82 (.int .i64 0))) := by
        show World.ownsRow _ _ _ _ _ _ _
        rw [hmw]
        exact World.ownsRow_lit w5 (Array.replicate 82 (.int .i64 0)) 41 hl5 (by decide) (by simp)
      have HK6 : Hid (Keeps W.heap.size W (mk w5)) := HK5.out.trans (Keeps.of_below hB6)
      have hP6 : Two (mk w5) w2.heap.size x0 y0 := HP5.out.keeps (Keeps.of_below (s := W.heap.size) hB6) (by omega)
      have hT6 : There (mk w5) w.heap.size 2 := HT5.out.below hB6
      clear hB6 hmw
      have t0 := hT6.cell 0 (by omega)
      have t1 := hT6.cell 1 (by omega)
      have f0 := (hT6 0 (by omega)).2
      have f1 := (hT6 1 (by omega)).2
      have q0 := hP6.1
      have q1 := hP6.2
      go_wp2
      refine bodyPost_ret (v := .tuple #[.agg #[.int .i64 x0, .int .i64 y0], _]) (by simp [results, Try.results18, go_sem, set2_0 (Option.isSome_iff_exists.2 ⟨_, t0⟩), set2_1 (Option.isSome_iff_exists.2 ⟨_, t1⟩)]) rfl ⟨x0, y0, _, rfl, ring_fin HO6.out (nums_rep _) (fun h => by cases h) (by omega) (by have := HZ.out; omega) (by have := HZ.out; omega), ?_⟩
      exact ((HB0.out.trans (HK6.out.below (by have := HZ.out; omega) (by have := HZ.out; omega))).setCell (Nat.le_refl _) _).setCell (Nat.le_refl _) _
  have hcj : ((c : Int) == 1) = false := by simp; omega
  clear hc hc0 hc1
  · have hT4 := HT4.out
    have hP4 := HP4.out
    clear HT4 HP4
    have t0 := hT4.cell 0 (by omega)
    have t1 := hT4.cell 1 (by omega)
    have f0 := (hT4 0 (by omega)).2
    have f1 := (hT4 1 (by omega)).2
    have q0 := hP4.1
    have q1 := hP4.2
    go_wp2
    refine bodyPost_ret (v := .tuple #[.agg #[.int .i64 x0, .int .i64 y0], _]) (by simp [results, Try.results18, go_sem, set2_0 (Option.isSome_iff_exists.2 ⟨_, t0⟩), set2_1 (Option.isSome_iff_exists.2 ⟨_, t1⟩)]) rfl ⟨x0, y0, _, rfl, ring_fin HO4.out HN.out HE.out (by omega) (by have := HZ.out; omega) (by have := HZ.out; omega), ?_⟩
    exact ((HB0.out.trans (HK4.out.below (by have := HZ.out; omega) (by have := HZ.out; omega))).setCell (Nat.le_refl _) _).setCell (Nat.le_refl _) _

theorem Ring.below {w w1 w2 : World} {v : Value} (h : Ring w w1 v) (hb : Below w1.heap.size w1 w2) : Ring w w2 v := by
  obtain ⟨b, k, cp, X, Y, hv, h1, h2, h3, h4, h5⟩ := h
  exact ⟨b, k, cp, X, Y, hv, h1, Nat.lt_of_lt_of_le h2 hb.size, h3, h4, h5.below hb h2⟩

theorem DrawBoxOf_any (a : Option Addr) (n cap : Nat) (Z : Nat → Int) (w : World) (h : IsBytes w a n Z) (hrng : ∀ i, 0 ≤ Z i ∧ Z i ≤ 255) (hn : n ≤ 1048576) (hcap : n ≤ cap) :
    Calls Try.prog 21 #[.slice a n cap] w fun e w' => ∃ v : Value, e = .returned v ∧ Ring w w' v ∧ Below w.heap.size w w' := by
  have HI : Hid (IsBytes w a n Z) := h
  have HR : Hid (∀ i, 0 ≤ Z i ∧ Z i ≤ 255) := hrng
  clear h hrng
  go_enter Try.func21, Try.ntmps21
  go_wp2_with fail
  refine (DrawIsInside_any a n cap Z _ HI.out HR.out hn hcap).mono ?_
  rintro e w1 ⟨x, y, v, rfl, hR1, hB1⟩
  have HR1 : Hid (Ring w w1 v) := hR1
  have HB1 : Hid (Below w.heap.size w w1) := hB1
  clear hR1 hB1
  go_wp2
  go_ret
  exact ⟨_, rfl, HR1.out.below (by (repeat (first | exact Below.refl _ _ | assumption | refine Below.drew ?_ | refine bl_alloc ?_ _ | refine bl_then ?_ (by assumption) | refine Below.setCell ?_ (by first | omega | (simp; done) | (simp; omega)) _ | refine bl_store ?_ ?_ _ _))), HB1.out.alloc HB1.out.size _⟩
end Go.Proofs.Ytlkjdbigpjpgeaa
