/- The bounds of kids: the program's and the model's. -/
import Derived.Test.YtjnhaigmfjndhaaVFindBox16
import Derived.Test.YtjnhaigmfjndhaaVFindBox17
import Derived.Deep.CutBlock
import Derived.Deep.DeepCutAuto
namespace Go.Proofs.Ytjnhaigmfjndhaa
open Go.RowKit Go.Shelf
set_option linter.unusedSimpArgs false
set_option linter.unusedVariables false
set_option maxRecDepth 100000

theorem there_block {W : World} {r : Nat} {u : Array Value} {t : TypeId} (h : W.heap[r]? = some (.cells u t (0, 0))) : There W r u.size := fun o ho => ⟨⟨u[o], by simp [World.cell?, h, ho]⟩, by simp [World.frozen?, h]⟩
/-- Values laid one behind the other. -/
def lays (W : World) (r o : Nat) : List Value → World
  | [] => W
  | v :: vs => lays (W.setCell ⟨r, o, none⟩ v) r (o + 1) vs
theorem lays_there {r : Nat} {vs : List Value} : ∀ {W : World} {m : Nat} (o : Nat), There W r m → There (lays W r o vs) r m := by
  induction vs with
  | nil => exact fun o h => h
  | cons v vs ih => exact fun o h => ih (o + 1) (h.set o v)
theorem lays_old {r : Nat} {vs : List Value} : ∀ {W : World} (o : Nat) (j : Nat), j < o → (lays W r o vs).cell? ⟨r, j, none⟩ = W.cell? ⟨r, j, none⟩ := by
  induction vs with
  | nil => exact fun o j h => rfl
  | cons v vs ih => exact fun o j h => (ih (o + 1) j (by omega)).trans (set1_other (fun e => by injection e; omega))
theorem lays_at {r : Nat} {vs : List Value} : ∀ {W : World} (o : Nat), There W r (o + vs.length) → ∀ i (h : i < vs.length), (lays W r o vs).cell? ⟨r, o + i, none⟩ = some vs[i] := by
  induction vs with
  | nil => exact fun o hT i h => absurd h (by simp)
  | cons v vs ih =>
    intro W o hT i h
    match i, h with
    | 0, h =>
      refine (lays_old (o + 1) o (by omega)).trans ?_
      obtain ⟨u, hu⟩ := (hT o (by simp)).1
      exact World.cell?_setCell_same' _ _ _ (by rw [hu]; rfl)
    | i + 1, h =>
      have hT' : There (W.setCell ⟨r, o, none⟩ v) r (o + 1 + vs.length) := by
        have := hT.set o v
        rw [List.length_cons] at this
        rwa [show o + 1 + vs.length = o + (vs.length + 1) by omega]
      have := ih (o + 1) hT' i (by simp at h; omega)
      rw [show o + 1 + i = o + (i + 1) by omega] at this
      exact this
theorem lays_below {r n : Nat} {A : World} {vs : List Value} : ∀ {W : World} {o : Nat}, Below n A W → n ≤ r → Below n A (lays W r o vs) := by
  induction vs with
  | nil => exact fun h _ => h
  | cons v vs ih => exact fun h hr => ih (h.setCell (p := ⟨r, _, none⟩) hr v) hr
abbrev mid (a b : Int) : Int := (a + b) / 2
theorem middleOf_any (a b : Int) (w : World) (ha : -1024 ≤ a ∧ a ≤ 4096) (hb : -1024 ≤ b ∧ b ≤ 4096) : Calls Try.prog 92 #[.int .i64 a, .int .i64 b] w fun e w' => e = .returned (.int .i64 (mid a b)) ∧ w' = w := by
  go_enter Try.func92, Try.ntmps92
  go_wp2
  go_ret
  exact ⟨rfl, rfl⟩
theorem l5Half_any (a b : Int) (w : World) (ha : -1024 ≤ a ∧ a ≤ 4096) (hb : -1024 ≤ b ∧ b ≤ 4096) : Calls Try.prog 91 #[.int .i64 a, .int .i64 b] w fun e w' => e = .returned (.int .i64 (mid a b)) ∧ w' = w := by
  have hq := Int.mul_tdiv_add_tmod (a + b) 2
  have hr1 := Int.tmod_lt_of_pos (a + b) (show (0 : Int) < 2 by decide)
  have hr2 := Int.lt_tmod_of_pos (a + b) (show (0 : Int) < 2 by decide)
  have HQ : Hid (2 * (a + b).tdiv 2 + (a + b).tmod 2 = a + b) := hq
  clear hq
  go_enter Try.func91, Try.ntmps91
  go_wp2
  · have h0 : (a + b).tmod 2 < 0 := by assumption
    have hq := HQ.out
    go_ret
    refine ⟨ret_int ?_, rfl⟩
    unfold wrap64 mid
    omega
  · have h0 : 0 ≤ (a + b).tmod 2 := by assumption
    have hq := HQ.out
    go_ret
    refine ⟨ret_int ?_, rfl⟩
    unfold mid
    omega
/-- The bounds of a kid. -/
abbrev kx0 (a c : Int) (k : Nat) : Int := if k % 2 = 1 then mid a c + 1 else a
abbrev kx1 (a c : Int) (k : Nat) : Int := if k % 2 = 1 then c else mid a c
abbrev ky0 (b d : Int) (k : Nat) : Int := if 2 ≤ k then mid b d + 1 else b
abbrev ky1 (b d : Int) (k : Nat) : Int := if 2 ≤ k then d else mid b d

set_option maxHeartbeats 4000000 in
theorem kidBounds_any (a b c d : Int) (w : World) (ha : -1024 ≤ a ∧ a ≤ 4096) (hb : -1024 ≤ b ∧ b ≤ 4096) (hc : -1024 ≤ c ∧ c ≤ 4096) (hd : -1024 ≤ d ∧ d ≤ 4096) :
    Calls Try.prog 66 #[.agg #[.int .i64 a, .int .i64 b, .int .i64 c, .int .i64 d]] w fun e w' => e = .returned (.agg #[.int .i64 a, .int .i64 b, .int .i64 (mid a c), .int .i64 (mid b d), .int .i64 (mid a c + 1), .int .i64 b, .int .i64 c, .int .i64 (mid b d), .int .i64 a, .int .i64 (mid b d + 1), .int .i64 (mid a c), .int .i64 d, .int .i64 (mid a c + 1), .int .i64 (mid b d + 1), .int .i64 c, .int .i64 d]) ∧ Below w.heap.size w w' := by
  have m1 : -1024 ≤ mid a c ∧ mid a c ≤ 4096 := by unfold mid; omega
  have m2 : -1024 ≤ mid b d ∧ mid b d ≤ 4096 := by unfold mid; omega
  have HM1 : Hid (∀ W : World, Calls Try.prog 92 #[.int .i64 a, .int .i64 c] W fun e w' => e = .returned (.int .i64 (mid a c)) ∧ w' = W) := fun W => middleOf_any a c W ha hc
  have HM2 : Hid (∀ W : World, Calls Try.prog 92 #[.int .i64 b, .int .i64 d] W fun e w' => e = .returned (.int .i64 (mid b d)) ∧ w' = W) := fun W => middleOf_any b d W hb hd
  generalize mid a c = x at *
  generalize mid b d = y at *
  go_enter Try.func66, Try.ntmps66
  go_wp2_with fail
  generalize hV : ((w.alloc _).alloc _ : World) = V
  have hB0 : Below w.heap.size w V := by subst hV; (repeat (first | exact Below.refl _ _ | assumption | refine Below.drew ?_ | refine bl_alloc ?_ _ | refine bl_then ?_ (by assumption) | refine Below.setCell ?_ (by first | omega | (simp; done) | (simp; omega)) _ | refine bl_store ?_ ?_ _ _))
  have c0 : ∀ W', Below V.heap.size V W' → W'.cell? ⟨w.heap.size, 0, none⟩ = some (.int .i64 a) := fun W' h => by rw [h.cell (by subst hV; simp <;> omega)]; subst hV; simp [go_sem]
  have c1 : ∀ W', Below V.heap.size V W' → W'.cell? ⟨w.heap.size, 1, none⟩ = some (.int .i64 b) := fun W' h => by rw [h.cell (by subst hV; simp <;> omega)]; subst hV; simp [go_sem]
  have c2 : ∀ W', Below V.heap.size V W' → W'.cell? ⟨w.heap.size, 2, none⟩ = some (.int .i64 c) := fun W' h => by rw [h.cell (by subst hV; simp <;> omega)]; subst hV; simp [go_sem]
  have c3 : ∀ W', Below V.heap.size V W' → W'.cell? ⟨w.heap.size, 3, none⟩ = some (.int .i64 d) := fun W' h => by rw [h.cell (by subst hV; simp <;> omega)]; subst hV; simp [go_sem]
  have HT : Hid (There V (w.heap.size + 1) 16) := by
    show There _ _ _
    subst hV
    intro i hi
    have hb : ((w.alloc (.cells #[.int .i64 a, .int .i64 b, .int .i64 c, .int .i64 d] 36)).alloc (.cells #[Value.int .i64 0, Value.int .i64 0, Value.int .i64 0, Value.int .i64 0, Value.int .i64 0, Value.int .i64 0, Value.int .i64 0, Value.int .i64 0, Value.int .i64 0, Value.int .i64 0, Value.int .i64 0, Value.int .i64 0, Value.int .i64 0, Value.int .i64 0, Value.int .i64 0, Value.int .i64 0] 99)).heap[w.heap.size + 1]? = some (.cells #[Value.int .i64 0, Value.int .i64 0, Value.int .i64 0, Value.int .i64 0, Value.int .i64 0, Value.int .i64 0, Value.int .i64 0, Value.int .i64 0, Value.int .i64 0, Value.int .i64 0, Value.int .i64 0, Value.int .i64 0, Value.int .i64 0, Value.int .i64 0, Value.int .i64 0, Value.int .i64 0] 99 (0, 0)) := by
      have := World.alloc_heap_new (w.alloc (.cells #[.int .i64 a, .int .i64 b, .int .i64 c, .int .i64 d] 36)) (.cells #[Value.int .i64 0, Value.int .i64 0, Value.int .i64 0, Value.int .i64 0, Value.int .i64 0, Value.int .i64 0, Value.int .i64 0, Value.int .i64 0, Value.int .i64 0, Value.int .i64 0, Value.int .i64 0, Value.int .i64 0, Value.int .i64 0, Value.int .i64 0, Value.int .i64 0, Value.int .i64 0] 99)
      rw [World.size_alloc] at this
      exact this
    exact there_block hb i hi
  have hsV : w.heap.size + 1 < V.heap.size := by subst hV; simp
  clear hV
  have HB0 : Hid (Below w.heap.size w V) := hB0
  clear hB0
  go_cut [3] (fun t wc => ∃ p : Nat, t = .pointer (some ⟨p, 0, none⟩) ∧ Below V.heap.size V wc ∧ V.heap.size ≤ p ∧ wc.cell? ⟨p, 0, none⟩ = some (.int .i64 x) ∧ wc.cell? ⟨p, 1, none⟩ = some (.int .i64 y))
  case first =>
    go_region_held3 (fun W' => Below V.heap.size V W') ((repeat (first | exact Below.refl _ _ | assumption | refine Below.drew ?_ | refine bl_alloc ?_ _ | refine bl_then ?_ (by assumption) | refine Below.setCell ?_ (by first | omega | (simp; done) | (simp; omega)) _ | refine bl_store ?_ ?_ _ _))) (first | (refine (HM1.out _).mono ?_; rintro e w' ⟨rfl, rfl⟩) | (refine (HM2.out _).mono ?_; rintro e w' ⟨rfl, rfl⟩))
    all_goals
      go_wp2_with fail
      go_meet
      case rel =>
        refine ⟨_, rfl, by assumption, by first | omega | (simp; done) | (simp; omega), ?_, ?_⟩ <;> (go_simp; done)
  case rest =>
    obtain ⟨p, rfl, hBc, hp, x0, y0⟩ := hcut
    have T := HT.out.below (hBc.mono (by omega))
    have hA : Below wc.heap.size wc (wc.alloc (.cells #[.int .i64 (x + 1), .int .i64 (y + 1)] 34)) := by (repeat (first | exact Below.refl _ _ | assumption | refine Below.drew ?_ | refine bl_alloc ?_ _ | refine bl_then ?_ (by assumption) | refine Below.setCell ?_ (by first | omega | (simp; done) | (simp; omega)) _ | refine bl_store ?_ ?_ _ _))
    have hlt0 : w.heap.size < wc.heap.size := by have := hBc.size; omega
    have hplt := World.block_lt_of_cell? _ _ x0
    have T2 := T.below hA
    have b0 := (hA.cell (p := ⟨w.heap.size, 0, none⟩) hlt0).trans (c0 wc hBc)
    have b1 := (hA.cell (p := ⟨w.heap.size, 1, none⟩) hlt0).trans (c1 wc hBc)
    have b2 := (hA.cell (p := ⟨w.heap.size, 2, none⟩) hlt0).trans (c2 wc hBc)
    have b3 := (hA.cell (p := ⟨w.heap.size, 3, none⟩) hlt0).trans (c3 wc hBc)
    have z0 := (hA.cell (p := ⟨p, 0, none⟩) hplt).trans x0
    have z1 := (hA.cell (p := ⟨p, 1, none⟩) hplt).trans y0
    have n0 : (wc.alloc (.cells #[.int .i64 (x + 1), .int .i64 (y + 1)] 34)).cell? ⟨wc.heap.size, 0, none⟩ = some (.int .i64 (x + 1)) := by simp [go_sem]
    have n1 : (wc.alloc (.cells #[.int .i64 (x + 1), .int .i64 (y + 1)] 34)).cell? ⟨wc.heap.size, 1, none⟩ = some (.int .i64 (y + 1)) := by simp [go_sem]
    have t0 := T2.cell 0 (by omega)
    have f0 := (T2 0 (by omega)).2
    have t1 := T2.cell 1 (by omega)
    have f1 := (T2 1 (by omega)).2
    have t2 := T2.cell 2 (by omega)
    have f2 := (T2 2 (by omega)).2
    have t3 := T2.cell 3 (by omega)
    have f3 := (T2 3 (by omega)).2
    have t4 := T2.cell 4 (by omega)
    have f4 := (T2 4 (by omega)).2
    have t5 := T2.cell 5 (by omega)
    have f5 := (T2 5 (by omega)).2
    have t6 := T2.cell 6 (by omega)
    have f6 := (T2 6 (by omega)).2
    have t7 := T2.cell 7 (by omega)
    have f7 := (T2 7 (by omega)).2
    have t8 := T2.cell 8 (by omega)
    have f8 := (T2 8 (by omega)).2
    have t9 := T2.cell 9 (by omega)
    have f9 := (T2 9 (by omega)).2
    have t10 := T2.cell 10 (by omega)
    have f10 := (T2 10 (by omega)).2
    have t11 := T2.cell 11 (by omega)
    have f11 := (T2 11 (by omega)).2
    have t12 := T2.cell 12 (by omega)
    have f12 := (T2 12 (by omega)).2
    have t13 := T2.cell 13 (by omega)
    have f13 := (T2 13 (by omega)).2
    have t14 := T2.cell 14 (by omega)
    have f14 := (T2 14 (by omega)).2
    have t15 := T2.cell 15 (by omega)
    have f15 := (T2 15 (by omega)).2
    clear c0 c1 c2 c3
    have HT2 : Hid (There _ _ _) := T2
    have HA : Hid (Below _ _ _) := hA
    have HBc : Hid (Below _ _ _) := hBc
    clear T T2 hA hBc
    go_upto_region 3 with fail
    generalize hV2 : (wc.alloc (.cells #[.int .i64 (x + 1), .int .i64 (y + 1)] 34) : World) = V2 at *
    clear hV2
    go_wp2_with fail
    obtain ⟨X, hX⟩ : ∃ X : World, ((((((((((((((((V2.setCell ⟨w.heap.size + 1, 0, none⟩ (.int .i64 a)).setCell ⟨w.heap.size + 1, 1, none⟩ (.int .i64 b)).setCell ⟨w.heap.size + 1, 2, none⟩ (.int .i64 x)).setCell ⟨w.heap.size + 1, 3, none⟩ (.int .i64 y)).setCell ⟨w.heap.size + 1, 4, none⟩ (.int .i64 (x + 1))).setCell ⟨w.heap.size + 1, 5, none⟩ (.int .i64 b)).setCell ⟨w.heap.size + 1, 6, none⟩ (.int .i64 c)).setCell ⟨w.heap.size + 1, 7, none⟩ (.int .i64 y)).setCell ⟨w.heap.size + 1, 8, none⟩ (.int .i64 a)).setCell ⟨w.heap.size + 1, 9, none⟩ (.int .i64 (y + 1))).setCell ⟨w.heap.size + 1, 10, none⟩ (.int .i64 x)).setCell ⟨w.heap.size + 1, 11, none⟩ (.int .i64 d)).setCell ⟨w.heap.size + 1, 12, none⟩ (.int .i64 (x + 1))).setCell ⟨w.heap.size + 1, 13, none⟩ (.int .i64 (y + 1))).setCell ⟨w.heap.size + 1, 14, none⟩ (.int .i64 c)).setCell ⟨w.heap.size + 1, 15, none⟩ (.int .i64 d)) = X := ⟨_, rfl⟩
    have hX' : lays V2 (w.heap.size + 1) 0 [.int .i64 a, .int .i64 b, .int .i64 x, .int .i64 y, .int .i64 (x + 1), .int .i64 b, .int .i64 c, .int .i64 y, .int .i64 a, .int .i64 (y + 1), .int .i64 x, .int .i64 d, .int .i64 (x + 1), .int .i64 (y + 1), .int .i64 c, .int .i64 d] = X := hX
    rw [hX]
    have hL : ∀ i (h : i < 16), X.cell? ⟨w.heap.size + 1, i, none⟩ = some (([.int .i64 a, .int .i64 b, .int .i64 x, .int .i64 y, .int .i64 (x + 1), .int .i64 b, .int .i64 c, .int .i64 y, .int .i64 a, .int .i64 (y + 1), .int .i64 x, .int .i64 d, .int .i64 (x + 1), .int .i64 (y + 1), .int .i64 c, .int .i64 d] : List Value)[i]) := by
      intro i h
      rw [← hX']
      have := lays_at (W := V2) (r := w.heap.size + 1) (vs := [.int .i64 a, .int .i64 b, .int .i64 x, .int .i64 y, .int .i64 (x + 1), .int .i64 b, .int .i64 c, .int .i64 y, .int .i64 a, .int .i64 (y + 1), .int .i64 x, .int .i64 d, .int .i64 (x + 1), .int .i64 (y + 1), .int .i64 c, .int .i64 d]) 0 HT2.out i h
      simpa using this
    have hBX : Below w.heap.size w X := by
      rw [← hX']
      exact lays_below (bl_then (bl_then HB0.out HBc.out) HA.out) (by omega)
    clear hX hX'
    have q0 : X.cell? ⟨w.heap.size + 1, 0, none⟩ = some (.int .i64 a) := hL 0 (by decide)
    have q1 : X.cell? ⟨w.heap.size + 1, 1, none⟩ = some (.int .i64 b) := hL 1 (by decide)
    have q2 : X.cell? ⟨w.heap.size + 1, 2, none⟩ = some (.int .i64 x) := hL 2 (by decide)
    have q3 : X.cell? ⟨w.heap.size + 1, 3, none⟩ = some (.int .i64 y) := hL 3 (by decide)
    have q4 : X.cell? ⟨w.heap.size + 1, 4, none⟩ = some (.int .i64 (x + 1)) := hL 4 (by decide)
    have q5 : X.cell? ⟨w.heap.size + 1, 5, none⟩ = some (.int .i64 b) := hL 5 (by decide)
    have q6 : X.cell? ⟨w.heap.size + 1, 6, none⟩ = some (.int .i64 c) := hL 6 (by decide)
    have q7 : X.cell? ⟨w.heap.size + 1, 7, none⟩ = some (.int .i64 y) := hL 7 (by decide)
    have q8 : X.cell? ⟨w.heap.size + 1, 8, none⟩ = some (.int .i64 a) := hL 8 (by decide)
    have q9 : X.cell? ⟨w.heap.size + 1, 9, none⟩ = some (.int .i64 (y + 1)) := hL 9 (by decide)
    have q10 : X.cell? ⟨w.heap.size + 1, 10, none⟩ = some (.int .i64 x) := hL 10 (by decide)
    have q11 : X.cell? ⟨w.heap.size + 1, 11, none⟩ = some (.int .i64 d) := hL 11 (by decide)
    have q12 : X.cell? ⟨w.heap.size + 1, 12, none⟩ = some (.int .i64 (x + 1)) := hL 12 (by decide)
    have q13 : X.cell? ⟨w.heap.size + 1, 13, none⟩ = some (.int .i64 (y + 1)) := hL 13 (by decide)
    have q14 : X.cell? ⟨w.heap.size + 1, 14, none⟩ = some (.int .i64 c) := hL 14 (by decide)
    have q15 : X.cell? ⟨w.heap.size + 1, 15, none⟩ = some (.int .i64 d) := hL 15 (by decide)
    refine bodyPost_ret (v := .agg #[.int .i64 a, .int .i64 b, .int .i64 x, .int .i64 y, .int .i64 (x + 1), .int .i64 b, .int .i64 c, .int .i64 y, .int .i64 a, .int .i64 (y + 1), .int .i64 x, .int .i64 d, .int .i64 (x + 1), .int .i64 (y + 1), .int .i64 c, .int .i64 d]) (by simp [results, Try.results66, go_sem, q0, q1, q2, q3, q4, q5, q6, q7, q8, q9, q10, q11, q12, q13, q14, q15]) rfl ⟨rfl, hBX⟩
end Go.Proofs.Ytjnhaigmfjndhaa
