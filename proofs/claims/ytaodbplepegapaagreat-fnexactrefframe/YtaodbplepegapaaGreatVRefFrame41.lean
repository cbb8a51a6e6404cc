/- Shapes as a row of their own; what a closure over them tells of a pixel: the program. -/
import Derived.Test.YtaodbplepegapaaGreatVRefFrame40
import Derived.Test.YtaodbplepegapaaGreatVRefFrame14
namespace Go.Proofs.YtaodbplepegapaaGreat
open Go.RowKit
set_option linter.unusedSimpArgs false
set_option linter.unusedVariables false
set_option maxRecDepth 100000

def scell (z : Int) (s : Shp) : List Value := [.int .i64 s.id, .func (.func (byF s.ki)) #[] #[], .slice (some ⟨s.g, 0, none⟩) s.n s.cg, .int .i64 (reachI s.wi z)]
/-- The cells of the first k shapes. -/
def cellsS (z : Int) (S : Nat → Shp) : Nat → List Value
  | 0 => []
  | k + 1 => cellsS z S k ++ scell z (S k)
theorem cellsS_len (z : Int) (S : Nat → Shp) : ∀ k, (cellsS z S k).length = k * 4
  | 0 => rfl
  | k + 1 => by rw [cellsS, List.length_append, cellsS_len z S k]; simp [scell]; omega
theorem cellsS_at (z : Int) (S : Nat → Shp) : ∀ (k i j : Nat), i < k → j < 4 → (cellsS z S k)[i * 4 + j]? = (scell z (S i))[j]?
  | k + 1, i, j, hi, hj => by
    rw [cellsS]
    by_cases e : i = k
    · subst e
      rw [List.getElem?_append_right (by rw [cellsS_len]; omega), cellsS_len]
      congr 1
      omega
    · rw [List.getElem?_append_left (by rw [cellsS_len]; omega)]
      exact cellsS_at z S k i j (by omega) hj
theorem cellsS_congr {z : Int} {S S' : Nat → Shp} : ∀ {k : Nat}, (∀ i, i < k → S i = S' i) → cellsS z S k = cellsS z S' k
  | 0, _ => rfl
  | k + 1, h => by rw [cellsS, cellsS, cellsS_congr (fun i hi => h i (by omega)), h k (by omega)]
def SRow (base : Nat) (w : World) (v : Value) (k : Nat) (z : Int) (S : Nat → Shp) : Prop := w.ownsRow base 91 4 v k (cellsS z S k)
/-- The shape of a feature. -/
def shpOf (s : Shp) (f : Feat) : Prop := s.id = f.id ∧ s.ki = f.ki ∧ s.wi = f.wi ∧ s.n = f.n ∧ s.X = f.X ∧ s.Y = f.Y
theorem SRow.src {base k : Nat} {w : World} {v : Value} {z : Int} {S : Nat → Shp} (h : SRow base w v k z S) (hk : k = 0 → v = .slice none 0 0) (hP : ∀ i, i < k → ShpP w w.heap.size (S i)) : SrcS w.heap.size w v k z S := by
  by_cases h0 : k = 0
  · exact .inl ⟨hk h0, h0⟩
  · obtain ⟨h1, h2 | ⟨g, cp, cur, hv, hg, hh, hkc, hcm, hcs, htk⟩⟩ := id h
    · exact absurd h2.2 h0
    · have hgl : g < w.heap.size := lt_of_heap hh
      subst hv
      have hrow : w.ownsRow base 91 4 (.slice (some ⟨g, 0, none⟩) k cp) k (cellsS z S k) := h
      refine .inr ⟨g, cp, rfl, hgl, fun i hi => ⟨?_, hP i hi⟩⟩
      have c : ∀ j, j < 4 → w.cell? ⟨g, i * 4 + j, none⟩ = (scell z (S i))[j]? := fun j hj => (hrow.cellAt _ (by omega)).trans (cellsS_at z S k i j hi hj)
      exact ⟨c 0 (by omega), c 1 (by omega), c 2 (by omega), c 3 (by omega)⟩
theorem SRow.not_pts {base k n g : Nat} {w : World} {v : Value} {z : Int} {S : Nat → Shp} {X Y : Nat → Int} (h : SRow base w v k z S) (hk : k = 0 → v = .slice none 0 0) (hp : PtsAt w g 0 n X Y) (hn : 0 < n) : some g ≠ v.ownBlock := by
  intro e
  by_cases h0 : k = 0
  · rw [hk h0] at e; cases e
  · obtain ⟨h1, h2 | ⟨g', cp, cur, hv, hg, hh, hkc, hcm, hcs, htk⟩⟩ := id h
    · exact absurd h2.2 h0
    · subst hv
      simp [Value.ownBlock] at e
      subst e
      have hrow : w.ownsRow base 91 4 (.slice (some ⟨g, 0, none⟩) k cp) k (cellsS z S k) := h
      have c1 := (hrow.cellAt 1 (by omega)).trans (cellsS_at z S k 0 1 (by omega) (by omega))
      have c2 := (hp 0 hn).2
      simp only [Nat.zero_mul, Nat.zero_add, Nat.mul_zero] at c2
      rw [c1] at c2
      simp [scell] at c2
theorem covS_same {z cx cy : Int} {S : Nat → Shp} {G : Nat → Feat} {n : Nat} (h : ∀ i, i < n → shpOf (S i) (G i)) : ∀ {k : Nat}, k ≤ n → paintI (covS z cx cy S) (fun i => (S i).id) k = paintI (fun i => covF z cx cy (G i)) (fun i => (G i).id) k
  | 0, _ => rfl
  | k + 1, hk => by
    obtain ⟨e1, e2, e3, e4, e5, e6⟩ := h k (by omega)
    have ec : covS z cx cy S k = covF z cx cy (G k) := by unfold covS covF; rw [e2, e3, e4, e5, e6]
    rw [paintI, paintI, ec, e1, covS_same h (by omega)]
set_option maxHeartbeats 4000000 in
theorem raster1_any (B4 B5 : Nat) (a : Option Addr) (n cap : Nat) (z x y : Int) (S : Nat → Shp) (G : Nat → Feat) (w : World) (h4 : w.cell? ⟨B4, 0, none⟩ = some (.int .i64 z)) (h5 : w.cell? ⟨B5, 0, none⟩ = some (.slice a n cap)) (hS : SrcS w.heap.size w (.slice a n cap) n z S) (hP : ∀ i, i < n → ShpP w w.heap.size (S i)) (hn : n ≤ 12) (hsh : ∀ i, i < n → shpOf (S i) (G i)) (hpx : pixB z x y = true) :
    Calls Tryz.prog 50 #[.int .i64 x, .int .i64 y, .pointer (some ⟨B5, 0, none⟩), .pointer (some ⟨B4, 0, none⟩)] w fun e w' => e = .returned (.int .i64 (paintF G n z x y)) ∧ Below w.heap.size w w' := by
  have hl4 := World.block_lt_of_cell? _ _ h4
  have hl5 := World.block_lt_of_cell? _ _ h5
  have HF : Hid (∀ W, Below w.heap.size w W → Calls Tryz.prog 51 #[.slice a n cap, .agg #[.int .i64 (centI z x), .int .i64 (centI z y)]] W fun e w' => e = .returned (.int .i64 (paintF G n z x y)) ∧ Below W.heap.size W w') := fun W hW => by
    have hS' : SrcS W.heap.size W (.slice a n cap) n z S := by
      rcases hS.below hW with h | ⟨p, c, e, h1, h2⟩
      · exact .inl h
      · exact .inr ⟨p, c, e, Nat.lt_of_lt_of_le h1 hW.size, fun i hi => ⟨(h2 i hi).1, Nat.lt_of_lt_of_le (h2 i hi).2.1 hW.size, (h2 i hi).2.2⟩⟩
    have hP' : ∀ i, i < n → ShpP W W.heap.size (S i) := fun i hi => ⟨Nat.lt_of_lt_of_le (hP i hi).1 hW.size, ((hP i hi).below hW).2⟩
    have := frontOf_any a n cap z (centI z x) (centI z y) S W hS' hP' (by omega)
    rw [covS_same hsh (Nat.le_refl n)] at this
    exact this
  have sC := fun w => impl_CentreOf_any z x y w
  rw [show centV z x y = .agg #[.int .i64 0, .int .i64 (centI z x), .int .i64 (centI z y)] by simp [centV, hpx]] at sC
  have c4 : ∀ W', Below w.heap.size w W' → W'.cell? ⟨B4, 0, none⟩ = some (.int .i64 z) := fun W' h => (h.cell (p := ⟨B4, 0, none⟩) hl4).trans h4
  have c5 : ∀ W', Below w.heap.size w W' → W'.cell? ⟨B5, 0, none⟩ = some (.slice a n cap) := fun W' h => (h.cell (p := ⟨B5, 0, none⟩) hl5).trans h5
  clear hS hP hsh hpx h4 h5
  generalize centI z x = cx at *
  generalize centI z y = cy at *
  generalize paintF G n z x y = pf at *
  have f1 : ∀ w, (Instr.field 98 (.agg #[.int .i64 0, .int .i64 cx, .int .i64 cy]) 1).run Tryz.prog w = .ok (.agg #[.int .i64 cx, .int .i64 cy]) w := fun _ => by kernel_rfl
  have hr : Below w.heap.size w w := Below.refl _ _
  go_enter Tryz.func50, Tryz.ntmps50
  go_wp2_with fail
  go_region_held3 (fun W' => Below w.heap.size w W') ((repeat (first | exact Below.refl _ _ | assumption | refine Below.drew ?_ | refine bl_alloc ?_ _ | refine bl_then ?_ (by assumption) | refine Below.setCell ?_ (by first | omega | (simp; done) | (simp; omega)) _ | refine bl_store ?_ ?_ _ _)))
    (first
      | (go_at_call 52; refine (sC _).mono ?_; rintro e w1 ⟨rfl, hb⟩)
      | (go_at_call 51; refine (HF.out _ (by assumption)).mono ?_; rintro e w1 ⟨rfl, hb⟩)
      | fail)
  go_wp2
  go_ret
  exact ⟨rfl, by assumption⟩
theorem enter_rt1 (args : Array Value) (w : World) : (callFunc 50 args).run Tryz.prog w = .ok (.enter 50 args) w := by
  have h1 : (Tryz.f50).name ≠ "runtime.NumGoroutine" := by
    have : ((Tryz.f50).name == "runtime.NumGoroutine") = false := by kernel_rfl
    simpa using this
  have hb : ∃ c, (Tryz.f50).body = some c := ⟨_, rfl⟩
  obtain ⟨c, hb⟩ := hb
  simp [callFunc, Tryz.func50, h1, hb]
/-- The first of two that is not 0. -/
def or2 (x y : Int) : Int := if x = 0 then y else x
set_option maxHeartbeats 2000000 in
theorem cmpOr2_any (b c : Nat) (x y : Int) (w : World) (h0 : w.cell? ⟨b, 0, none⟩ = some (.int .i64 x)) (h1 : w.cell? ⟨b, 1, none⟩ = some (.int .i64 y)) :
    Calls Tryz.prog 44 #[.slice (some ⟨b, 0, none⟩) 2 c] w fun e w' => e = .returned (.int .i64 (or2 x y)) ∧ w' = w := by
  unfold or2
  by_cases hx : x = 0
  · subst hx
    by_cases hy : y = 0
    · subst hy
      go_enter Tryz.func44, Tryz.ntmps44
      go_wp2
      refine wp_loop_rounds 3 ?_
      rw [rounds_succ]
      go_wp2
      rw [rounds_succ]
      go_wp2
      rw [rounds_succ]
      go_wp2
      go_ret
      exact ⟨by simp, rfl⟩
    · have hy' : (y == 0) = false := by simpa using hy
      go_enter Tryz.func44, Tryz.ntmps44
      go_wp2
      refine wp_loop_rounds 2 ?_
      rw [rounds_succ]
      go_wp2
      rw [rounds_succ]
      go_wp2
      go_ret
      exact ⟨by simp, rfl⟩
  · have hx' : (x == 0) = false := by simpa using hx
    go_enter Tryz.func44, Tryz.ntmps44
    go_wp2
    refine wp_loop_rounds 1 ?_
    rw [rounds_succ]
    go_wp2
    go_ret
    exact ⟨by simp [hx], rfl⟩
end Go.Proofs.YtaodbplepegapaaGreat
