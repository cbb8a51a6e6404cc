/- Whether two lists of points are the same: the model's and the library's. -/
import Derived.Test.YtijegoheilmmpaaVSorts28
import Derived.Laws.StructEq
namespace Go.Proofs.Ytijegoheilmmpaa
open Go.RowKit
set_option linter.unusedSimpArgs false
set_option linter.unusedVariables false
set_option maxRecDepth 100000

theorem equalIn_point (n : Nat) (a b c d : Int) (w : World) : (Op.equalIn (n + 2) 36 (.agg #[.int .i64 a, .int .i64 b]) (.agg #[.int .i64 c, .int .i64 d])).run Try.prog w = .ok ((a == c) && (b == d)) w := by
  have hp0 : ∀ (x y : Int) (w : World), (part 2 #[.int .i64 x, .int .i64 y] 0).run Try.prog w = .ok (.int .i64 x) w := fun _ _ _ => by kernel_rfl
  have hp1 : ∀ (x y : Int) (w : World), (part 2 #[.int .i64 x, .int .i64 y] 1).run Try.prog w = .ok (.int .i64 y) w := fun _ _ _ => by kernel_rfl
  have hi := fun (a b : Int) (w : World) => run_equalIn_int (P := Try.prog) w n 2 .i64 .i64 a b Try.underlying2
  rw [run_equalIn_struct w (n + 1) 36 _ _ (by kernel_rfl) (by kernel_rfl)]
  simp [Op.eqFields, Program.fieldsOf, Try.underlying36, hp0, hp1, hi]
  by_cases h1 : a = c <;> by_cases h2 : b = d <;> simp [h1, h2]
/-- The same points. -/
def ptsEq (n : Nat) (X Y : Nat → Int) (m : Nat) (X' Y' : Nat → Int) : Bool := decide (n = m) && decide (∀ i, i < n → X i = X' i ∧ Y i = Y' i)

set_option maxHeartbeats 4000000 in
theorem slicesEqual_any (b d n m c c' : Nat) (X Y X' Y' : Nat → Int) (w : World) (hp : PtsAt w b 0 n X Y) (hq : PtsAt w d 0 m X' Y') (hb : b < w.heap.size) (hd : d < w.heap.size) (hn : n ≤ 1048576) (hm : m ≤ 1048576) :
    Calls Try.prog 78 #[.slice (some ⟨b, 0, none⟩) n c, .slice (some ⟨d, 0, none⟩) m c'] w fun e w' => e = .returned (.bool (ptsEq n X Y m X' Y')) ∧ Below w.heap.size w w' := by
  by_cases hnm : n = m
  · subst hnm
    have HP : Hid (PtsAt w b 0 n X Y) := hp
    have HQ : Hid (PtsAt w d 0 n X' Y') := hq
    clear hp hq
    go_enter Try.func78, Try.ntmps78
    go_wp2
    go_loopw [13] (fun v wr => ∃ k : Nat, k ≤ n ∧ v = .int .i64 k ∧ (∀ j, j < k → X j = X' j ∧ Y j = Y' j) ∧ Below w.heap.size w wr) (fun v _ => n - (intOf v).toNat)
    case atStart => exact ⟨0, by omega, rfl, by omega, Below.refl _ _⟩
    case round =>
      obtain ⟨k, hk, rfl, hA, hB⟩ := hrel
      have HA : Hid (∀ j, j < k → X j = X' j ∧ Y j = Y' j) := hA
      have HB : Hid (Below w.heap.size w wr) := hB
      by_cases hlt : k < n
      · have c0 : ∀ W', Below wr.heap.size wr W' → W'.cell? ⟨b, k * 2, none⟩ = some (.int .i64 (X k)) := fun W' h => by
          simpa using ((HP.out.below hB hb).below h (Nat.lt_of_lt_of_le hb hB.size) k hlt).1
        have c1 : ∀ W', Below wr.heap.size wr W' → W'.cell? ⟨b, k * 2 + 1, none⟩ = some (.int .i64 (Y k)) := fun W' h => by
          simpa using ((HP.out.below hB hb).below h (Nat.lt_of_lt_of_le hb hB.size) k hlt).2
        have e0 : ∀ W', Below wr.heap.size wr W' → W'.cell? ⟨d, k * 2, none⟩ = some (.int .i64 (X' k)) := fun W' h => by
          simpa using ((HQ.out.below hB hd).below h (Nat.lt_of_lt_of_le hd hB.size) k hlt).1
        have e1 : ∀ W', Below wr.heap.size wr W' → W'.cell? ⟨d, k * 2 + 1, none⟩ = some (.int .i64 (Y' k)) := fun W' h => by
          simpa using ((HQ.out.below hB hd).below h (Nat.lt_of_lt_of_le hd hB.size) k hlt).2
        have heq := fun (w : World) => equalIn_point 9998 (X k) (Y k) (X' k) (Y' k) w
        have HLT : Hid (k < n) := hlt
        clear hB hA
        have hi : (k : Int) < (n : Int) := by omega
        have hi0 : (0 : Int) ≤ (k : Int) := by omega
        by_cases hE : X k = X' k ∧ Y k = Y' k
        · have hv : ((X k == X' k) && (Y k == Y' k)) = true := by simp [hE.1, hE.2]
          rw [hv] at heq
          have HE : Hid (X k = X' k ∧ Y k = Y' k) := hE
          clear hE hv
          go_wp2
          go_region_held3 (fun W' => Below wr.heap.size wr W') ((repeat (first | exact Below.refl _ _ | assumption | refine Below.drew ?_ | refine bl_alloc ?_ _ | refine bl_then ?_ (by assumption) | refine Below.setCell ?_ (by first | omega | (simp; done) | (simp; omega)) _ | refine bl_store ?_ ?_ _ _))) (fail)
          go_wp2
          go_roundw
          case rel => exact ⟨k + 1, by have := HLT.out; omega, by go_num, fun j hj => by
              by_cases e : j = k
              · rw [e]; exact HE.out
              · exact HA.out j (by omega), bl_then HB.out (by assumption)⟩
          case measure => have := HLT.out; simp [intOf]; omega
        · have hv : ((X k == X' k) && (Y k == Y' k)) = false := by
            cases h1 : (X k == X' k)
            · rfl
            · cases h2 : (Y k == Y' k)
              · rfl
              · exact absurd ⟨by simpa using h1, by simpa using h2⟩ hE
          rw [hv] at heq
          have hz : Hid (ptsEq n X Y n X' Y' = false) := by
            show _ = _
            unfold ptsEq
            rw [decide_eq_false (p := ∀ i, i < n → X i = X' i ∧ Y i = Y' i) (fun h => hE (h k hlt))]
            simp
          clear hE hv
          go_wp2
          go_region_held3 (fun W' => Below wr.heap.size wr W') ((repeat (first | exact Below.refl _ _ | assumption | refine Below.drew ?_ | refine bl_alloc ?_ _ | refine bl_then ?_ (by assumption) | refine Below.setCell ?_ (by first | omega | (simp; done) | (simp; omega)) _ | refine bl_store ?_ ?_ _ _))) (fail)
          go_wp2
          go_ret
          exact ⟨ret_bool hz.out.symm, bl_then HB.out (by assumption)⟩
      · have hz : Hid (ptsEq n X Y n X' Y' = true) := by
          show _ = _
          unfold ptsEq
          rw [decide_eq_true (p := ∀ i, i < n → X i = X' i ∧ Y i = Y' i) (fun i hi => HA.out i (by omega))]
          simp
        go_wp2
        go_ret
        exact ⟨ret_bool hz.out.symm, HB.out⟩
  · have hne : ((n : Int) == (m : Int)) = false := by simp; omega
    have hz : Hid (ptsEq n X Y m X' Y' = false) := by show _ = _; simp [ptsEq, hnm]
    go_enter Try.func78, Try.ntmps78
    go_wp2
    go_ret
    exact ⟨ret_bool hz.out.symm, by (repeat (first | exact Below.refl _ _ | assumption | refine Below.drew ?_ | refine bl_alloc ?_ _ | refine bl_then ?_ (by assumption) | refine Below.setCell ?_ (by first | omega | (simp; done) | (simp; omega)) _ | refine bl_store ?_ ?_ _ _))⟩
end Go.Proofs.Ytijegoheilmmpaa
