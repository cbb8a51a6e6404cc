/- All entries as one list, by the model. -/
import Derived.Test.YtjnhaigmfjndhaaVFindBox16
namespace Go.Proofs.Ytjnhaigmfjndhaa
open Go.RowKit Go.Shelf
set_option linter.unusedSimpArgs false
set_option linter.unusedVariables false
set_option maxRecDepth 100000

theorem entsCs_append (xs ys : List Ent) : entsCs (xs ++ ys) = entsCs xs ++ entsCs ys := by simp [entsCs]
theorem allE_succ (Q : Nat → Qd) (k : Nat) : (allE Q (k + 1)).map (·.2) = (allE Q k).map (·.2) ++ (List.range (Q k).en).map (Q k).E := by
  rw [← someE_end]
  simp [someE]
theorem allE_succ_length (Q : Nat → Qd) (k : Nat) : (allE Q (k + 1)).length = (allE Q k).length + (Q k).en := by
  rw [← someE_end]
  simp [someE]
theorem allE_le (Q : Nat → Qd) {k n : Nat} (h : k ≤ n) : (allE Q k).length ≤ (allE Q n).length := (allE_prefix Q k n h).length_le
theorem ents_cells {W : World} {b o : Nat} {E : Nat → Ent} : ∀ {n : Nat}, EsAt W b o n E → ∀ (j : Nat) (u : Value), (entsCs ((List.range n).map E))[j]? = some u → W.cell? ⟨b, o + j, none⟩ = some u := by
  intro n
  induction n with
  | zero => intro _ j u h; simp [entsCs] at h
  | succ n ih =>
    intro h j u hj
    rw [List.range_succ, List.map_append, entsCs_append] at hj
    have hlen : (entsCs ((List.range n).map E)).length = n * 5 := by rw [entsCs_length]; simp
    by_cases hlt : j < n * 5
    · rw [List.getElem?_append_left (by omega)] at hj
      exact ih (fun i hi => h i (by omega)) j u hj
    · rw [List.getElem?_append_right (by omega), hlen] at hj
      obtain ⟨e0, e1, e2, e3, e4⟩ := h n (by omega)
      obtain ⟨r, rfl⟩ : ∃ r, j = n * 5 + r := ⟨j - n * 5, by omega⟩
      rw [Nat.add_sub_cancel_left] at hj
      simp only [entsCs, List.map_cons, List.map_nil, List.flatMap_cons, List.flatMap_nil, List.append_nil] at hj
      match r, hj with
      | 0, hj => exact (Option.some.inj hj) ▸ e0
      | 1, hj => exact (Option.some.inj hj) ▸ (by rw [← Nat.add_assoc]; exact e1)
      | 2, hj => exact (Option.some.inj hj) ▸ (by rw [← Nat.add_assoc]; exact e2)
      | 3, hj => exact (Option.some.inj hj) ▸ (by rw [← Nat.add_assoc]; exact e3)
      | 4, hj => exact (Option.some.inj hj) ▸ (by rw [← Nat.add_assoc]; exact e4)
      | r + 5, hj => cases (show (none : Option Value) = some u from hj)
theorem entsCs_one (es : List Ent) : ∀ u ∈ entsCs es, u.oneCell' = true := by
  intro u hu
  unfold entsCs at hu
  rw [List.mem_flatMap] at hu
  obtain ⟨e, _, he⟩ := hu
  simp [entCs] at he
  rcases he with rfl | rfl | rfl | rfl | rfl <;> rfl
set_option maxHeartbeats 4000000 in
theorem l5All_any (p off n cap : Nat) (Q : Nat → Qd) (w : World) (hQ : QsAt w w.heap.size p off n Q) (hS : ∀ i, i < n → ∃ b o, (Q i).ea = some ⟨b, o, none⟩ ∧ b < w.heap.size ∧ EsAt w b o (Q i).en (Q i).E) (hn : n ≤ 1048576) (hall : (allE Q n).length ≤ 1048576) :
    Calls Try.prog 24 #[.slice (some ⟨p, off, none⟩) n cap] w fun e w' => ∃ v, e = .returned v ∧ w'.ownsRow w.heap.size 69 5 v (allE Q n).length (entsCs ((allE Q n).map (·.2))) ∧ Below w.heap.size w w' := by
  obtain ⟨i0, hi, hz0, hz1, hz2⟩ := info_parts info_ie
  have HQ : Hid (QsAt w w.heap.size p off n Q) := hQ
  have HS : Hid (∀ i, i < n → ∃ b o, (Q i).ea = some ⟨b, o, none⟩ ∧ b < w.heap.size ∧ EsAt w b o (Q i).en (Q i).E) := hS
  have hmx : 1048576 ≤ maxLen := by decide
  clear hQ hS
  go_enter Try.func24, Try.ntmps24
  go_wp2_with fail
  generalize hW : (w.alloc _ : World) = W
  have hB0 : Below w.heap.size w W := by subst hW; (repeat (first | exact Below.refl _ _ | assumption | refine Below.drew ?_ | refine bl_alloc ?_ _ | refine bl_then ?_ (by assumption) | refine Below.setCell ?_ (by first | omega | (simp; done) | (simp; omega)) _ | refine bl_store ?_ ?_ _ _))
  have hO0 : W.ownsRow w.heap.size 69 5 (.slice (some ⟨w.heap.size, 0, none⟩) 0 0) 0 [] := by
    subst hW
    exact World.ownsRow_lit (base := w.heap.size) w #[] 0 (Nat.le_refl _) (Nat.zero_le _) rfl
  clear hW
  go_loopw [3, 4] (fun v i wr => ∃ k : Nat, k ≤ n ∧ i = .int .i64 (k : Int) ∧ wr.ownsRow w.heap.size 69 5 v (allE Q k).length (entsCs ((allE Q k).map (·.2))) ∧ Below w.heap.size w wr) (fun _ i _ => n - (intOf i).toNat)
  case atStart => exact ⟨0, Nat.zero_le _, rfl, hO0, hB0⟩
  case round =>
    clear hO0 hB0
    obtain ⟨k, hk, rfl, hrow, hB⟩ := hrel
    by_cases hlt : k < n
    · obtain ⟨b, o, hea, hbl, hE⟩ := HS.out k hlt
      obtain ⟨q0, q1, q2, q3, q4, q5, q6⟩ := (((HQ.out.below hB).2 k hlt).1 : QAt _ _ _ _)
      rw [hea] at q6
      have HE : Hid (EsAt wr b o (Q k).en (Q k).E) := hE.below hB hbl
      have HB : Hid (Below w.heap.size w wr) := hB
      have hlen1 : (allE Q k).length + (Q k).en ≤ 1048576 := by
        rw [← allE_succ_length]
        exact Nat.le_trans (allE_le Q (by omega)) hall
      have hsz := hB.size
      have hk1 : (k : Int) < (n : Int) := by omega
      have hk0 : (0 : Int) ≤ (k : Int) := by omega
      have hce : Hid (∀ j u, (entsCs ((List.range (Q k).en).map (Q k).E))[j]? = some u → wr.cell? ((⟨b, o, none⟩ : Addr).add j) = some u) := by
        intro j u hj
        have h1 := ents_cells HE.out j u hj
        by_cases hq0 : j = 0
        · subst hq0; simpa [Addr.add] using h1
        · simpa [Addr.add, hq0] using h1
      clear hB q0 q1 q2 q3 q4 q5
      go_wp2_with (first | (at_builtin; go_must (refine wpList_append_own _ rfl _ _ 43 rfl w.heap.size 69 i0 (.agg zeroE) 5 40 Try.underlying43 hi hz0 hz1 hz2 rfl (by decide) _ _ _ rfl hrow ⟨b, o, none⟩ (Q k).en (Q k).ec (entsCs ((List.range (Q k).en).map (Q k).E)) rfl (by rw [entsCs_length]; simp) hce.out (entsCs_one _) (by omega) (by omega) hsz ?_)))
      intro v' w1 hown' hgrow _
      have hB1 : Below w.heap.size w w1 := by
        refine HB.out.grown hgrow hsz (fun j ej => ?_)
        rcases hrow.2 with ⟨rfl, _⟩ | ⟨g, cap', cur, rfl, hb, _, _⟩
        · simp [Value.ownBlock] at ej
        · obtain rfl : g = j := by simpa [Value.ownBlock] using ej
          exact hb
      have HO : Hid (w1.ownsRow w.heap.size 69 5 v' (allE Q (k + 1)).length (entsCs ((allE Q (k + 1)).map (·.2)))) := by
        show World.ownsRow _ _ _ _ _ _ _
        rw [allE_succ_length, allE_succ, entsCs_append]
        exact hown'
      have HB1 : Hid (Below w.heap.size w w1) := hB1
      clear hown' hgrow hrow hB1
      go_wp2_with fail
      go_roundw
      case rel => exact ⟨k + 1, by omega, by go_num, HO.out, HB1.out⟩
      case measure => simp [intOf]; omega
    · obtain rfl : k = n := by omega
      have hk1 : ¬ (k : Int) < (k : Int) := by omega
      go_wp2_with fail
      go_ret
      exact ⟨_, rfl, hrow, hB⟩
end Go.Proofs.Ytjnhaigmfjndhaa
