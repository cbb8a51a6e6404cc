/- Facts for a list of points that is told from its second point on: the rows of the two appends. -/
import Derived.Test.YtlkjdbigpjpgeaaPtsL
import Derived.Test.YtlkjdbigpjpgeaaStepOwn
import Derived.Deep.AppendLies
import Derived.Test.YtlkjdbigpjpgeaaInBoxM
import Derived.Test.YtlkjdbigpjpgeaaBoxAny
import Derived.Test.YtlkjdbigpjpgeaaMeet
namespace Go.Proofs.Ytlkjdbigpjpgeaa
open Go.RowKit

theorem addP (b o i : Nat) : (⟨b, o, none⟩ : Addr).add i = ⟨b, o + i, none⟩ := by unfold Addr.add; split <;> simp_all
theorem heap_new (w : World) (o : Obj) (n : Nat) (h : n = w.heap.size) : (w.alloc o).heap[n]? = some o := by
  subst h
  show (w.heap.push o)[w.heap.size]? = _
  simp
theorem heap_old (w : World) (o : Obj) (g : Nat) (x : Obj) (h : w.heap[g]? = some x) : (w.alloc o).heap[g]? = some x := by
  have hl : g < w.heap.size := by
    rcases Nat.lt_or_ge g w.heap.size with h' | h'
    · exact h'
    · rw [Array.getElem?_eq_none h'] at h; cases h
  have : (w.alloc o).heap[g]? = w.heap[g]? := by
    show (w.heap.push o)[g]? = _
    rw [Array.getElem?_push_lt hl, Array.getElem?_eq_getElem hl]
  rw [this]; exact h
theorem own_empty {w : World} {g base : Nat} {e : TypeId} (h : w.heap[g]? = some (.cells #[] e)) (hb : base ≤ g) : w.ownsRow base e 2 (.slice (some ⟨g, 0, none⟩) 0 0) 0 [] :=
  ⟨rfl, .inr ⟨g, 0, #[], rfl, hb, h, Nat.le_refl _, Nat.zero_le _, rfl, rfl⟩⟩
theorem ptsL_one (X Y : Nat → Int) : ∀ n, ∀ u ∈ ptsL X Y n, u.oneCell' = true
  | 0, u, h => by cases h
  | n + 1, u, h => by
    rw [ptsL, List.mem_append] at h
    rcases h with h | h
    · exact ptsL_one X Y n u h
    · simp at h
      rcases h with rfl | rfl <;> rfl
theorem ptsL_cells {w W : World} {b k : Nat} {X Y : Nat → Int} (hP : PtsAt w b 0 k X Y) (hB : Below w.heap.size w W) (hb : b < w.heap.size) :
    ∀ j u, (ptsL (fun i => X (i + 1)) (fun i => Y (i + 1)) (k - 1))[j]? = some u → W.cell? ((⟨b, 2, none⟩ : Addr).add j) = some u := fun j u hj => by
  have hl : j < (k - 1) * 2 := by
    rcases Nat.lt_or_ge j ((k - 1) * 2) with h | h
    · exact h
    · rw [List.getElem?_eq_none (by rw [ptsL_len]; exact h)] at hj; cases hj
  obtain ⟨i, hi⟩ : ∃ i, j = i * 2 ∨ j = i * 2 + 1 := ⟨j / 2, by omega⟩
  have hik : i < k - 1 := by omega
  obtain ⟨e1, e2⟩ := ptsL_at (fun i => X (i + 1)) (fun i => Y (i + 1)) (k - 1) i hik
  obtain ⟨c1, c2⟩ := (hP.below hB hb) (i + 1) (by omega)
  rcases hi with rfl | rfl
  · rw [e1] at hj
    rw [← hj]
    have : ((⟨b, 2, none⟩ : Addr).add (i * 2)) = ⟨b, 0 + (i + 1) * 2, none⟩ := by rw [addP]; congr 1; omega
    rw [this]; exact c1
  · rw [e2] at hj
    rw [← hj]
    have : ((⟨b, 2, none⟩ : Addr).add (i * 2 + 1)) = ⟨b, 0 + (i + 1) * 2 + 1, none⟩ := by rw [addP]; congr 1; omega
    rw [this]; exact c2
theorem ptsL_congr {X Y X' Y' : Nat → Int} : ∀ n, (∀ i, i < n → X i = X' i ∧ Y i = Y' i) → ptsL X Y n = ptsL X' Y' n
  | 0, _ => rfl
  | n + 1, h => by
    rw [ptsL, ptsL, ptsL_congr n (fun i hi => h i (by omega)), (h n (by omega)).1, (h n (by omega)).2]
theorem ptsL_turn {k : Nat} (X Y : Nat → Int) (hk : 0 < k) :
    ptsL (fun i => X (i + 1)) (fun i => Y (i + 1)) (k - 1) ++ [.int .i64 (X 0), .int .i64 (Y 0)] = ptsL (fun i => X ((i + 1) % k)) (fun i => Y ((i + 1) % k)) k := by
  obtain ⟨m, rfl⟩ : ∃ m, k = m + 1 := ⟨k - 1, by omega⟩
  show ptsL _ _ m ++ _ = ptsL _ _ m ++ _
  rw [ptsL_congr (X' := fun i => X ((i + 1) % (m + 1))) (Y' := fun i => Y ((i + 1) % (m + 1))) m (fun i hi => by
    have : (i + 1) % (m + 1) = i + 1 := Nat.mod_eq_of_lt (by omega)
    simp [this])]
  simp
theorem two_cells {W : World} {z : Nat} {x y : Value} (h : W.cell? ⟨z, 0, none⟩ = some x) (h' : W.cell? ⟨z, 1, none⟩ = some y) :
    ∀ j u, [x, y][j]? = some u → W.cell? ((⟨z, 0, none⟩ : Addr).add j) = some u
  | 0, u, hj => by rw [addP]; simp at hj; subst hj; exact h
  | 1, u, hj => by rw [addP]; simp at hj; subst hj; exact h'
  | n + 2, u, hj => by simp at hj
theorem turn_of {w : World} {base k : Nat} {e : TypeId} {v v1 : Value} {X Y : Nat → Int} (hk : 0 < k)
    (h : w.ownsRow base e 2 v (0 + (k - 1) + 1) (([] ++ ptsL (fun i => X (i + 1)) (fun i => Y (i + 1)) (k - 1)) ++ [.int .i64 (X 0), .int .i64 (Y 0)])) (hn : v = .slice none 0 0 ↔ v1 = .slice none 0 0 ∧ 1 = 0) :
    ∃ (b cp : Nat), v = .slice (some ⟨b, 0, none⟩) k cp ∧ base ≤ b ∧ b < w.heap.size ∧ k ≤ cp ∧ PtsAt w b 0 k (fun i => X ((i + 1) % k)) (fun i => Y ((i + 1) % k)) := by
  have e : 0 + (k - 1) + 1 = k := by omega
  rw [e, List.nil_append, ptsL_turn X Y hk] at h
  exact pts_of h (fun h' => by have := (hn.1 h').2; omega)
theorem inside_boxW {px py : Int} {k : Nat} {X Y : Nat → Int} {c0 c1 c2 c3 c4 : Int} (h : insideB px py k X Y = true)
    (hf : boxW k X Y = .agg #[.int .i64 c0, .int .i64 c1, .int .i64 c2, .int .i64 c3, .int .i64 c4]) : c0 = 0 ∧ meetB px py px py c1 c2 c3 c4 = true := by
  obtain ⟨b1, b2, b3, b4⟩ := inside_box h
  unfold insideB at h
  simp only [Bool.and_eq_true, decide_eq_true_eq] at h
  obtain ⟨_, h3, h40, ha, _⟩ := h
  unfold boxW boxV at hf
  rw [if_neg (by omega), if_neg (by omega), if_pos ha] at hf
  simp at hf
  obtain ⟨rfl, rfl, rfl, rfl, rfl⟩ := hf
  refine ⟨rfl, ?_⟩
  simp [meetB, b1, b2, b3, b4]
theorem meet_comm (a0 a1 a2 a3 b0 b1 b2 b3 : Int) : meetB b0 b1 b2 b3 a0 a1 a2 a3 = meetB a0 a1 a2 a3 b0 b1 b2 b3 := by
  unfold meetB
  cases decide (a0 ≤ b2) <;> cases decide (b0 ≤ a2) <;> cases decide (a1 ≤ b3) <;> cases decide (b1 ≤ a3) <;> rfl
end Go.Proofs.Ytlkjdbigpjpgeaa
