/- Several texts in one. -/
import Derived.Test.YtjnhaigmfjndhaaVFindBox5
import Derived.Test.YtjnhaigmfjndhaaVFindBox3
import Derived.Deep.RegionHeld3
import Derived.Deep.OwnRows

/- toPointS hands back the same points in new memory; eqPointS tells that two lists are the same. -/

namespace Go.Proofs.Ytjnhaigmfjndhaa
open Go.RowKit
set_option linter.unusedSimpArgs false
set_option linter.unusedVariables false

/-- A list of n points that came in: there is none, or they lie at an address. -/
def IsPts (w : World) (a : Option Addr) (n : Nat) (X Y : Nat → Int) : Prop :=
  n = 0 ∨ ∃ b off, a = some ⟨b, off, none⟩ ∧ b < w.heap.size ∧ PtsAt w b off n X Y
theorem IsPts.below {w w' : World} {a : Option Addr} {n : Nat} {X Y : Nat → Int} (h : IsPts w a n X Y) (hb : Below w.heap.size w w') : IsPts w' a n X Y := by
  rcases h with h | ⟨b, off, e, hl, hp⟩
  · exact .inl h
  · exact .inr ⟨b, off, e, Nat.lt_of_lt_of_le hl hb.size, hp.below hb hl⟩

theorem There.set {W : World} {r n : Nat} (h : There W r n) (o : Nat) (v : Value) : There (W.setCell ⟨r, o, none⟩ v) r n := fun o' ho => by
  obtain ⟨u, hu⟩ := (h o' ho).1
  refine ⟨?_, ?_⟩
  · by_cases e : o = o'
    · subst e
      exact ⟨v, World.cell?_setCell_same _ _ _ (by rw [hu])⟩
    · exact ⟨u, by rw [World.cell?_setCell_other]; exact hu; simp [e]⟩
  · rw [World.frozen?_setCell]; exact (h o' ho).2

theorem fill_step {W : World} {B n k : Nat} {X Y : Nat → Int} (hT : There W B (n * 2)) (hk : k < n) (hp : PtsAt W B 0 k X Y) :
    PtsAt ((W.setCell ⟨B, k * 2, none⟩ (.int .i64 (X k))).setCell ⟨B, k * 2 + 1, none⟩ (.int .i64 (Y k))) B 0 (k + 1) X Y := fun i hi => by
  by_cases e : i = k
  · subst e
    obtain ⟨u, hu⟩ := (hT (i * 2) (by omega)).1
    obtain ⟨v, hv⟩ := ((hT.set (i * 2) (.int .i64 (X i))) (i * 2 + 1) (by omega)).1
    refine ⟨?_, ?_⟩
    · rw [World.cell?_setCell_other]
      · simpa using World.cell?_setCell_same _ _ _ (by rw [hu])
      · simp
    · simpa using World.cell?_setCell_same _ _ _ (by rw [hv])
  · obtain ⟨h1, h2⟩ := hp i (by omega)
    refine ⟨?_, ?_⟩
    · rw [World.cell?_setCell_other, World.cell?_setCell_other]
      · exact h1
      · simp <;> omega
      · simp <;> omega
    · rw [World.cell?_setCell_other, World.cell?_setCell_other]
      · exact h2
      · simp <;> omega
      · simp <;> omega

theorem info_ip : (Try.prog.info? 34).map (fun i => (i.zero, i.size, i.bytes)) = some (some (.agg #[.int .i64 0, .int .i64 0]), 2, 16) := by kernel_rfl
theorem make_pts (n : Nat) (h : n ≤ 1048576) (w : World) :
    (Instr.makeSlice 104 (.int .i64 (n : Int)) (.int .i64 (n : Int))).run Try.prog w = .ok (.slice (some ⟨w.heap.size, 0, none⟩) n n) (w.alloc (.cells (madeCells #[.int .i64 0, .int .i64 0] (n * 2)) 34)) := by
  obtain ⟨i, hi, hz, hs, hb⟩ := info_parts info_ip
  have hr := run_make (P := Try.prog) w 104 34 i _ Try.underlying104 hi hz .i64 .i64 (n : Int) (n : Int) (by omega) (Int.le_refl _) (by rw [hb]; omega) (by omega)
  simp only [Int.toNat_natCast, hs] at hr
  exact hr
theorem there_made (n : Nat) (w : World) (t : TypeId) : There (w.alloc (.cells (madeCells #[.int .i64 0, .int .i64 0] n) t)) w.heap.size n := fun o ho => by
  have hz := size_madeCells #[.int .i64 0, .int .i64 0] n
  refine ⟨⟨(madeCells #[.int .i64 0, .int .i64 0] n)[o]'(by rw [hz]; exact ho), ?_⟩, World.frozen?_alloc_at _ _ _ _ rfl⟩
  rw [World.cell?_alloc_at _ _ _ _ rfl]
  exact Array.getElem?_eq_getElem _

end Go.Proofs.Ytjnhaigmfjndhaa
/- Two stores, read back. -/

namespace Go.Proofs.Ytjnhaigmfjndhaa
open Go.RowKit
theorem set1_other {W : World} {a p : Addr} {u : Value} (h : a ≠ p) : (W.setCell a u).cell? p = W.cell? p := World.cell?_setCell_other _ _ _ _ h
theorem set1_same {W : World} {a : Addr} {u x : Value} (h : W.cell? a = some x) : (W.setCell a u).cell? a = some u := World.cell?_setCell_same _ _ _ h
theorem set2_other {W : World} {a a' p : Addr} {u v : Value} (h : a ≠ p) (h' : a' ≠ p) : ((W.setCell a u).setCell a' v).cell? p = W.cell? p := by
  rw [set1_other h', set1_other h]
theorem set2_at {W : World} {r i j : Nat} {u v : Value} (hij : i ≠ j) (h0 : (W.cell? ⟨r, i, none⟩).isSome = true) (h1 : (W.cell? ⟨r, j, none⟩).isSome = true) :
    ((W.setCell ⟨r, i, none⟩ u).setCell ⟨r, j, none⟩ v).cell? ⟨r, i, none⟩ = some u ∧ ((W.setCell ⟨r, i, none⟩ u).setCell ⟨r, j, none⟩ v).cell? ⟨r, j, none⟩ = some v := by
  obtain ⟨x, hx⟩ := Option.isSome_iff_exists.1 h0
  obtain ⟨y, hy⟩ := Option.isSome_iff_exists.1 h1
  have n1 : (⟨r, i, none⟩ : Addr) ≠ ⟨r, j, none⟩ := fun h => hij (by injection h)
  have n2 : (⟨r, j, none⟩ : Addr) ≠ ⟨r, i, none⟩ := fun h => n1 h.symm
  refine ⟨?_, ?_⟩
  · rw [set1_other n2]; exact set1_same hx
  · exact set1_same (by rw [set1_other n1]; exact hy)
/-- Four stores into one block, read back. -/
theorem set4_at {W : World} {r : Nat} {a b c d : Value} (hT : There W r 4) :
    ((((W.setCell ⟨r, 0, none⟩ a).setCell ⟨r, 1, none⟩ b).setCell ⟨r, 2, none⟩ c).setCell ⟨r, 3, none⟩ d).cell? ⟨r, 0, none⟩ = some a ∧
    ((((W.setCell ⟨r, 0, none⟩ a).setCell ⟨r, 1, none⟩ b).setCell ⟨r, 2, none⟩ c).setCell ⟨r, 3, none⟩ d).cell? ⟨r, 1, none⟩ = some b ∧
    ((((W.setCell ⟨r, 0, none⟩ a).setCell ⟨r, 1, none⟩ b).setCell ⟨r, 2, none⟩ c).setCell ⟨r, 3, none⟩ d).cell? ⟨r, 2, none⟩ = some c ∧
    ((((W.setCell ⟨r, 0, none⟩ a).setCell ⟨r, 1, none⟩ b).setCell ⟨r, 2, none⟩ c).setCell ⟨r, 3, none⟩ d).cell? ⟨r, 3, none⟩ = some d := by
  obtain ⟨x0, h0⟩ := (hT 0 (by omega)).1
  obtain ⟨x1, h1⟩ := (hT 1 (by omega)).1
  obtain ⟨x2, h2⟩ := (hT 2 (by omega)).1
  obtain ⟨x3, h3⟩ := (hT 3 (by omega)).1
  have ne : ∀ i j : Nat, i ≠ j → (⟨r, i, none⟩ : Addr) ≠ ⟨r, j, none⟩ := fun i j hij h => hij (by injection h)
  refine ⟨?_, ?_, ?_, ?_⟩
  · rw [set1_other (ne 3 0 (by omega)), set1_other (ne 2 0 (by omega)), set1_other (ne 1 0 (by omega))]; exact set1_same h0
  · rw [set1_other (ne 3 1 (by omega)), set1_other (ne 2 1 (by omega))]; exact set1_same (by rw [set1_other (ne 0 1 (by omega))]; exact h1)
  · rw [set1_other (ne 3 2 (by omega))]; exact set1_same (by rw [set1_other (ne 1 2 (by omega)), set1_other (ne 0 2 (by omega))]; exact h2)
  · exact set1_same (by rw [set1_other (ne 2 3 (by omega)), set1_other (ne 1 3 (by omega)), set1_other (ne 0 3 (by omega))]; exact h3)
end Go.Proofs.Ytjnhaigmfjndhaa
