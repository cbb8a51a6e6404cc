/- Several texts in one. -/
import Derived.Test.YtncaibchkaadbaaVLabelBox2
import Derived.Test.YtncaibchkaadbaaVLabelBox5
import Derived.Test.YtncaibchkaadbaaVLabelBox4
import Derived.Shelf.Pu.Clone

/- Seven stores into one block, read back. -/

namespace Go.Proofs.Ytncaibchkaadbaa
open Go.RowKit
set_option linter.unusedSimpArgs false
set_option linter.unusedVariables false

/-- Seven stores into one block, read back. -/
theorem set7_at {W : World} {r : Nat} {v0 v1 v2 v3 v4 v5 v6 : Value} (hT : There W r 7) :
    (((((((W.setCell ⟨r, 0, none⟩ v0).setCell ⟨r, 1, none⟩ v1).setCell ⟨r, 2, none⟩ v2).setCell ⟨r, 3, none⟩ v3).setCell ⟨r, 4, none⟩ v4).setCell ⟨r, 5, none⟩ v5).setCell ⟨r, 6, none⟩ v6).cell? ⟨r, 0, none⟩ = some v0 ∧
    (((((((W.setCell ⟨r, 0, none⟩ v0).setCell ⟨r, 1, none⟩ v1).setCell ⟨r, 2, none⟩ v2).setCell ⟨r, 3, none⟩ v3).setCell ⟨r, 4, none⟩ v4).setCell ⟨r, 5, none⟩ v5).setCell ⟨r, 6, none⟩ v6).cell? ⟨r, 1, none⟩ = some v1 ∧
    (((((((W.setCell ⟨r, 0, none⟩ v0).setCell ⟨r, 1, none⟩ v1).setCell ⟨r, 2, none⟩ v2).setCell ⟨r, 3, none⟩ v3).setCell ⟨r, 4, none⟩ v4).setCell ⟨r, 5, none⟩ v5).setCell ⟨r, 6, none⟩ v6).cell? ⟨r, 2, none⟩ = some v2 ∧
    (((((((W.setCell ⟨r, 0, none⟩ v0).setCell ⟨r, 1, none⟩ v1).setCell ⟨r, 2, none⟩ v2).setCell ⟨r, 3, none⟩ v3).setCell ⟨r, 4, none⟩ v4).setCell ⟨r, 5, none⟩ v5).setCell ⟨r, 6, none⟩ v6).cell? ⟨r, 3, none⟩ = some v3 ∧
    (((((((W.setCell ⟨r, 0, none⟩ v0).setCell ⟨r, 1, none⟩ v1).setCell ⟨r, 2, none⟩ v2).setCell ⟨r, 3, none⟩ v3).setCell ⟨r, 4, none⟩ v4).setCell ⟨r, 5, none⟩ v5).setCell ⟨r, 6, none⟩ v6).cell? ⟨r, 4, none⟩ = some v4 ∧
    (((((((W.setCell ⟨r, 0, none⟩ v0).setCell ⟨r, 1, none⟩ v1).setCell ⟨r, 2, none⟩ v2).setCell ⟨r, 3, none⟩ v3).setCell ⟨r, 4, none⟩ v4).setCell ⟨r, 5, none⟩ v5).setCell ⟨r, 6, none⟩ v6).cell? ⟨r, 5, none⟩ = some v5 ∧
    (((((((W.setCell ⟨r, 0, none⟩ v0).setCell ⟨r, 1, none⟩ v1).setCell ⟨r, 2, none⟩ v2).setCell ⟨r, 3, none⟩ v3).setCell ⟨r, 4, none⟩ v4).setCell ⟨r, 5, none⟩ v5).setCell ⟨r, 6, none⟩ v6).cell? ⟨r, 6, none⟩ = some v6 := by
  have ne : ∀ i j : Nat, i ≠ j → (⟨r, i, none⟩ : Addr) ≠ ⟨r, j, none⟩ := fun i j hij h => hij (by injection h)
  obtain ⟨x0, h0⟩ := (hT 0 (by omega)).1
  obtain ⟨x1, h1⟩ := (hT 1 (by omega)).1
  obtain ⟨x2, h2⟩ := (hT 2 (by omega)).1
  obtain ⟨x3, h3⟩ := (hT 3 (by omega)).1
  obtain ⟨x4, h4⟩ := (hT 4 (by omega)).1
  obtain ⟨x5, h5⟩ := (hT 5 (by omega)).1
  obtain ⟨x6, h6⟩ := (hT 6 (by omega)).1
  refine ⟨?_, ?_, ?_, ?_, ?_, ?_, ?_⟩
  · rw [set1_other (ne 6 0 (by omega)), set1_other (ne 5 0 (by omega)), set1_other (ne 4 0 (by omega)), set1_other (ne 3 0 (by omega)), set1_other (ne 2 0 (by omega)), set1_other (ne 1 0 (by omega))]; exact set1_same h0
  · rw [set1_other (ne 6 1 (by omega)), set1_other (ne 5 1 (by omega)), set1_other (ne 4 1 (by omega)), set1_other (ne 3 1 (by omega)), set1_other (ne 2 1 (by omega))]; exact set1_same (by rw [set1_other (ne 0 1 (by omega))]; exact h1)
  · rw [set1_other (ne 6 2 (by omega)), set1_other (ne 5 2 (by omega)), set1_other (ne 4 2 (by omega)), set1_other (ne 3 2 (by omega))]; exact set1_same (by rw [set1_other (ne 1 2 (by omega)), set1_other (ne 0 2 (by omega))]; exact h2)
  · rw [set1_other (ne 6 3 (by omega)), set1_other (ne 5 3 (by omega)), set1_other (ne 4 3 (by omega))]; exact set1_same (by rw [set1_other (ne 2 3 (by omega)), set1_other (ne 1 3 (by omega)), set1_other (ne 0 3 (by omega))]; exact h3)
  · rw [set1_other (ne 6 4 (by omega)), set1_other (ne 5 4 (by omega))]; exact set1_same (by rw [set1_other (ne 3 4 (by omega)), set1_other (ne 2 4 (by omega)), set1_other (ne 1 4 (by omega)), set1_other (ne 0 4 (by omega))]; exact h4)
  · rw [set1_other (ne 6 5 (by omega))]; exact set1_same (by rw [set1_other (ne 4 5 (by omega)), set1_other (ne 3 5 (by omega)), set1_other (ne 2 5 (by omega)), set1_other (ne 1 5 (by omega)), set1_other (ne 0 5 (by omega))]; exact h5)
  · exact set1_same (by rw [set1_other (ne 5 6 (by omega)), set1_other (ne 4 6 (by omega)), set1_other (ne 3 6 (by omega)), set1_other (ne 2 6 (by omega)), set1_other (ne 1 6 (by omega)), set1_other (ne 0 6 (by omega))]; exact h6)
end Go.Proofs.Ytncaibchkaadbaa
/- Strings are cloned; the cells of a list of points; seven stores into one block. -/

namespace Go.Proofs.Ytncaibchkaadbaa
open Go.RowKit
set_option linter.unusedSimpArgs false
set_option linter.unusedVariables false

theorem pts_cellsO {w : World} {b off n : Nat} {X Y : Nat → Int} (h : PtsAt w b off n X Y) : ∀ j u, (cellsL (ptsOf X Y (List.range n)))[j]? = some u → w.cell? ⟨b, off + j, none⟩ = some u := fun j u hu => by
  have hlen : (ptsOf X Y (List.range n)).length = n := by simp [ptsOf]
  have hj : j < n * 2 := by
    have := (List.getElem?_eq_some_iff.1 hu).1
    rw [cellsL_len, hlen] at this
    exact this
  have hi : j / 2 < n := by omega
  obtain ⟨e1, e2⟩ := cellsL_at (ptsOf X Y (List.range n)) (j / 2) (by rw [hlen]; exact hi)
  obtain ⟨c1, c2⟩ := h (j / 2) hi
  have ex : px (ptsOf X Y (List.range n)) (j / 2) = X (j / 2) := by simp [px, ptsOf, List.getD_eq_getElem?_getD, hi]
  have ey : py (ptsOf X Y (List.range n)) (j / 2) = Y (j / 2) := by simp [py, ptsOf, List.getD_eq_getElem?_getD, hi]
  rw [ex] at e1
  rw [ey] at e2
  rcases Nat.mod_two_eq_zero_or_one j with hm | hm
  · have e : j / 2 * 2 = j := by omega
    rw [e] at e1 c1
    rw [e1] at hu
    rw [c1]
    exact hu
  · have e : j / 2 * 2 + 1 = j := by omega
    rw [Nat.add_assoc, e] at c2
    rw [e] at e2
    rw [e2] at hu
    rw [c2]
    exact hu
theorem info_u8 : (Try.prog.info? 5).map (fun i => (i.zero, i.size, i.bytes)) = some (some (.int .u8 0), 1, 1) := by kernel_rfl
set_option maxHeartbeats 4000000 in
set_option maxRecDepth 100000 in
theorem sliteClone_any (s : ByteArray) (w : World) (hlim : s.size ≤ 1048576) :
    Calls Try.prog 81 #[.string s] w fun e w' => e = .returned (.string s) ∧ Below w.heap.size w w' := by
  by_cases h0 : s.size = 0
  · have hs : s = ⟨#[]⟩ := by
      apply ByteArray.ext
      exact Array.eq_empty_of_size_eq_zero h0
    subst hs
    go_enter Try.func81, Try.ntmps81
    go_wp2
    go_ret
    exact ⟨rfl, Below.refl _ _⟩
  · obtain ⟨i0, hi, hz0, hz1, hz2⟩ := info_parts info_u8
    have hinfo : (Try.prog.info? 5).map (·.size) = some 1 := by rw [hi]; simp [hz1]
    have hco : Try.prog.cellsOf 5 = 1 := by simp [Program.cellsOf, hi, hz1]
    obtain ⟨M, hM⟩ : ∃ M, M = madeCells (Value.int .u8 0).cells (((s.size : Nat) : Int).toNat * i0.size) := ⟨_, rfl⟩
    have hMs : M.size = s.size := by rw [hM, size_madeCells, hz1]; simp
    have hmk : ∀ W : World, (Instr.makeSlice 129 (.int .i64 (s.size : Int)) (.int .i64 (s.size : Int))).run Try.prog W = .ok (.slice (some ⟨W.heap.size, 0, none⟩) s.size s.size) (W.alloc (.cells M 5)) := fun W => by
      have h := run_make (P := Try.prog) W 129 5 i0 (.int .u8 0) Try.underlying129 hi hz0 .i64 .i64 (s.size : Int) (s.size : Int) (by omega) (by omega) (by rw [hz2]; omega) (by omega)
      rw [← hM] at h
      simpa using h
    clear hM
    have hcp := Lib.run_copy_row_string (P := Try.prog) (w.alloc (.cells M 5)) 129 9 3 5 w.heap.size 0 s.size s.size s M 5 Try.underlying129 hinfo (heap_alloc_new w _) (Nat.le_refl _) (by omega)
    obtain ⟨Y, hY⟩ : ∃ Y, Y = (M.toList.take 0 ++ Lib.byteCells s.data.toList ++ M.toList.drop (0 + s.size)).toArray := ⟨_, rfl⟩
    rw [← hY] at hcp
    have hYl : Y.toList = Lib.byteCells s.data.toList := by
      rw [hY, List.toList_toArray, List.take_zero, List.nil_append, List.drop_of_length_le (by rw [Array.length_toList]; omega), List.append_nil]
    have hYs : Y.size = s.size := by rw [← Array.length_toList, hYl, Lib.byteCells_length, ← Lib.size_eq]
    have hgY : ((w.alloc (.cells M 5)).setRow w.heap.size Y).heap[w.heap.size]? = some (.cells Y 5 (0, 0)) := setRow_heap _ _ M _ 5 (0, 0) (heap_alloc_new w _)
    have hne : s.data.toList ≠ [] := fun e => h0 (by rw [Lib.size_eq, e]; rfl)
    have hUS := Lib.run_unsafeString_row (P := Try.prog) ((w.alloc (.cells M 5)).setRow w.heap.size Y) 130 3 9 5 Try.underlying130 hco w.heap.size Y.size (by unfold World.shape?; rw [hgY]) s.data.toList hne (by rw [← Lib.size_eq]; omega) (by rw [← Lib.size_eq]; omega)
      (fun j x hx => Lib.cells_of_row hgY Y.size j _ (by rw [List.take_of_length_le (by rw [Array.length_toList]; exact Nat.le_refl _), hYl]; simp [Lib.byteCells, hx]))
    rw [← Lib.size_eq] at hUS
    clear hY
    go_enter Try.func81, Try.ntmps81
    go_wp2
    go_ret
    have hb1 : Below w.heap.size w (w.alloc (.cells M 5)) := (Below.refl _ w).alloc (Nat.le_refl _) _
    have hb2 : Below w.heap.size (w.alloc (.cells M 5)) ((w.alloc (.cells M 5)).setRow w.heap.size Y) := ⟨rfl, rfl, rfl, by simp, fun k hk => setRow_other _ _ _ _ (by omega)⟩
    exact ⟨rfl, Lib.below_freeze (hb1.trans hb2) (p := ⟨w.heap.size, 0, none⟩) (Nat.le_refl _) _⟩
theorem stringsClone_any (s : ByteArray) (w : World) (hlim : s.size ≤ 1048576) :
    Calls Try.prog 68 #[.string s] w fun e w' => e = .returned (.string s) ∧ Below w.heap.size w w' := by
  go_enter Try.func68, Try.ntmps68
  go_wp2_with (go_at_call 81; refine (sliteClone_any _ _ hlim).mono ?_; rintro e w1 ⟨rfl, hb1⟩)
  go_ret
  exact ⟨rfl, by (repeat (first | exact Below.refl _ _ | assumption | refine Below.drew ?_ | refine bl_alloc ?_ _ | refine bl_then ?_ (by assumption) | refine Below.setCell ?_ (by first | omega | (simp; done) | (simp; omega)) _ | refine bl_store ?_ ?_ _ _))⟩
end Go.Proofs.Ytncaibchkaadbaa
