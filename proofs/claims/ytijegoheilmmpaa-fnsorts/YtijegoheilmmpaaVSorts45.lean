/- Whether two features are the same: the program's. -/
import Derived.Test.YtijegoheilmmpaaVSorts44
namespace Go.Proofs.Ytijegoheilmmpaa
open Go.RowKit
set_option linter.unusedSimpArgs false
set_option linter.unusedVariables false
set_option maxRecDepth 100000

/-- Whether two features are the same. -/
def sameB (i1 l1 k1 w1 : Int) (s1 : ByteArray) (p1 i2 l2 k2 w2 : Int) (s2 : ByteArray) (p2 : Int) : Bool := (i1 == i2) && ((l1 == l2) && ((k1 == k2) && ((w1 == w2) && (decide (s1 = s2) && (p1 == p2)))))
theorem bytes_ne {s1 s2 : ByteArray} (h : ¬ s1 = s2) : (s1 == s2) = false ∧ (s1.toList == s2.toList) = false := by
  have h1 : (s1.toList == s2.toList) = false := by
    cases hb : (s1.toList == s2.toList)
    · rfl
    · have e : s1.toList = s2.toList := by simpa using hb
      rw [ByteArray.toList_eq, ByteArray.toList_eq] at e
      exact absurd (ByteArray.ext (Array.toList_inj.1 e)) h
  exact ⟨by rw [beq_toListBytes]; exact h1, h1⟩

set_option maxHeartbeats 4000000 in
theorem isSameFeature_any (i1 l1 k1 w1 i2 l2 k2 w2 : Int) (b d n m c c' : Nat) (X Y X' Y' : Nat → Int) (s1 s2 : ByteArray) (p1 p2 : Int) (w : World) (hp : PtsAt w b 0 n X Y) (hq : PtsAt w d 0 m X' Y') (hb : b < w.heap.size) (hd : d < w.heap.size) (hn : n ≤ 1048576) (hm : m ≤ 1048576) :
    Calls Try.prog 35 #[.agg #[.int .i64 i1, .int .i64 l1, .int .i64 k1, .int .i64 w1, .slice (some ⟨b, 0, none⟩) n c, .string s1, .int .i64 p1], .agg #[.int .i64 i2, .int .i64 l2, .int .i64 k2, .int .i64 w2, .slice (some ⟨d, 0, none⟩) m c', .string s2, .int .i64 p2]] w fun e w' => e = .returned (.bool (ptsEq n X Y m X' Y' && sameB i1 l1 k1 w1 s1 p1 i2 l2 k2 w2 s2 p2)) ∧ Below w.heap.size w w' := by
  have HP : Hid (PtsAt w b 0 n X Y) := hp
  have HQ : Hid (PtsAt w d 0 m X' Y') := hq
  clear hp hq
  go_enter Try.func35, Try.ntmps35
  go_wp2_with fail
  generalize hW : ((w.alloc _).alloc _ : World) = W
  have hB0 : Below w.heap.size w W := by subst hW; (repeat (first | exact Below.refl _ _ | assumption | refine Below.drew ?_ | refine bl_alloc ?_ _ | refine bl_then ?_ (by assumption) | refine Below.setCell ?_ (by first | omega | (simp; done) | (simp; omega)) _ | refine bl_store ?_ ?_ _ _))
  have hsz : W.heap.size = w.heap.size + 1 + 1 := by subst hW; simp
  have a0 : ∀ W', Below W.heap.size W W' → W'.cell? ⟨w.heap.size, 0, none⟩ = some (.int .i64 i1) := fun W' h => by
    rw [h.cell (by subst hW; first | (simp; done) | (simp; omega))]; subst hW; simp [go_sem]
  have a1 : ∀ W', Below W.heap.size W W' → W'.cell? ⟨w.heap.size, 1, none⟩ = some (.int .i64 l1) := fun W' h => by
    rw [h.cell (by subst hW; first | (simp; done) | (simp; omega))]; subst hW; simp [go_sem]
  have a2 : ∀ W', Below W.heap.size W W' → W'.cell? ⟨w.heap.size, 2, none⟩ = some (.int .i64 k1) := fun W' h => by
    rw [h.cell (by subst hW; first | (simp; done) | (simp; omega))]; subst hW; simp [go_sem]
  have a3 : ∀ W', Below W.heap.size W W' → W'.cell? ⟨w.heap.size, 3, none⟩ = some (.int .i64 w1) := fun W' h => by
    rw [h.cell (by subst hW; first | (simp; done) | (simp; omega))]; subst hW; simp [go_sem]
  have a5 : ∀ W', Below W.heap.size W W' → W'.cell? ⟨w.heap.size, 5, none⟩ = some (.string s1) := fun W' h => by
    rw [h.cell (by subst hW; first | (simp; done) | (simp; omega))]; subst hW; simp [go_sem]
  have a6 : ∀ W', Below W.heap.size W W' → W'.cell? ⟨w.heap.size, 6, none⟩ = some (.int .i64 p1) := fun W' h => by
    rw [h.cell (by subst hW; first | (simp; done) | (simp; omega))]; subst hW; simp [go_sem]
  have b0 : ∀ W', Below W.heap.size W W' → W'.cell? ⟨w.heap.size + 1, 0, none⟩ = some (.int .i64 i2) := fun W' h => by
    rw [h.cell (by subst hW; first | (simp; done) | (simp; omega))]; subst hW; simp [go_sem]
  have b1 : ∀ W', Below W.heap.size W W' → W'.cell? ⟨w.heap.size + 1, 1, none⟩ = some (.int .i64 l2) := fun W' h => by
    rw [h.cell (by subst hW; first | (simp; done) | (simp; omega))]; subst hW; simp [go_sem]
  have b2 : ∀ W', Below W.heap.size W W' → W'.cell? ⟨w.heap.size + 1, 2, none⟩ = some (.int .i64 k2) := fun W' h => by
    rw [h.cell (by subst hW; first | (simp; done) | (simp; omega))]; subst hW; simp [go_sem]
  have b3 : ∀ W', Below W.heap.size W W' → W'.cell? ⟨w.heap.size + 1, 3, none⟩ = some (.int .i64 w2) := fun W' h => by
    rw [h.cell (by subst hW; first | (simp; done) | (simp; omega))]; subst hW; simp [go_sem]
  have b5 : ∀ W', Below W.heap.size W W' → W'.cell? ⟨w.heap.size + 1, 5, none⟩ = some (.string s2) := fun W' h => by
    rw [h.cell (by subst hW; first | (simp; done) | (simp; omega))]; subst hW; simp [go_sem]
  have b6 : ∀ W', Below W.heap.size W W' → W'.cell? ⟨w.heap.size + 1, 6, none⟩ = some (.int .i64 p2) := fun W' h => by
    rw [h.cell (by subst hW; first | (simp; done) | (simp; omega))]; subst hW; simp [go_sem]
  clear hW
  refine (slicesEqual_any b d n m c c' X Y X' Y' W (HP.out.below hB0 hb) (HQ.out.below hB0 hd) (by omega) (by omega) hn hm).mono ?_
  rintro e v1 ⟨rfl, hb1⟩
  have HB0 : Hid (Below w.heap.size w W) := hB0
  have hB1 : Below W.heap.size W v1 := hb1
  clear hB0 hsz hb1
  have HB1 : Hid (Below w.heap.size w v1) := bl_then HB0.out hB1
  cases hpe : ptsEq n X Y m X' Y'
  · have KPE : Hid (ptsEq n X Y m X' Y' = false) := hpe
    go_wp2
    go_ret
    exact ⟨ret_bool (by simp [KPE.out]), HB1.out⟩
  have KPE : Hid (ptsEq n X Y m X' Y' = true) := hpe
  clear hpe
  by_cases g0 : i1 = i2
  rotate_left
  · have g0' : (i1 == i2) = false := by simpa using g0
    have hz : Hid (sameB i1 l1 k1 w1 s1 p1 i2 l2 k2 w2 s2 p2 = false) := by show _ = _; simp [sameB, g0]
    clear g0
    go_wp2
    go_ret
    exact ⟨ret_bool (by rw [KPE.out, hz.out]; simp), HB1.out⟩
  subst g0
  by_cases g1 : l1 = l2
  rotate_left
  · have g1' : (l1 == l2) = false := by simpa using g1
    have hz : Hid (sameB i1 l1 k1 w1 s1 p1 i1 l2 k2 w2 s2 p2 = false) := by show _ = _; simp [sameB, g1]
    clear g1
    go_wp2
    go_ret
    exact ⟨ret_bool (by rw [KPE.out, hz.out]; simp), HB1.out⟩
  subst g1
  by_cases g2 : k1 = k2
  rotate_left
  · have g2' : (k1 == k2) = false := by simpa using g2
    have hz : Hid (sameB i1 l1 k1 w1 s1 p1 i1 l1 k2 w2 s2 p2 = false) := by show _ = _; simp [sameB, g2]
    clear g2
    go_wp2
    go_ret
    exact ⟨ret_bool (by rw [KPE.out, hz.out]; simp), HB1.out⟩
  subst g2
  by_cases g3 : w1 = w2
  rotate_left
  · have g3' : (w1 == w2) = false := by simpa using g3
    have hz : Hid (sameB i1 l1 k1 w1 s1 p1 i1 l1 k1 w2 s2 p2 = false) := by show _ = _; simp [sameB, g3]
    clear g3
    go_wp2
    go_ret
    exact ⟨ret_bool (by rw [KPE.out, hz.out]; simp), HB1.out⟩
  subst g3
  by_cases g5 : s1 = s2
  rotate_left
  · obtain ⟨q1, q2⟩ := bytes_ne g5
    have hz : Hid (sameB i1 l1 k1 w1 s1 p1 i1 l1 k1 w1 s2 p2 = false) := by show _ = _; simp [sameB, g5]
    clear g5
    go_wp2
    go_ret
    exact ⟨ret_bool (by rw [KPE.out, hz.out]; simp), HB1.out⟩
  subst g5
  have hz : Hid (sameB i1 l1 k1 w1 s1 p1 i1 l1 k1 w1 s1 p2 = (p1 == p2)) := by show _ = _; simp [sameB]
  go_wp2
  go_ret
  exact ⟨ret_bool (by rw [KPE.out, hz.out]; simp), HB1.out⟩
end Go.Proofs.Ytijegoheilmmpaa
