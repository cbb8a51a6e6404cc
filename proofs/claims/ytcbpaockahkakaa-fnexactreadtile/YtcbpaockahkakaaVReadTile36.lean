/- A feature that the model reads. -/
import Derived.Test.YtcbpaockahkakaaVReadTile35
import Derived.Test.YtcbpaockahkakaaVReadTile30
import Derived.Test.YtcbpaockahkakaaVReadTile11
import Derived.Test.YtcbpaockahkakaaVReadTile5
import Derived.Deep.QuietTactic
import Derived.BigQuiet
namespace Go.Proofs.Ytcbpaockahkakaa
open Go.RowKit
set_option linter.unusedSimpArgs false
set_option linter.unusedVariables false
set_option maxRecDepth 100000

/-- What holds between the numbers of a feature: the result's block, the feature's, the reader's. -/
structure ASt (w : World) (p b off n cap : Nat) (Z : Nat → Int) (R F : Nat) (o : Nat) (bad : Bool) (a0 a1 a2 a3 : Int) (v : Value) (lab : ByteArray) (a4 : Int) (wr : World) : Prop where
  T : There wr R 7
  O : OutAt wr F a0 a1 a2 a3 v lab a4
  D : RdAt wr p b off n cap Z o bad
  K : Keeps p w wr
  le : w.heap.size ≤ R
  lt : R < F
  bl : b < w.heap.size
  pl : p < w.heap.size
theorem RdAt.oth {w : World} {p b off n cap : Nat} {Z : Nat → Int} {o : Nat} {bad : Bool} (h : RdAt w p b off n cap Z o bad) {q : Nat} (hp : q ≠ p) (hb : q ≠ b) (j : Nat) (u : Value) : RdAt (w.setCell ⟨q, j, none⟩ u) p b off n cap Z o bad := by
  obtain ⟨h0, h1, h2, h3, h4, h5⟩ := h
  refine ⟨by rw [Below.heap_setCell _ _ _ _ (by simpa using fun e => hp e.symm)]; exact h0, h1, by simpa [World.setCell] using h2, fun i hi => ?_, h4, h5⟩
  rw [set1_other (fun e => hb (by injection e))]
  exact h3 i hi
theorem OutAt.othU {w : World} {O q : Nat} {id la ki wi pr : Int} {v : Value} {lab : ByteArray} (h : OutAt w O id la ki wi v lab pr) (hne : q ≠ O) (o : Nat) (x : Value) : OutAt (w.setCell ⟨q, o, none⟩ x) O id la ki wi v lab pr := by
  unfold OutAt
  rw [Below.heap_setCell _ _ _ _ (by simpa using fun e => hne e.symm)]
  exact h
section
variable {w : World} {p b off n cap : Nat} {Z : Nat → Int} {R F : Nat} {o : Nat} {bad : Bool} {a0 a1 a2 a3 : Int} {v : Value} {lab : ByteArray} {a4 : Int} {wr : World}
theorem ASt.read {o' : Nat} {bad' : Bool} {w2 : World} (h : ASt w p b off n cap Z R F o bad a0 a1 a2 a3 v lab a4 wr) (hk : Keeps p wr w2) (hd : RdAt w2 p b off n cap Z o' bad') : ASt w p b off n cap Z R F o' bad' a0 a1 a2 a3 v lab a4 w2 := by
  have h1 := h.le
  have h2 := h.lt
  have h3 := h.O.lt
  have h4 := h.pl
  exact ⟨h.T.keepsU hk (by omega) (by omega), (hk.block _ (by omega) (by omega)).trans h.O, hd, h.K.trans hk, h1, h2, h.bl, h4⟩
theorem ASt.below {w2 : World} (h : ASt w p b off n cap Z R F o bad a0 a1 a2 a3 v lab a4 wr) (hb : Below wr.heap.size wr w2) : ASt w p b off n cap Z R F o bad a0 a1 a2 a3 v lab a4 w2 := h.read (Keeps.of_below hb) (h.D.below hb)
theorem ASt.wrong (h : ASt w p b off n cap Z R F o bad a0 a1 a2 a3 v lab a4 wr) : ASt w p b off n cap Z R F o true a0 a1 a2 a3 v lab a4 (wr.setCell ⟨p, 2, none⟩ (.bool true)) := h.read ((Keeps.refl p wr).set 2 _) h.D.wrong
theorem ASt.at (h : ASt w p b off n cap Z R F o bad a0 a1 a2 a3 v lab a4 wr) (r : Nat) (hr : r ≤ n) : ASt w p b off n cap Z R F r bad a0 a1 a2 a3 v lab a4 (wr.setCell ⟨p, 1, none⟩ (.int .i64 (r : Int))) := h.read ((Keeps.refl p wr).set 1 _) (h.D.at r hr)
theorem ASt.frozen (h : ASt w p b off n cap Z R F o bad a0 a1 a2 a3 v lab a4 wr) (j : Nat) : wr.frozen? ⟨p, j, none⟩ = false := h.D.cells.2.2.2 j
/-- A store into the result's block. -/
theorem ASt.put (h : ASt w p b off n cap Z R F o bad a0 a1 a2 a3 v lab a4 wr) (j : Nat) (u : Value) : ASt w p b off n cap Z R F o bad a0 a1 a2 a3 v lab a4 (wr.setCell ⟨R, j, none⟩ u) := by
  have h1 := h.le
  have h2 := h.lt
  have h4 := h.pl
  have h5 := h.bl
  have hb : Below w.heap.size wr (wr.setCell ⟨R, j, none⟩ u) := (Below.refl w.heap.size wr).setCell (p := ⟨R, j, none⟩) h1 u
  exact ⟨h.T.set1 j u, h.O.othU (by omega) j u, h.D.oth (by omega) (by omega) j u, keepsNew h.K hb (Nat.le_refl _), h1, h2, h5, h4⟩
end
theorem RdAt.belowB {w w1 : World} {p b off n cap B : Nat} {Z : Nat → Int} {o : Nat} {bad : Bool} (h : RdAt w p b off n cap Z o bad) (hb : Below B w w1) (hp : p < B) (hB : b < B) : RdAt w1 p b off n cap Z o bad := by
  obtain ⟨h0, h1, h2, h3, h4, h5⟩ := h
  exact ⟨(hb.block p hp).trans h0, h1, Nat.lt_of_lt_of_le h2 hb.size, fun i hi => (hb.cell (p := ⟨b, off + i, none⟩) hB).trans (h3 i hi), h4, h5⟩
theorem There.belowY {W W' : World} {r n B : Nat} (h : There W r n) (hb : Below B W W') (hr : r < B) : There W' r n := fun o ho => by
  obtain ⟨u, hu⟩ := (h o ho).1
  exact ⟨⟨u, (hb.cell (p := ⟨r, o, none⟩) hr).trans hu⟩, (hb.frozen (p := ⟨r, o, none⟩) hr).trans (h o ho).2⟩
theorem Row.offY {base r o : Nat} {w : World} {v u : Value} {l : List (Int × Int)} (h : Row base w v l) (hr : r < base) : Row base (w.setCell ⟨r, o, none⟩ u) v l := by
  obtain ⟨h1, h2 | ⟨g, cp, cur, hv, hg, hh, hr'⟩⟩ := h
  · exact ⟨h1, .inl h2⟩
  · exact ⟨h1, .inr ⟨g, cp, cur, hv, hg, by rw [Below.heap_setCell _ _ _ _ (by simp; omega)]; exact hh, hr'⟩⟩
section
variable {w : World} {p b off n cap : Nat} {Z : Nat → Int} {R F : Nat} {o : Nat} {bad : Bool} {a0 a1 a2 a3 : Int} {v : Value} {lab : ByteArray} {a4 : Int} {wr : World}
theorem ASt.grow {B : Nat} {w2 : World} (h : ASt w p b off n cap Z R F o bad a0 a1 a2 a3 v lab a4 wr) (hb : Below B wr w2) (hF : F < B) : ASt w p b off n cap Z R F o bad a0 a1 a2 a3 v lab a4 w2 := by
  have h1 := h.le
  have h2 := h.lt
  have h4 := h.pl
  have h5 := h.bl
  exact ⟨h.T.belowY hb (by omega), (hb.block F hF).trans h.O, h.D.belowB hb (by omega) (by omega), keepsNew h.K hb (by omega), h1, h2, h5, h4⟩
theorem ASt.right (h : ASt w p b off n cap Z R F o false a0 a1 a2 a3 v lab a4 wr) : ASt w p b off n cap Z R F o false a0 a1 a2 a3 v lab a4 (wr.setCell ⟨p, 2, none⟩ (.bool false)) := h.read ((Keeps.refl p wr).set 2 _) (by
  obtain ⟨h0, h1, h2, h3, h4, h5⟩ := h.D
  refine ⟨by simpa using heap_setCell_same wr p 2 _ 101 (.bool false) h0, h1, by simpa [World.setCell] using h2, fun i hi => ?_, h4, h5⟩
  rw [set1_other (fun e => h1 (by injection e with e; exact e.symm))]
  exact h3 i hi)
theorem outFeat {O : Nat} {id la ki wi pr : Int} {w' : World} {u : Value} (h : OutAt w' O id la ki wi u lab pr) : FeatAt w' O 0 id la ki wi u lab pr := by
  obtain ⟨⟨h0, h1, h2, h3, h4, h5, h6⟩, _⟩ := h.cells
  exact ⟨h0, h1, h2, h3, h4, h5, h6⟩
theorem ASt.setV (h : ASt w p b off n cap Z R F o bad a0 a1 a2 a3 v lab a4 wr) (v' : Value) : ASt w p b off n cap Z R F o bad a0 a1 a2 a3 v' lab a4 (wr.setCell ⟨F, 4, none⟩ v') := by
  have h1 := h.le
  have h2 := h.lt
  have h4 := h.pl
  have h5 := h.bl
  have hb : Below w.heap.size wr (wr.setCell ⟨F, 4, none⟩ v') := (Below.refl w.heap.size wr).setCell (p := ⟨F, 4, none⟩) (show w.heap.size ≤ F by omega) v'
  exact ⟨h.T.offU (by omega), h.O.set, h.D.oth (by omega) (by omega) 4 v', keepsNew h.K hb (Nat.le_refl _), h1, h2, h5, h4⟩
theorem ASt.offY (h : ASt w p b off n cap Z R F o bad a0 a1 a2 a3 v lab a4 wr) {r : Nat} (hr : F < r) (j : Nat) (u : Value) : ASt w p b off n cap Z R F o bad a0 a1 a2 a3 v lab a4 (wr.setCell ⟨r, j, none⟩ u) := by
  have h1 := h.le
  have h2 := h.lt
  have h4 := h.pl
  have h5 := h.bl
  have hb : Below w.heap.size wr (wr.setCell ⟨r, j, none⟩ u) := (Below.refl w.heap.size wr).setCell (p := ⟨r, j, none⟩) (show w.heap.size ≤ r by omega) u
  exact ⟨h.T.offU (by omega), h.O.othU (by omega) j u, h.D.oth (by omega) (by omega) j u, keepsNew h.K hb (Nat.le_refl _), h1, h2, h5, h4⟩
end
/-- What holds between the points. -/
structure PSo (w : World) (p b off n cap : Nat) (Z : Nat → Int) (R F L B : Nat) (o : Nat) (bad : Bool) (a0 a1 a2 a3 : Int) (v : Value) (lab : ByteArray) (a4 : Int) (x y : Int) (l : List (Int × Int)) (wr : World) : Prop where
  A : ASt w p b off n cap Z R F o bad a0 a1 a2 a3 v lab a4 wr
  c0 : wr.cell? ⟨L, 0, none⟩ = some (.int .i64 x)
  c1 : wr.cell? ⟨L, 1, none⟩ = some (.int .i64 y)
  TL : There wr L 2
  Rw : Row B wr v l
  fl : F < L
  lb : L < B
  sz : B ≤ wr.heap.size
theorem PSo.read {w : World} {p b off n cap : Nat} {Z : Nat → Int} {R F L B : Nat} {o o' : Nat} {bad bad' : Bool} {a0 a1 a2 a3 : Int} {v : Value} {lab : ByteArray} {a4 x y : Int} {l : List (Int × Int)} {wr w2 : World} (h : PSo w p b off n cap Z R F L B o bad a0 a1 a2 a3 v lab a4 x y l wr) (hk : Keeps p wr w2) (hd : RdAt w2 p b off n cap Z o' bad') : PSo w p b off n cap Z R F L B o' bad' a0 a1 a2 a3 v lab a4 x y l w2 := by
  have h1 := h.A.le
  have h2 := h.A.lt
  have h3 := h.fl
  have h4 := h.A.pl
  have h5 := h.lb
  have h6 := h.sz
  have hq : L < wr.heap.size := by omega
  have hne : L ≠ p := by omega
  exact ⟨h.A.read hk hd, (hk.cell (p := ⟨L, 0, none⟩) hq hne).trans h.c0, (hk.cell (p := ⟨L, 1, none⟩) hq hne).trans h.c1, h.TL.keepsU hk hne hq, h.Rw.keeps hk (by omega), h3, h5, Nat.le_trans h6 hk.size⟩
theorem there2y (V : World) (a b : Value) (t : TypeId) : There (V.alloc (.cells #[a, b] t)) V.heap.size 2 := fun o ho => by
  have : o = 0 ∨ o = 1 := by omega
  rcases this with rfl | rfl <;> exact ⟨⟨_, by simp [go_sem]; rfl⟩, by simp [go_sem]⟩
theorem Row.isPts {base : Nat} {w : World} {v : Value} {l : List (Int × Int)} (h : Row base w v l) : ∃ a c, v = .slice a l.length c ∧ IsPts w a l.length (px l) (py l) := by
  by_cases h0 : 0 < l.length
  · obtain ⟨g, c, hv, h1, h2, h3, h4⟩ := h.at h0
    exact ⟨_, c, hv, .inr ⟨g, 0, rfl, h2, h4⟩⟩
  · have hl : l.length = 0 := by omega
    obtain ⟨h1, h2 | ⟨g, cp, cur, hv, _⟩⟩ := id h
    · exact ⟨none, 0, by rw [hl]; exact h2.1, .inl hl⟩
    · exact ⟨_, cp, hv, .inl hl⟩
/-- A point is read, or not. -/
theorem pts_step {Z : Nat → Int} {n C k ob od oe vd ve : Nat} {x y : Int} {be bd : Bool} {M : Option (List (Int × Int) × Nat)} {l : List (Int × Int)} (hk : k < C)
    (hM : M = (mPts Z n (C - k) ob x y).map fun r => (l ++ r.1, r.2))
    (h1 : (bd = true ∧ vd = 0 ∧ od = ob ∧ (false = true ∨ rd (fun i => Z (i + ob)) (n - ob) = none)) ∨ (True ∧ bd = false ∧ rd (fun i => Z (i + ob)) (n - ob) = some (vd, od - ob) ∧ ob < od))
    (h2 : (be = true ∧ ve = 0 ∧ oe = od ∧ (bd = true ∨ rd (fun i => Z (i + od)) (n - od) = none)) ∨ (bd = false ∧ be = false ∧ rd (fun i => Z (i + od)) (n - od) = some (ve, oe - od) ∧ od < oe)) :
    (be = true ∧ M = none) ∨ (be = false ∧ M = (mPts Z n (C - (k + 1)) oe (x + unfoldI (vd : Int)) (y + unfoldI (ve : Int))).map fun r => ((l ++ [(x + unfoldI (vd : Int), y + unfoldI (ve : Int))]) ++ r.1, r.2)) := by
  have e0 : C - k = (C - (k + 1)) + 1 := by omega
  rw [e0] at hM
  simp only [mPts] at hM
  rcases h1 with ⟨rfl, rfl, rfl, h1⟩ | ⟨_, rfl, h1, l1⟩
  · have hn : rdA Z n od = none := by rcases h1 with h | h; cases h; exact h
    left
    rw [hn] at hM
    refine ⟨?_, by simpa using hM⟩
    rcases h2 with ⟨h, _⟩ | ⟨h, _⟩
    · exact h
    · cases h
  · have hd : rdA Z n ob = some (vd, od - ob) := h1
    rw [hd, Option.bind_some] at hM
    simp only at hM
    rw [show ob + (od - ob) = od by omega] at hM
    rcases h2 with ⟨rfl, rfl, rfl, h2⟩ | ⟨_, rfl, h2, l2⟩
    · have hn : rdA Z n oe = none := by rcases h2 with h | h; cases h; exact h
      left
      rw [hn] at hM
      exact ⟨rfl, by simpa using hM⟩
    · have he : rdA Z n od = some (ve, oe - od) := h2
      rw [he, Option.bind_some] at hM
      simp only at hM
      rw [show od + (oe - od) = oe by omega] at hM
      right
      refine ⟨rfl, ?_⟩
      rw [hM]
      cases mPts Z n (C - (k + 1)) oe (x + unfoldI (vd : Int)) (y + unfoldI (ve : Int)) with
      | none => rfl
      | some r => simp
theorem unfold_bd {v : Nat} (h : v ≤ 1099511627776) : -549755813889 ≤ unfoldI (v : Int) ∧ unfoldI (v : Int) ≤ 549755813888 := by
  unfold unfoldI
  split <;> omega
/-- Five numbers and the label's size, one behind the other. -/
theorem ns_sum {Z : Nat → Int} {n o o1 o2 o3 o4 o5 o6 v0 v1 v2 v3 v4 v5 : Nat} {b1 b2 b3 b4 b5 b6 : Bool}
    (h1 : (b1 = true ∧ v0 = 0 ∧ o1 = o ∧ (false = true ∨ rd (fun i => Z (i + o)) (n - o) = none)) ∨ (True ∧ b1 = false ∧ rd (fun i => Z (i + o)) (n - o) = some (v0, o1 - o) ∧ o < o1))
    (h2 : (b2 = true ∧ v1 = 0 ∧ o2 = o1 ∧ (b1 = true ∨ rd (fun i => Z (i + o1)) (n - o1) = none)) ∨ (b1 = false ∧ b2 = false ∧ rd (fun i => Z (i + o1)) (n - o1) = some (v1, o2 - o1) ∧ o1 < o2))
    (h3 : (b3 = true ∧ v2 = 0 ∧ o3 = o2 ∧ (b2 = true ∨ rd (fun i => Z (i + o2)) (n - o2) = none)) ∨ (b2 = false ∧ b3 = false ∧ rd (fun i => Z (i + o2)) (n - o2) = some (v2, o3 - o2) ∧ o2 < o3))
    (h4 : (b4 = true ∧ v3 = 0 ∧ o4 = o3 ∧ (b3 = true ∨ rd (fun i => Z (i + o3)) (n - o3) = none)) ∨ (b3 = false ∧ b4 = false ∧ rd (fun i => Z (i + o3)) (n - o3) = some (v3, o4 - o3) ∧ o3 < o4))
    (h5 : (b5 = true ∧ v4 = 0 ∧ o5 = o4 ∧ (b4 = true ∨ rd (fun i => Z (i + o4)) (n - o4) = none)) ∨ (b4 = false ∧ b5 = false ∧ rd (fun i => Z (i + o4)) (n - o4) = some (v4, o5 - o4) ∧ o4 < o5))
    (h6 : (b6 = true ∧ v5 = 0 ∧ o6 = o5 ∧ (b5 = true ∨ rd (fun i => Z (i + o5)) (n - o5) = none)) ∨ (b5 = false ∧ b6 = false ∧ rd (fun i => Z (i + o5)) (n - o5) = some (v5, o6 - o5) ∧ o5 < o6)) :
    (b6 = true ∧ mFeat Z n o = none) ∨ (b6 = false ∧ rdNs Z 5 n o = some ([v0, v1, v2, v3, v4], o5) ∧ rdA Z n o5 = some (v5, o6 - o5) ∧ o5 < o6) := by
  rcases h1 with ⟨rfl, rfl, rfl, h1⟩ | ⟨_, rfl, h1, l1⟩
  · have hn : rd (fun i => Z (i + o1)) (n - o1) = none := by rcases h1 with h | h; cases h; exact h
    left
    refine ⟨?_, by simp [mFeat, rdNs, hn]⟩
    rcases h2 with ⟨rfl, _⟩ | ⟨h, _⟩
    · rcases h3 with ⟨rfl, _⟩ | ⟨h, _⟩
      · rcases h4 with ⟨rfl, _⟩ | ⟨h, _⟩
        · rcases h5 with ⟨rfl, _⟩ | ⟨h, _⟩
          · rcases h6 with ⟨rfl, _⟩ | ⟨h, _⟩
            · rfl
            · cases h
          · cases h
        · cases h
      · cases h
    · cases h
  have e1 : o + (o1 - o) = o1 := by omega
  rcases h2 with ⟨rfl, rfl, rfl, h2⟩ | ⟨_, rfl, h2, l2⟩
  · have hn : rd (fun i => Z (i + o2)) (n - o2) = none := by rcases h2 with h | h; cases h; exact h
    left
    refine ⟨?_, by simp [mFeat, rdNs, h1, e1, hn]⟩
    rcases h3 with ⟨rfl, _⟩ | ⟨h, _⟩
    · rcases h4 with ⟨rfl, _⟩ | ⟨h, _⟩
      · rcases h5 with ⟨rfl, _⟩ | ⟨h, _⟩
        · rcases h6 with ⟨rfl, _⟩ | ⟨h, _⟩
          · rfl
          · cases h
        · cases h
      · cases h
    · cases h
  have e2 : o1 + (o2 - o1) = o2 := by omega
  rcases h3 with ⟨rfl, rfl, rfl, h3⟩ | ⟨_, rfl, h3, l3⟩
  · have hn : rd (fun i => Z (i + o3)) (n - o3) = none := by rcases h3 with h | h; cases h; exact h
    left
    refine ⟨?_, by simp [mFeat, rdNs, h1, e1, h2, e2, hn]⟩
    rcases h4 with ⟨rfl, _⟩ | ⟨h, _⟩
    · rcases h5 with ⟨rfl, _⟩ | ⟨h, _⟩
      · rcases h6 with ⟨rfl, _⟩ | ⟨h, _⟩
        · rfl
        · cases h
      · cases h
    · cases h
  have e3 : o2 + (o3 - o2) = o3 := by omega
  rcases h4 with ⟨rfl, rfl, rfl, h4⟩ | ⟨_, rfl, h4, l4⟩
  · have hn : rd (fun i => Z (i + o4)) (n - o4) = none := by rcases h4 with h | h; cases h; exact h
    left
    refine ⟨?_, by simp [mFeat, rdNs, h1, e1, h2, e2, h3, e3, hn]⟩
    rcases h5 with ⟨rfl, _⟩ | ⟨h, _⟩
    · rcases h6 with ⟨rfl, _⟩ | ⟨h, _⟩
      · rfl
      · cases h
    · cases h
  have e4 : o3 + (o4 - o3) = o4 := by omega
  rcases h5 with ⟨rfl, rfl, rfl, h5⟩ | ⟨_, rfl, h5, l5⟩
  · have hn : rd (fun i => Z (i + o5)) (n - o5) = none := by rcases h5 with h | h; cases h; exact h
    left
    refine ⟨?_, by simp [mFeat, rdNs, h1, e1, h2, e2, h3, e3, h4, e4, hn]⟩
    rcases h6 with ⟨rfl, _⟩ | ⟨h, _⟩
    · rfl
    · cases h
  have e5 : o4 + (o5 - o4) = o5 := by omega
  have hns : rdNs Z 5 n o = some ([v0, v1, v2, v3, v4], o5) := by simp [rdNs, h1, e1, h2, e2, h3, e3, h4, e4, h5, e5]
  rcases h6 with ⟨rfl, rfl, rfl, h6⟩ | ⟨_, rfl, h6, l6⟩
  · have hn : rd (fun i => Z (i + o6)) (n - o6) = none := by rcases h6 with h | h; cases h; exact h
    left
    refine ⟨rfl, ?_⟩
    unfold mFeat rdA
    rw [hns, Option.bind_some]
    simp [hn]
  · right
    exact ⟨rfl, hns, h6, l6⟩
/-- What is told of a feature. -/
def OneP (p b off n cap : Nat) (Z : Nat → Int) (o : Nat) (w : World) (e : Ending) (w' : World) : Prop :=
  ∃ (f : Fx) (v : Value) (o' : Nat) (bad : Bool), e = .returned (FeatV f v) ∧ Row w.heap.size w' v f.pts ∧ RdAt w' p b off n cap Z o' bad ∧ Keeps p w w' ∧ ((bad = true ∧ mFeat Z n o = none) ∨ (bad = false ∧ mFeat Z n o = some (f, o')))
set_option maxHeartbeats 40000000 in
theorem l6One_any (p b off n cap : Nat) (Z : Nat → Int) (o : Nat) (w : World) (h : RdAt w p b off n cap Z o false) (hz : ∀ i, 0 ≤ Z i ∧ Z i ≤ 255) (hn : n ≤ 1048576) :
    Calls Try.prog 68 #[.pointer (some ⟨p, 0, none⟩)] w (OneP p b off n cap Z o w) := by
  obtain ⟨i0, hi, hz0, hz1, hz2⟩ := info_parts info_pt
  have hp : p < w.heap.size := lt_of_heap h.1
  have hbl : b < w.heap.size := h.2.2.1
  have HZ : Hid (∀ i, 0 ≤ Z i ∧ Z i ≤ 255) := hz
  have HN : Hid (∀ o bad W, RdAt W p b off n cap Z o bad → Calls Try.prog 67 #[.pointer (some ⟨p, 0, none⟩)] W fun e w' => ∃ (v o' : Nat) (bad' : Bool), e = .returned (.int .i64 (v : Int)) ∧ RdAt w' p b off n cap Z o' bad' ∧ Keeps p W w' ∧ v ≤ 1099511627776 ∧
      ((bad' = true ∧ v = 0 ∧ o' = o ∧ (bad = true ∨ rd (fun i => Z (i + o)) (n - o) = none)) ∨ (bad = false ∧ bad' = false ∧ rd (fun i => Z (i + o)) (n - o) = some (v, o' - o) ∧ o < o'))) := fun o bad W h => l6Next_any p b off n cap Z o bad W h hz hn
  have HD : Hid (RdAt w p b off n cap Z o false) := h
  clear h hz
  go_enter Try.func68, Try.ntmps68
  go_wp2_with fail
  generalize hW : (w.alloc _ : World) = W
  have hB0 : Below w.heap.size w W := by subst hW; (repeat (first | exact Below.refl _ _ | assumption | refine Below.drew ?_ | refine bl_alloc ?_ _ | refine bl_then ?_ (by assumption) | refine Below.setCell ?_ (by first | omega | (simp; done) | (simp; omega)) _ | refine bl_store ?_ ?_ _ _))
  have hT0 : There W w.heap.size 7 := by subst hW; exact there7 w _ _ _ _ _ _ _ _
  have hsz : w.heap.size < W.heap.size := by subst hW; simp
  clear hW
  have HT0 : Hid (There W w.heap.size 7) := hT0
  have HD0 : Hid (RdAt W p b off n cap Z o false) := HD.out.below hB0
  have HK0 : Hid (Keeps p w W) := Keeps.of_below hB0
  clear hB0 hT0 HD
  refine (HN.out _ _ _ HD0.out).mono ?_
  rintro e w1 ⟨v0, o1, b1, rfl, hD1, hK1, hv0, hO1⟩
  have HD1 : Hid (RdAt w1 p b off n cap Z o1 b1) := hD1
  have HO1 := (show Hid _ from hO1)
  clear hD1 hO1
  go_wp2_with fail
  refine (HN.out _ _ _ HD1.out).mono ?_
  rintro e w2 ⟨v1, o2, b2, rfl, hD2, hK2, hv1, hO2⟩
  have HD2 : Hid (RdAt w2 p b off n cap Z o2 b2) := hD2
  have HO2 := (show Hid _ from hO2)
  clear hD2 hO2
  go_wp2_with fail
  refine (HN.out _ _ _ HD2.out).mono ?_
  rintro e w3 ⟨v2, o3, b3, rfl, hD3, hK3, hv2, hO3⟩
  have HD3 : Hid (RdAt w3 p b off n cap Z o3 b3) := hD3
  have HO3 := (show Hid _ from hO3)
  clear hD3 hO3
  go_wp2_with fail
  refine (HN.out _ _ _ HD3.out).mono ?_
  rintro e w4 ⟨v3, o4, b4, rfl, hD4, hK4, hv3, hO4⟩
  have HD4 : Hid (RdAt w4 p b off n cap Z o4 b4) := hD4
  have HO4 := (show Hid _ from hO4)
  clear hD4 hO4
  go_wp2_with fail
  refine (HN.out _ _ _ HD4.out).mono ?_
  rintro e w5 ⟨v4, o5, b5, rfl, hD5, hK5, hv4, hO5⟩
  have HO5 := (show Hid _ from hO5)
  have HD5 : Hid (RdAt w5 p b off n cap Z o5 b5) := hD5
  have hK5' := HK0.out.trans (hK1.trans (hK2.trans (hK3.trans (hK4.trans hK5))))
  have hKW := hK1.trans (hK2.trans (hK3.trans (hK4.trans hK5)))
  have HT5 : Hid (There w5 w.heap.size 7) := HT0.out.keepsU hKW (by omega) hsz
  have HK5 : Hid (Keeps p w w5) := hK5'
  have hs5 : W.heap.size ≤ w5.heap.size := hKW.size
  clear hO5 hD5 hK5' hKW hK1 hK2 hK3 hK4 hK5 HD0 HD1 HD2 HD3 HD4 HT0 HK0
  go_wp2_with fail
  generalize hV : (w5.alloc _ : World) = w6
  have hb6 : Below w5.heap.size w5 w6 := by subst hV; (repeat (first | exact Below.refl _ _ | assumption | refine Below.drew ?_ | refine bl_alloc ?_ _ | refine bl_then ?_ (by assumption) | refine Below.setCell ?_ (by first | omega | (simp; done) | (simp; omega)) _ | refine bl_store ?_ ?_ _ _))
  have hF6 : OutAt w6 w5.heap.size (v0 : Int) (v1 : Int) (v2 : Int) (v3 : Int) (.slice none 0 0) ByteArray.empty (v4 : Int) := by subst hV; exact OutAt.fresh w5 _ _ _ _ _ _ _
  clear hV
  have HA6 : Hid (ASt w p b off n cap Z w.heap.size w5.heap.size o5 b5 (v0 : Int) (v1 : Int) (v2 : Int) (v3 : Int) (.slice none 0 0) ByteArray.empty (v4 : Int) w6) := ⟨HT5.out.below hb6, hF6, HD5.out.below hb6, HK5.out.trans (Keeps.of_below hb6), Nat.le_refl _, by omega, hbl, hp⟩
  clear hb6 hF6 HT5 HK5 HD5
  refine (HN.out _ _ _ HA6.out.D).mono ?_
  rintro e w7 ⟨v5, o6, b6, rfl, hD7, hK7, hv5, hO6⟩
  have HO6 := (show Hid _ from hO6)
  have HA7 : Hid (ASt w p b off n cap Z w.heap.size w5.heap.size o6 b6 (v0 : Int) (v1 : Int) (v2 : Int) (v3 : Int) (.slice none 0 0) ByteArray.empty (v4 : Int) w7) := HA6.out.read hK7 hD7
  clear hO6 hD7 hK7 HA6
  have HNS : Hid ((b6 = true ∧ mFeat Z n o = none) ∨ (b6 = false ∧ rdNs Z 5 n o = some ([v0, v1, v2, v3, v4], o5) ∧ rdA Z n o5 = some (v5, o6 - o5) ∧ o5 < o6)) := ns_sum HO1.out HO2.out HO3.out HO4.out HO5.out HO6.out
  clear HO1 HO2 HO3 HO4 HO5 HO6
  obtain ⟨c0, c1, c2, cf⟩ := HA7.out.D.cells
  have hon := HA7.out.D.2.2.2.2.2
  have hcn := HA7.out.D.2.2.2.2.1
  clear cf
  cases b6
  · have hns : rdNs Z 5 n o = some ([v0, v1, v2, v3, v4], o5) ∧ rdA Z n o5 = some (v5, o6 - o5) ∧ o5 < o6 := by
      rcases HNS.out with ⟨h, _⟩ | ⟨_, h⟩
      · cases h
      · exact h
    have HMF : Hid (mFeat Z n o = if 6 < v5 ∨ n < o6 + v5 then none else (rdA Z n (o6 + v5)).bind fun k => (mPts Z n (min k.1 13) (o6 + v5 + k.2) 0 0).bind fun r =>
        if fx1 ⟨[v0, v1, v2, v3, v4], labA Z o6 v5, r.1⟩ = 0 then some (⟨[v0, v1, v2, v3, v4], labA Z o6 v5, r.1⟩, r.2) else none) := by
      show _ = _
      unfold mFeat
      rw [hns.1, Option.bind_some]
      simp only
      rw [hns.2.1, Option.bind_some]
      simp only
      rw [show o5 + (o6 - o5) = o6 by omega]
    clear hns HNS
    by_cases h6 : 6 < v5
    · have HMN : Hid (mFeat Z n o = none) := by show _ = _; rw [HMF.out, if_pos (.inl h6)]
      have g6 : decide ((6 : Int) < (v5 : Int)) = true := by simp; omega
      have g6' : (6 : Int) < (v5 : Int) := by omega
      go_wp2_with fail
      go_quiet (fail)
      have hd8 : Below w7.heap.size w7 (w7.drewN nq) := ⟨rfl, rfl, rfl, Nat.le_refl _, fun _ _ => rfl⟩
      have HA8 : Hid (ASt w p b off n cap Z w.heap.size w5.heap.size o6 false (v0 : Int) (v1 : Int) (v2 : Int) (v3 : Int) (.slice none 0 0) ByteArray.empty (v4 : Int) (w7.drewN nq)) := HA7.out.below hd8
      generalize hw8 : w7.drewN nq = w8 at *
      clear hw8 hd8 c0 c1 c2 HA7
      obtain ⟨k0, k1, k2, kf⟩ := HA8.out.D.cells
      have kf2 := kf 2
      clear kf
      have HA9 : Hid (ASt w p b off n cap Z w.heap.size w5.heap.size o6 true (v0 : Int) (v1 : Int) (v2 : Int) (v3 : Int) (.slice none 0 0) ByteArray.empty (v4 : Int) (w8.setCell ⟨p, 2, none⟩ (.bool true))) := HA8.out.wrong
      have hT9 := HA9.out.T
      have t0 := hT9.cell 0 (by omega)
      have t1 := hT9.cell 1 (by omega)
      have t2 := hT9.cell 2 (by omega)
      have t3 := hT9.cell 3 (by omega)
      have t4 := hT9.cell 4 (by omega)
      have t5 := hT9.cell 5 (by omega)
      have t6 := hT9.cell 6 (by omega)
      have f0 := (hT9 0 (by omega)).2
      have f1 := (hT9 1 (by omega)).2
      have f2 := (hT9 2 (by omega)).2
      have f3 := (hT9 3 (by omega)).2
      have f4 := (hT9 4 (by omega)).2
      have f5 := (hT9 5 (by omega)).2
      have f6 := (hT9 6 (by omega)).2
      obtain ⟨⟨e0, e1, e2, e3, e4, e5, e6⟩, _⟩ := HA9.out.O.cells
      clear hT9 k0 k1
      go_wp2_with fail
      obtain ⟨q0, q1, q2, q3, q4, q5, q6⟩ := set7_at (v0 := .int .i64 (v0 : Int)) (v1 := .int .i64 (v1 : Int)) (v2 := .int .i64 (v2 : Int)) (v3 := .int .i64 (v3 : Int)) (v4 := .slice none 0 0) (v5 := .string ByteArray.empty) (v6 := .int .i64 (v4 : Int)) HA9.out.T
      have HAf := ((((((HA9.out.put 0 (.int .i64 (v0 : Int))).put 1 (.int .i64 (v1 : Int))).put 2 (.int .i64 (v2 : Int))).put 3 (.int .i64 (v3 : Int))).put 4 (.slice none 0 0)).put 5 (.string ByteArray.empty)).put 6 (.int .i64 (v4 : Int))
      generalize (((((((w8.setCell ⟨p, 2, none⟩ (.bool true)).setCell ⟨w.heap.size, 0, none⟩ (.int .i64 (v0 : Int))).setCell ⟨w.heap.size, 1, none⟩ (.int .i64 (v1 : Int))).setCell ⟨w.heap.size, 2, none⟩ (.int .i64 (v2 : Int))).setCell ⟨w.heap.size, 3, none⟩ (.int .i64 (v3 : Int))).setCell ⟨w.heap.size, 4, none⟩ (.slice none 0 0)).setCell ⟨w.heap.size, 5, none⟩ (.string ByteArray.empty)).setCell ⟨w.heap.size, 6, none⟩ (.int .i64 (v4 : Int)) = Wf at *
      refine bodyPost_ret (v := FeatV ⟨[v0, v1, v2, v3, v4], ByteArray.empty, []⟩ (.slice none 0 0)) (by simp [results, Try.results68, go_sem, q0, q1, q2, q3, q4, q5, q6, FeatV]) rfl ⟨_, _, o6, true, rfl, Row.no _ _, HAf.D, HAf.K, .inl ⟨rfl, HMN.out⟩⟩
    by_cases hl : n < o6 + v5
    · have HMN : Hid (mFeat Z n o = none) := by show _ = _; rw [HMF.out, if_pos (.inr hl)]
      have g6 : decide ((6 : Int) < (v5 : Int)) = false := by simp; omega
      have gl : decide ((n : Int) < (o6 : Int) + (v5 : Int)) = true := by simp; omega
      have g6' : ¬ (6 : Int) < (v5 : Int) := by omega
      have gl' : (n : Int) < (o6 : Int) + (v5 : Int) := by omega
      go_wp2_with fail
      go_quiet (fail)
      have hd8 : Below w7.heap.size w7 (w7.drewN nq) := ⟨rfl, rfl, rfl, Nat.le_refl _, fun _ _ => rfl⟩
      have HA8 : Hid (ASt w p b off n cap Z w.heap.size w5.heap.size o6 false (v0 : Int) (v1 : Int) (v2 : Int) (v3 : Int) (.slice none 0 0) ByteArray.empty (v4 : Int) (w7.drewN nq)) := HA7.out.below hd8
      generalize hw8 : w7.drewN nq = w8 at *
      clear hw8 hd8 c0 c1 c2 HA7
      obtain ⟨k0, k1, k2, kf⟩ := HA8.out.D.cells
      have kf2 := kf 2
      clear kf
      have HA9 : Hid (ASt w p b off n cap Z w.heap.size w5.heap.size o6 true (v0 : Int) (v1 : Int) (v2 : Int) (v3 : Int) (.slice none 0 0) ByteArray.empty (v4 : Int) (w8.setCell ⟨p, 2, none⟩ (.bool true))) := HA8.out.wrong
      have hT9 := HA9.out.T
      have t0 := hT9.cell 0 (by omega)
      have t1 := hT9.cell 1 (by omega)
      have t2 := hT9.cell 2 (by omega)
      have t3 := hT9.cell 3 (by omega)
      have t4 := hT9.cell 4 (by omega)
      have t5 := hT9.cell 5 (by omega)
      have t6 := hT9.cell 6 (by omega)
      have f0 := (hT9 0 (by omega)).2
      have f1 := (hT9 1 (by omega)).2
      have f2 := (hT9 2 (by omega)).2
      have f3 := (hT9 3 (by omega)).2
      have f4 := (hT9 4 (by omega)).2
      have f5 := (hT9 5 (by omega)).2
      have f6 := (hT9 6 (by omega)).2
      obtain ⟨⟨e0, e1, e2, e3, e4, e5, e6⟩, _⟩ := HA9.out.O.cells
      clear hT9 k0 k1
      go_wp2_with fail
      obtain ⟨q0, q1, q2, q3, q4, q5, q6⟩ := set7_at (v0 := .int .i64 (v0 : Int)) (v1 := .int .i64 (v1 : Int)) (v2 := .int .i64 (v2 : Int)) (v3 := .int .i64 (v3 : Int)) (v4 := .slice none 0 0) (v5 := .string ByteArray.empty) (v6 := .int .i64 (v4 : Int)) HA9.out.T
      have HAf := ((((((HA9.out.put 0 (.int .i64 (v0 : Int))).put 1 (.int .i64 (v1 : Int))).put 2 (.int .i64 (v2 : Int))).put 3 (.int .i64 (v3 : Int))).put 4 (.slice none 0 0)).put 5 (.string ByteArray.empty)).put 6 (.int .i64 (v4 : Int))
      generalize (((((((w8.setCell ⟨p, 2, none⟩ (.bool true)).setCell ⟨w.heap.size, 0, none⟩ (.int .i64 (v0 : Int))).setCell ⟨w.heap.size, 1, none⟩ (.int .i64 (v1 : Int))).setCell ⟨w.heap.size, 2, none⟩ (.int .i64 (v2 : Int))).setCell ⟨w.heap.size, 3, none⟩ (.int .i64 (v3 : Int))).setCell ⟨w.heap.size, 4, none⟩ (.slice none 0 0)).setCell ⟨w.heap.size, 5, none⟩ (.string ByteArray.empty)).setCell ⟨w.heap.size, 6, none⟩ (.int .i64 (v4 : Int)) = Wf at *
      refine bodyPost_ret (v := FeatV ⟨[v0, v1, v2, v3, v4], ByteArray.empty, []⟩ (.slice none 0 0)) (by simp [results, Try.results68, go_sem, q0, q1, q2, q3, q4, q5, q6, FeatV]) rfl ⟨_, _, o6, true, rfl, Row.no _ _, HAf.D, HAf.K, .inl ⟨rfl, HMN.out⟩⟩
    have HMG : Hid (mFeat Z n o = (rdA Z n (o6 + v5)).bind fun k => (mPts Z n (min k.1 13) (o6 + v5 + k.2) 0 0).bind fun r =>
        if fx1 ⟨[v0, v1, v2, v3, v4], labA Z o6 v5, r.1⟩ = 0 then some (⟨[v0, v1, v2, v3, v4], labA Z o6 v5, r.1⟩, r.2) else none) := by
      show _ = _
      rw [HMF.out, if_neg (by omega)]
    clear HMF
    have g6 : decide ((6 : Int) < (v5 : Int)) = false := by simp; omega
    have gl : decide ((n : Int) < (o6 : Int) + (v5 : Int)) = false := by simp; omega
    have g6' : ¬ (6 : Int) < (v5 : Int) := by omega
    have gl' : ¬ (n : Int) < (o6 : Int) + (v5 : Int) := by omega
    go_wp2_with fail
    go_quiet (fail)
    have hd8 : Below w7.heap.size w7 (w7.drewN nq) := ⟨rfl, rfl, rfl, Nat.le_refl _, fun _ _ => rfl⟩
    have HA8 : Hid (ASt w p b off n cap Z w.heap.size w5.heap.size o6 false (v0 : Int) (v1 : Int) (v2 : Int) (v3 : Int) (.slice none 0 0) ByteArray.empty (v4 : Int) (w7.drewN nq)) := HA7.out.below hd8
    generalize hw8 : w7.drewN nq = w8 at *
    clear hw8 hd8 c0 c1 c2 HA7
    obtain ⟨k0, k1, k2, kf⟩ := HA8.out.D.cells
    have e5 := HA8.out.O.cells.1.2.2.2.2.2.1
    have fz5 : w8.frozen? ⟨w5.heap.size, 5, none⟩ = false := HA8.out.O.fz 5
    have e5' : w8.drew.cell? ⟨w5.heap.size, 5, none⟩ = some (.string ByteArray.empty) := e5
    have fz5' : w8.drew.frozen? ⟨w5.heap.size, 5, none⟩ = false := fz5
    have HAL : Hid (ASt w p b off n cap Z w.heap.size w5.heap.size o6 false (v0 : Int) (v1 : Int) (v2 : Int) (v3 : Int) (.slice none 0 0) (labA Z o6 v5) (v4 : Int) ((w8.setCell ⟨w5.heap.size, 5, none⟩ (.string (labA Z o6 v5))).drew)) := by
      have h1 := HA8.out.le
      have h2 := HA8.out.lt
      have hb : Below w.heap.size w8 (w8.setCell ⟨w5.heap.size, 5, none⟩ (.string (labA Z o6 v5))) := (Below.refl w.heap.size w8).setCell (p := ⟨w5.heap.size, 5, none⟩) (show w.heap.size ≤ w5.heap.size by omega) _
      exact ⟨HA8.out.T.offU (by omega), HA8.out.O.lab _, (HA8.out.D.oth (by omega) (by omega) 5 _).drew, (keepsNew HA8.out.K hb (Nat.le_refl _)).drew, h1, h2, hbl, hp⟩
    generalize hlab : labA Z o6 v5 = LB at *
    have HLB : Hid (labA Z o6 v5 = LB) := hlab
    clear hlab kf e5 fz5
    have ho0 : (0 : Int) ≤ (o6 : Int) := by omega
    have hv0' : (0 : Int) ≤ (v5 : Int) := by omega
    have hsum : (o6 : Int) + (v5 : Int) ≤ (n : Int) := by omega
    have hsum2 : (o6 : Int) + (v5 : Int) ≤ (cap : Int) := by omega
    have hoc : (o6 : Int) ≤ (cap : Int) := by omega
    have hle1 : (o6 : Int) ≤ (o6 : Int) + (v5 : Int) := by omega
    have hbig : (o6 : Int) + (v5 : Int) ≤ 4503599627370496 := by omega
    have HWR : Hid (IntKind.i64.wrap ((o6 : Int) + (v5 : Int)) = (o6 : Int) + (v5 : Int)) := IntWalk.i64_in _ (by omega)
    have HTN : Hid (((o6 : Int) + (v5 : Int)).toNat = o6 + v5) := by show _ = _; omega
    have HLE : Hid (0 ≤ (o6 : Int) + (v5 : Int)) := by show _ ≤ _; omega
    clear g6 gl g6' gl'
    go_wp2_with fail
    go_cut [] (fun wc => ASt w p b off n cap Z w.heap.size w5.heap.size o6 false (v0 : Int) (v1 : Int) (v2 : Int) (v3 : Int) (.slice none 0 0) LB (v4 : Int) wc)
    case first =>
      have hcut3 : cap ≠ o6 ∨ (v5 = 0 ∧ cap = o6) := by omega
      rcases hcut3 with hco | ⟨hv5z, hco⟩
      · have hco' : cap ≠ o6 := hco
        have HCV : Hid (∀ W', BsAt W' b off n Z → (convert 22 9 (.slice (some ⟨b, off + o6, none⟩) v5 (cap - o6))).run Try.prog W' = .ok (.string LB) W') := fun W' hB => by
          rw [← HLB.out]
          exact run_convert_bytes_arg W' 22 5 Try.underlying22 Try.underlying5 b (off + o6) v5 (cap - o6) _ (by simp) (fun i hi => by
            have hi' : i < v5 := by simpa using hi
            have := hB (i + o6) (by omega)
            rw [show off + o6 + i = off + (i + o6) by omega, this]
            simp [List.getD, hi']) 9 Try.underlying9
        refine wp_region_noPanic ?_
        refine wp_region_held_drew (S := fun W' => W'.cell? ⟨p, 0, none⟩ = some (.slice (some ⟨b, off, none⟩) n cap) ∧ W'.cell? ⟨p, 1, none⟩ = some (.int .i64 (o6 : Int)) ∧ BsAt W' b off n Z) (by kernel_rfl) ⟨k0, k1, HA8.out.D.2.2.2.1⟩ (fun hHeld => ?_)
        have hS0 : (fun W' : World => W'.cell? ⟨p, 0, none⟩ = some (.slice (some ⟨b, off, none⟩) n cap) ∧ W'.cell? ⟨p, 1, none⟩ = some (.int .i64 (o6 : Int)) ∧ BsAt W' b off n Z) w8.drew := hHeld
        refine takeD (i := 0) (d := some 49) (v := ?vla0) rfl rfl (by kernel_rfl) (by kernel_rfl) (by kernel_rfl) (fun _ _ _ h => h) (Or.inl ⟨by rfl, ?hyla0⟩) hS0 ?_
        case hyla0 => (intro w hSw; obtain ⟨s0, s1, s2⟩ := hSw; have hcv := HCV.out w s2; have hwr := HWR.out; have htn := HTN.out; have hle0 := HLE.out; have hsub : o6 + v5 - o6 = v5 := (by omega); have hole : o6 ≤ o6 + v5 := (by omega); go_simp <;> with_reducible rfl)
        try simp only [Act.put, List.setIfInBounds_toArray, List.set_cons_zero, List.set_cons_succ]
        refine takeD (i := 1) (d := some 50) (v := ?vla1) rfl rfl (by kernel_rfl) (by kernel_rfl) (by kernel_rfl) (fun _ _ _ h => h) (Or.inl ⟨by rfl, ?hyla1⟩) hS0 ?_
        case hyla1 => (intro w hSw; obtain ⟨s0, s1, s2⟩ := hSw; have hcv := HCV.out w s2; have hwr := HWR.out; have htn := HTN.out; have hle0 := HLE.out; have hsub : o6 + v5 - o6 = v5 := (by omega); have hole : o6 ≤ o6 + v5 := (by omega); go_simp <;> with_reducible rfl)
        try simp only [Act.put, List.setIfInBounds_toArray, List.set_cons_zero, List.set_cons_succ]
        refine takeD (i := 2) (d := some 51) (v := ?vla2) rfl rfl (by kernel_rfl) (by kernel_rfl) (by kernel_rfl) (fun _ _ _ h => h) (Or.inl ⟨by rfl, ?hyla2⟩) hS0 ?_
        case hyla2 => (intro w hSw; obtain ⟨s0, s1, s2⟩ := hSw; have hcv := HCV.out w s2; have hwr := HWR.out; have htn := HTN.out; have hle0 := HLE.out; have hsub : o6 + v5 - o6 = v5 := (by omega); have hole : o6 ≤ o6 + v5 := (by omega); go_simp <;> with_reducible rfl)
        try simp only [Act.put, List.setIfInBounds_toArray, List.set_cons_zero, List.set_cons_succ]
        refine takeD (i := 3) (d := some 52) (v := ?vla3) rfl rfl (by kernel_rfl) (by kernel_rfl) (by kernel_rfl) (fun _ _ _ h => h) (Or.inl ⟨by rfl, ?hyla3⟩) hS0 ?_
        case hyla3 => (intro w hSw; obtain ⟨s0, s1, s2⟩ := hSw; have hcv := HCV.out w s2; have hwr := HWR.out; have htn := HTN.out; have hle0 := HLE.out; have hsub : o6 + v5 - o6 = v5 := (by omega); have hole : o6 ≤ o6 + v5 := (by omega); go_simp <;> with_reducible rfl)
        try simp only [Act.put, List.setIfInBounds_toArray, List.set_cons_zero, List.set_cons_succ]
        refine takeD (i := 4) (d := some 53) (v := ?vla4) rfl rfl (by kernel_rfl) (by kernel_rfl) (by kernel_rfl) (fun _ _ _ h => h) (Or.inl ⟨by rfl, ?hyla4⟩) hS0 ?_
        case hyla4 => (intro w hSw; obtain ⟨s0, s1, s2⟩ := hSw; have hcv := HCV.out w s2; have hwr := HWR.out; have htn := HTN.out; have hle0 := HLE.out; have hsub : o6 + v5 - o6 = v5 := (by omega); have hole : o6 ≤ o6 + v5 := (by omega); go_simp <;> with_reducible rfl)
        try simp only [Act.put, List.setIfInBounds_toArray, List.set_cons_zero, List.set_cons_succ]
        refine takeD (i := 5) (d := some 54) (v := ?vla5) rfl rfl (by kernel_rfl) (by kernel_rfl) (by kernel_rfl) (fun _ _ _ h => h) (Or.inl ⟨by rfl, ?hyla5⟩) hS0 ?_
        case hyla5 => (intro w hSw; obtain ⟨s0, s1, s2⟩ := hSw; have hcv := HCV.out w s2; have hwr := HWR.out; have htn := HTN.out; have hle0 := HLE.out; have hsub : o6 + v5 - o6 = v5 := (by omega); have hole : o6 ≤ o6 + v5 := (by omega); go_simp <;> with_reducible rfl)
        try simp only [Act.put, List.setIfInBounds_toArray, List.set_cons_zero, List.set_cons_succ]
        refine takeD (i := 6) (d := some 55) (v := ?vla6) rfl rfl (by kernel_rfl) (by kernel_rfl) (by kernel_rfl) (fun _ _ _ h => h) (Or.inl ⟨by rfl, ?hyla6⟩) hS0 ?_
        case hyla6 => (intro w hSw; obtain ⟨s0, s1, s2⟩ := hSw; have hcv := HCV.out w s2; have hwr := HWR.out; have htn := HTN.out; have hle0 := HLE.out; have hsub : o6 + v5 - o6 = v5 := (by omega); have hole : o6 ≤ o6 + v5 := (by omega); go_simp <;> with_reducible rfl)
        try simp only [Act.put, List.setIfInBounds_toArray, List.set_cons_zero, List.set_cons_succ]
        refine takeD (i := 7) (d := some 56) (v := ?vla7) rfl rfl (by kernel_rfl) (by kernel_rfl) (by kernel_rfl) (fun _ _ _ h => h) (Or.inl ⟨by rfl, ?hyla7⟩) hS0 ?_
        case hyla7 => (intro w hSw; obtain ⟨s0, s1, s2⟩ := hSw; have hcv := HCV.out w s2; have hwr := HWR.out; have htn := HTN.out; have hle0 := HLE.out; have hsub : o6 + v5 - o6 = v5 := (by omega); have hole : o6 ≤ o6 + v5 := (by omega); go_simp <;> with_reducible rfl)
        try simp only [Act.put, List.setIfInBounds_toArray, List.set_cons_zero, List.set_cons_succ]
        refine takeD (i := 8) (d := some 57) (v := ?vla8) rfl rfl (by kernel_rfl) (by kernel_rfl) (by kernel_rfl) (fun _ _ _ h => h) (Or.inl ⟨by rfl, ?hyla8⟩) hS0 ?_
        case hyla8 => (intro w hSw; obtain ⟨s0, s1, s2⟩ := hSw; have hcv := HCV.out w s2; have hwr := HWR.out; have htn := HTN.out; have hle0 := HLE.out; have hsub : o6 + v5 - o6 = v5 := (by omega); have hole : o6 ≤ o6 + v5 := (by omega); go_simp <;> with_reducible rfl)
        try simp only [Act.put, List.setIfInBounds_toArray, List.set_cons_zero, List.set_cons_succ]
        refine takeD (i := 9) (d := some 58) (v := ?vla9) rfl rfl (by kernel_rfl) (by kernel_rfl) (by kernel_rfl) (fun _ _ _ h => h) (Or.inl ⟨by rfl, ?hyla9⟩) hS0 ?_
        case hyla9 => (intro w hSw; obtain ⟨s0, s1, s2⟩ := hSw; have hcv := HCV.out w s2; have hwr := HWR.out; have htn := HTN.out; have hle0 := HLE.out; have hsub : o6 + v5 - o6 = v5 := (by omega); have hole : o6 ≤ o6 + v5 := (by omega); go_simp <;> with_reducible rfl)
        try simp only [Act.put, List.setIfInBounds_toArray, List.set_cons_zero, List.set_cons_succ]
        refine takeD (i := 10) (d := some 59) (v := ?vla10) rfl rfl (by kernel_rfl) (by kernel_rfl) (by kernel_rfl) (fun _ _ _ h => h) (Or.inl ⟨by rfl, ?hyla10⟩) hS0 ?_
        case hyla10 => (intro w hSw; obtain ⟨s0, s1, s2⟩ := hSw; have hcv := HCV.out w s2; have hwr := HWR.out; have htn := HTN.out; have hle0 := HLE.out; have hsub : o6 + v5 - o6 = v5 := (by omega); have hole : o6 ≤ o6 + v5 := (by omega); go_simp <;> with_reducible rfl)
        try simp only [Act.put, List.setIfInBounds_toArray, List.set_cons_zero, List.set_cons_succ]
        refine takeD (i := 11) (d := some 60) (v := ?vla11) rfl rfl (by kernel_rfl) (by kernel_rfl) (by kernel_rfl) (fun _ _ _ h => h) (Or.inl ⟨by rfl, ?hyla11⟩) hS0 ?_
        case hyla11 => (intro w hSw; obtain ⟨s0, s1, s2⟩ := hSw; have hcv := HCV.out w s2; have hwr := HWR.out; have htn := HTN.out; have hle0 := HLE.out; have hsub : o6 + v5 - o6 = v5 := (by omega); have hole : o6 ≤ o6 + v5 := (by omega); go_simp <;> with_reducible rfl)
        try simp only [Act.put, List.setIfInBounds_toArray, List.set_cons_zero, List.set_cons_succ]
        refine takeD (i := 12) (d := some 61) (v := ?vla12) rfl rfl (by kernel_rfl) (by kernel_rfl) (by kernel_rfl) (fun _ _ _ h => h) (Or.inl ⟨by rfl, ?hyla12⟩) hS0 ?_
        case hyla12 => (intro w hSw; obtain ⟨s0, s1, s2⟩ := hSw; have hcv := HCV.out w s2; have hwr := HWR.out; have htn := HTN.out; have hle0 := HLE.out; have hsub : o6 + v5 - o6 = v5 := (by omega); have hole : o6 ≤ o6 + v5 := (by omega); go_simp <;> with_reducible rfl)
        try simp only [Act.put, List.setIfInBounds_toArray, List.set_cons_zero, List.set_cons_succ]
        refine takeD (i := 13) (d := some 62) (v := ?vla13) rfl rfl (by kernel_rfl) (by kernel_rfl) (by kernel_rfl) (fun _ _ _ h => h) (Or.inl ⟨by rfl, ?hyla13⟩) hS0 ?_
        case hyla13 => (intro w hSw; obtain ⟨s0, s1, s2⟩ := hSw; have hcv := HCV.out w s2; have hwr := HWR.out; have htn := HTN.out; have hle0 := HLE.out; have hsub : o6 + v5 - o6 = v5 := (by omega); have hole : o6 ≤ o6 + v5 := (by omega); go_simp <;> with_reducible rfl)
        try simp only [Act.put, List.setIfInBounds_toArray, List.set_cons_zero, List.set_cons_succ]
        refine takeD (i := 14) (d := some 63) (v := ?vla14) rfl rfl (by kernel_rfl) (by kernel_rfl) (by kernel_rfl) (fun _ _ _ h => h) (Or.inl ⟨by rfl, ?hyla14⟩) hS0 ?_
        case hyla14 => (intro w hSw; obtain ⟨s0, s1, s2⟩ := hSw; have hcv := HCV.out w s2; have hwr := HWR.out; have htn := HTN.out; have hle0 := HLE.out; have hsub : o6 + v5 - o6 = v5 := (by omega); have hole : o6 ≤ o6 + v5 := (by omega); go_simp <;> with_reducible rfl)
        try simp only [Act.put, List.setIfInBounds_toArray, List.set_cons_zero, List.set_cons_succ]
        refine takeD (i := 15) (d := some 64) (v := ?vla15) rfl rfl (by kernel_rfl) (by kernel_rfl) (by kernel_rfl) (fun _ _ _ h => h) (Or.inl ⟨by rfl, ?hyla15⟩) hS0 ?_
        case hyla15 => (intro w hSw; obtain ⟨s0, s1, s2⟩ := hSw; have hcv := HCV.out w s2; have hwr := HWR.out; have htn := HTN.out; have hle0 := HLE.out; have hsub : o6 + v5 - o6 = v5 := (by omega); have hole : o6 ≤ o6 + v5 := (by omega); go_simp <;> with_reducible rfl)
        try simp only [Act.put, List.setIfInBounds_toArray, List.set_cons_zero, List.set_cons_succ]
        refine takeD (i := 16) (d := some 65) (v := ?vla16) rfl rfl (by kernel_rfl) (by kernel_rfl) (by kernel_rfl) (fun _ _ _ h => h) (Or.inl ⟨by rfl, ?hyla16⟩) hS0 ?_
        case hyla16 => (intro w hSw; obtain ⟨s0, s1, s2⟩ := hSw; have hcv := HCV.out w s2; have hwr := HWR.out; have htn := HTN.out; have hle0 := HLE.out; have hsub : o6 + v5 - o6 = v5 := (by omega); have hole : o6 ≤ o6 + v5 := (by omega); go_simp <;> with_reducible rfl)
        try simp only [Act.put, List.setIfInBounds_toArray, List.set_cons_zero, List.set_cons_succ]
        refine wpAnyH_ready (rs := [17]) (by kernel_rfl) (by simp) ?_
        refine (AllReadyH.cons rfl (fun K hK => ?_) AllReadyH.nil)
        go_simp
        refine hK.out _ _ ⟨HAL.out.D.cells.1, HAL.out.D.cells.2.1, HAL.out.D.2.2.2.1⟩ (fun hHeld => ?_)
        clear hK K
        try simp only [Act.put, List.setIfInBounds_toArray, List.set_cons_zero, List.set_cons_succ]
        refine wpAnyH_done (by kernel_rfl) ?_ _
        refine NoPanic.normal ?_
        go_wp2_with fail
        go_meet
        case rel => exact HAL.out
      · have HCO : Hid (cap = o6) := hco
        have HCV : Hid (∀ W', BsAt W' b off n Z → ∀ g o c, (convert 22 9 (.slice (some ⟨g, o, none⟩) v5 c)).run Try.prog W' = .ok (.string LB) W') := fun W' hB g o c => by
          rw [← HLB.out]
          exact run_convert_bytes_arg W' 22 5 Try.underlying22 Try.underlying5 g o v5 c _ (by simp) (fun i hi => by
            have hi' : i < v5 := by simpa using hi
            omega) 9 Try.underlying9
        have HZ5 : Hid ((o6 : Int) + (v5 : Int) ≤ (o6 : Int)) := by show _ ≤ _; omega
        clear hco hv5z
        refine wp_region_noPanic ?_
        refine wp_region_held_drew (S := fun W' => W'.cell? ⟨p, 0, none⟩ = some (.slice (some ⟨b, off, none⟩) n cap) ∧ W'.cell? ⟨p, 1, none⟩ = some (.int .i64 (o6 : Int)) ∧ BsAt W' b off n Z) (by kernel_rfl) ⟨k0, k1, HA8.out.D.2.2.2.1⟩ (fun hHeld => ?_)
        have hS0 : (fun W' : World => W'.cell? ⟨p, 0, none⟩ = some (.slice (some ⟨b, off, none⟩) n cap) ∧ W'.cell? ⟨p, 1, none⟩ = some (.int .i64 (o6 : Int)) ∧ BsAt W' b off n Z) w8.drew := hHeld
        refine takeD (i := 0) (d := some 49) (v := ?vlb0) rfl rfl (by kernel_rfl) (by kernel_rfl) (by kernel_rfl) (fun _ _ _ h => h) (Or.inl ⟨by rfl, ?hylb0⟩) hS0 ?_
        case hylb0 => (intro w hSw; obtain ⟨s0, s1, s2⟩ := hSw; have hcv := HCV.out w s2; have hcz := HCO.out; have hz5 := HZ5.out; have hwr := HWR.out; have htn := HTN.out; have hle0 := HLE.out; have hsub : o6 + v5 - o6 = v5 := (by omega); have hole : o6 ≤ o6 + v5 := (by omega); go_simp <;> with_reducible rfl)
        try simp only [Act.put, List.setIfInBounds_toArray, List.set_cons_zero, List.set_cons_succ]
        refine takeD (i := 1) (d := some 50) (v := ?vlb1) rfl rfl (by kernel_rfl) (by kernel_rfl) (by kernel_rfl) (fun _ _ _ h => h) (Or.inl ⟨by rfl, ?hylb1⟩) hS0 ?_
        case hylb1 => (intro w hSw; obtain ⟨s0, s1, s2⟩ := hSw; have hcv := HCV.out w s2; have hcz := HCO.out; have hz5 := HZ5.out; have hwr := HWR.out; have htn := HTN.out; have hle0 := HLE.out; have hsub : o6 + v5 - o6 = v5 := (by omega); have hole : o6 ≤ o6 + v5 := (by omega); go_simp <;> with_reducible rfl)
        try simp only [Act.put, List.setIfInBounds_toArray, List.set_cons_zero, List.set_cons_succ]
        refine takeD (i := 2) (d := some 51) (v := ?vlb2) rfl rfl (by kernel_rfl) (by kernel_rfl) (by kernel_rfl) (fun _ _ _ h => h) (Or.inl ⟨by rfl, ?hylb2⟩) hS0 ?_
        case hylb2 => (intro w hSw; obtain ⟨s0, s1, s2⟩ := hSw; have hcv := HCV.out w s2; have hcz := HCO.out; have hz5 := HZ5.out; have hwr := HWR.out; have htn := HTN.out; have hle0 := HLE.out; have hsub : o6 + v5 - o6 = v5 := (by omega); have hole : o6 ≤ o6 + v5 := (by omega); go_simp <;> with_reducible rfl)
        try simp only [Act.put, List.setIfInBounds_toArray, List.set_cons_zero, List.set_cons_succ]
        refine takeD (i := 3) (d := some 52) (v := ?vlb3) rfl rfl (by kernel_rfl) (by kernel_rfl) (by kernel_rfl) (fun _ _ _ h => h) (Or.inl ⟨by rfl, ?hylb3⟩) hS0 ?_
        case hylb3 => (intro w hSw; obtain ⟨s0, s1, s2⟩ := hSw; have hcv := HCV.out w s2; have hcz := HCO.out; have hz5 := HZ5.out; have hwr := HWR.out; have htn := HTN.out; have hle0 := HLE.out; have hsub : o6 + v5 - o6 = v5 := (by omega); have hole : o6 ≤ o6 + v5 := (by omega); go_simp <;> with_reducible rfl)
        try simp only [Act.put, List.setIfInBounds_toArray, List.set_cons_zero, List.set_cons_succ]
        refine takeD (i := 4) (d := some 53) (v := ?vlb4) rfl rfl (by kernel_rfl) (by kernel_rfl) (by kernel_rfl) (fun _ _ _ h => h) (Or.inl ⟨by rfl, ?hylb4⟩) hS0 ?_
        case hylb4 => (intro w hSw; obtain ⟨s0, s1, s2⟩ := hSw; have hcv := HCV.out w s2; have hcz := HCO.out; have hz5 := HZ5.out; have hwr := HWR.out; have htn := HTN.out; have hle0 := HLE.out; have hsub : o6 + v5 - o6 = v5 := (by omega); have hole : o6 ≤ o6 + v5 := (by omega); go_simp <;> with_reducible rfl)
        try simp only [Act.put, List.setIfInBounds_toArray, List.set_cons_zero, List.set_cons_succ]
        refine takeD (i := 5) (d := some 54) (v := ?vlb5) rfl rfl (by kernel_rfl) (by kernel_rfl) (by kernel_rfl) (fun _ _ _ h => h) (Or.inl ⟨by rfl, ?hylb5⟩) hS0 ?_
        case hylb5 => (intro w hSw; obtain ⟨s0, s1, s2⟩ := hSw; have hcv := HCV.out w s2; have hcz := HCO.out; have hz5 := HZ5.out; have hwr := HWR.out; have htn := HTN.out; have hle0 := HLE.out; have hsub : o6 + v5 - o6 = v5 := (by omega); have hole : o6 ≤ o6 + v5 := (by omega); go_simp <;> with_reducible rfl)
        try simp only [Act.put, List.setIfInBounds_toArray, List.set_cons_zero, List.set_cons_succ]
        refine takeD (i := 6) (d := some 55) (v := ?vlb6) rfl rfl (by kernel_rfl) (by kernel_rfl) (by kernel_rfl) (fun _ _ _ h => h) (Or.inl ⟨by rfl, ?hylb6⟩) hS0 ?_
        case hylb6 => (intro w hSw; obtain ⟨s0, s1, s2⟩ := hSw; have hcv := HCV.out w s2; have hcz := HCO.out; have hz5 := HZ5.out; have hwr := HWR.out; have htn := HTN.out; have hle0 := HLE.out; have hsub : o6 + v5 - o6 = v5 := (by omega); have hole : o6 ≤ o6 + v5 := (by omega); go_simp <;> with_reducible rfl)
        try simp only [Act.put, List.setIfInBounds_toArray, List.set_cons_zero, List.set_cons_succ]
        refine takeD (i := 7) (d := some 56) (v := ?vlb7) rfl rfl (by kernel_rfl) (by kernel_rfl) (by kernel_rfl) (fun _ _ _ h => h) (Or.inl ⟨by rfl, ?hylb7⟩) hS0 ?_
        case hylb7 => (intro w hSw; obtain ⟨s0, s1, s2⟩ := hSw; have hcv := HCV.out w s2; have hcz := HCO.out; have hz5 := HZ5.out; have hwr := HWR.out; have htn := HTN.out; have hle0 := HLE.out; have hsub : o6 + v5 - o6 = v5 := (by omega); have hole : o6 ≤ o6 + v5 := (by omega); go_simp <;> with_reducible rfl)
        try simp only [Act.put, List.setIfInBounds_toArray, List.set_cons_zero, List.set_cons_succ]
        refine takeD (i := 8) (d := some 57) (v := ?vlb8) rfl rfl (by kernel_rfl) (by kernel_rfl) (by kernel_rfl) (fun _ _ _ h => h) (Or.inl ⟨by rfl, ?hylb8⟩) hS0 ?_
        case hylb8 => (intro w hSw; obtain ⟨s0, s1, s2⟩ := hSw; have hcv := HCV.out w s2; have hcz := HCO.out; have hz5 := HZ5.out; have hwr := HWR.out; have htn := HTN.out; have hle0 := HLE.out; have hsub : o6 + v5 - o6 = v5 := (by omega); have hole : o6 ≤ o6 + v5 := (by omega); go_simp <;> with_reducible rfl)
        try simp only [Act.put, List.setIfInBounds_toArray, List.set_cons_zero, List.set_cons_succ]
        refine takeD (i := 9) (d := some 58) (v := ?vlb9) rfl rfl (by kernel_rfl) (by kernel_rfl) (by kernel_rfl) (fun _ _ _ h => h) (Or.inl ⟨by rfl, ?hylb9⟩) hS0 ?_
        case hylb9 => (intro w hSw; obtain ⟨s0, s1, s2⟩ := hSw; have hcv := HCV.out w s2; have hcz := HCO.out; have hz5 := HZ5.out; have hwr := HWR.out; have htn := HTN.out; have hle0 := HLE.out; have hsub : o6 + v5 - o6 = v5 := (by omega); have hole : o6 ≤ o6 + v5 := (by omega); go_simp <;> with_reducible rfl)
        try simp only [Act.put, List.setIfInBounds_toArray, List.set_cons_zero, List.set_cons_succ]
        refine takeD (i := 10) (d := some 59) (v := ?vlb10) rfl rfl (by kernel_rfl) (by kernel_rfl) (by kernel_rfl) (fun _ _ _ h => h) (Or.inl ⟨by rfl, ?hylb10⟩) hS0 ?_
        case hylb10 => (intro w hSw; obtain ⟨s0, s1, s2⟩ := hSw; have hcv := HCV.out w s2; have hcz := HCO.out; have hz5 := HZ5.out; have hwr := HWR.out; have htn := HTN.out; have hle0 := HLE.out; have hsub : o6 + v5 - o6 = v5 := (by omega); have hole : o6 ≤ o6 + v5 := (by omega); go_simp <;> with_reducible rfl)
        try simp only [Act.put, List.setIfInBounds_toArray, List.set_cons_zero, List.set_cons_succ]
        refine takeD (i := 11) (d := some 60) (v := ?vlb11) rfl rfl (by kernel_rfl) (by kernel_rfl) (by kernel_rfl) (fun _ _ _ h => h) (Or.inl ⟨by rfl, ?hylb11⟩) hS0 ?_
        case hylb11 => (intro w hSw; obtain ⟨s0, s1, s2⟩ := hSw; have hcv := HCV.out w s2; have hcz := HCO.out; have hz5 := HZ5.out; have hwr := HWR.out; have htn := HTN.out; have hle0 := HLE.out; have hsub : o6 + v5 - o6 = v5 := (by omega); have hole : o6 ≤ o6 + v5 := (by omega); go_simp <;> with_reducible rfl)
        try simp only [Act.put, List.setIfInBounds_toArray, List.set_cons_zero, List.set_cons_succ]
        refine takeD (i := 12) (d := some 61) (v := ?vlb12) rfl rfl (by kernel_rfl) (by kernel_rfl) (by kernel_rfl) (fun _ _ _ h => h) (Or.inl ⟨by rfl, ?hylb12⟩) hS0 ?_
        case hylb12 => (intro w hSw; obtain ⟨s0, s1, s2⟩ := hSw; have hcv := HCV.out w s2; have hcz := HCO.out; have hz5 := HZ5.out; have hwr := HWR.out; have htn := HTN.out; have hle0 := HLE.out; have hsub : o6 + v5 - o6 = v5 := (by omega); have hole : o6 ≤ o6 + v5 := (by omega); go_simp <;> with_reducible rfl)
        try simp only [Act.put, List.setIfInBounds_toArray, List.set_cons_zero, List.set_cons_succ]
        refine takeD (i := 13) (d := some 62) (v := ?vlb13) rfl rfl (by kernel_rfl) (by kernel_rfl) (by kernel_rfl) (fun _ _ _ h => h) (Or.inl ⟨by rfl, ?hylb13⟩) hS0 ?_
        case hylb13 => (intro w hSw; obtain ⟨s0, s1, s2⟩ := hSw; have hcv := HCV.out w s2; have hcz := HCO.out; have hz5 := HZ5.out; have hwr := HWR.out; have htn := HTN.out; have hle0 := HLE.out; have hsub : o6 + v5 - o6 = v5 := (by omega); have hole : o6 ≤ o6 + v5 := (by omega); go_simp <;> with_reducible rfl)
        try simp only [Act.put, List.setIfInBounds_toArray, List.set_cons_zero, List.set_cons_succ]
        refine takeD (i := 14) (d := some 63) (v := ?vlb14) rfl rfl (by kernel_rfl) (by kernel_rfl) (by kernel_rfl) (fun _ _ _ h => h) (Or.inl ⟨by rfl, ?hylb14⟩) hS0 ?_
        case hylb14 => (intro w hSw; obtain ⟨s0, s1, s2⟩ := hSw; have hcv := HCV.out w s2; have hcz := HCO.out; have hz5 := HZ5.out; have hwr := HWR.out; have htn := HTN.out; have hle0 := HLE.out; have hsub : o6 + v5 - o6 = v5 := (by omega); have hole : o6 ≤ o6 + v5 := (by omega); go_simp <;> with_reducible rfl)
        try simp only [Act.put, List.setIfInBounds_toArray, List.set_cons_zero, List.set_cons_succ]
        refine takeD (i := 15) (d := some 64) (v := ?vlb15) rfl rfl (by kernel_rfl) (by kernel_rfl) (by kernel_rfl) (fun _ _ _ h => h) (Or.inl ⟨by rfl, ?hylb15⟩) hS0 ?_
        case hylb15 => (intro w hSw; obtain ⟨s0, s1, s2⟩ := hSw; have hcv := HCV.out w s2; have hcz := HCO.out; have hz5 := HZ5.out; have hwr := HWR.out; have htn := HTN.out; have hle0 := HLE.out; have hsub : o6 + v5 - o6 = v5 := (by omega); have hole : o6 ≤ o6 + v5 := (by omega); go_simp <;> with_reducible rfl)
        try simp only [Act.put, List.setIfInBounds_toArray, List.set_cons_zero, List.set_cons_succ]
        refine takeD (i := 16) (d := some 65) (v := ?vlb16) rfl rfl (by kernel_rfl) (by kernel_rfl) (by kernel_rfl) (fun _ _ _ h => h) (Or.inl ⟨by rfl, ?hylb16⟩) hS0 ?_
        case hylb16 => (intro w hSw; obtain ⟨s0, s1, s2⟩ := hSw; have hcv := HCV.out w s2; have hcz := HCO.out; have hz5 := HZ5.out; have hwr := HWR.out; have htn := HTN.out; have hle0 := HLE.out; have hsub : o6 + v5 - o6 = v5 := (by omega); have hole : o6 ≤ o6 + v5 := (by omega); go_simp <;> with_reducible rfl)
        try simp only [Act.put, List.setIfInBounds_toArray, List.set_cons_zero, List.set_cons_succ]
        refine wpAnyH_ready (rs := [17]) (by kernel_rfl) (by simp) ?_
        refine (AllReadyH.cons rfl (fun K hK => ?_) AllReadyH.nil)
        go_simp
        refine hK.out _ _ ⟨HAL.out.D.cells.1, HAL.out.D.cells.2.1, HAL.out.D.2.2.2.1⟩ (fun hHeld => ?_)
        clear hK K
        try simp only [Act.put, List.setIfInBounds_toArray, List.set_cons_zero, List.set_cons_succ]
        refine wpAnyH_done (by kernel_rfl) ?_ _
        refine NoPanic.normal ?_
        go_wp2_with fail
        go_meet
        case rel => exact HAL.out
    rename World => w9
    have HA9 : Hid (ASt w p b off n cap Z w.heap.size w5.heap.size o6 false (v0 : Int) (v1 : Int) (v2 : Int) (v3 : Int) (.slice none 0 0) LB (v4 : Int) w9) := hcut
    clear hcut
    obtain ⟨k0, k1, k2, kf⟩ := HA9.out.D.cells
    have kf1 := kf 1
    have HAt : Hid (ASt w p b off n cap Z w.heap.size w5.heap.size (o6 + v5) false (v0 : Int) (v1 : Int) (v2 : Int) (v3 : Int) (.slice none 0 0) LB (v4 : Int) (w9.setCell ⟨p, 1, none⟩ (.int .i64 ((o6 : Int) + (v5 : Int))))) := by
      have := HA9.out.at (o6 + v5) (by omega)
      rw [show ((o6 + v5 : Nat) : Int) = (o6 : Int) + (v5 : Int) by omega] at this
      exact this
    clear kf HAL HA8
    go_wp2_with fail
    generalize hV : (World.alloc _ _ : World) = w10
    have HL10 : Hid (w10.heap.size = w9.heap.size + 1) := by show _ = _; subst hV; simp [World.setCell]
    have hb10 : Below w9.heap.size (w9.setCell ⟨p, 1, none⟩ (.int .i64 ((o6 : Int) + (v5 : Int)))) w10 := by
      subst hV
      have := (Below.refl (w9.setCell ⟨p, 1, none⟩ (.int .i64 ((o6 : Int) + (v5 : Int)))).heap.size (w9.setCell ⟨p, 1, none⟩ (.int .i64 ((o6 : Int) + (v5 : Int))))).alloc (Nat.le_refl _) (.cells #[.int .i64 0, .int .i64 0] 114)
      simpa [World.setCell] using this
    have hsz9 : (w9.setCell ⟨p, 1, none⟩ (.int .i64 ((o6 : Int) + (v5 : Int)))).heap.size = w9.heap.size := by simp [World.setCell]
    have hS10 : PSo w p b off n cap Z w.heap.size w5.heap.size w9.heap.size w10.heap.size (o6 + v5) false (v0 : Int) (v1 : Int) (v2 : Int) (v3 : Int) (.slice none 0 0) LB (v4 : Int) 0 0 [] w10 := by
      have hlt := HA9.out.O.lt
      refine ⟨HAt.out.below (by rw [hsz9]; exact hb10), ?_, ?_, ?_, Row.no _ _, hlt, by have := HL10.out; omega, Nat.le_refl _⟩
      · subst hV; simp [go_sem, World.setCell]
      · subst hV; simp [go_sem, World.setCell]
      · subst hV
        have := there2y (w9.setCell ⟨p, 1, none⟩ (.int .i64 ((o6 : Int) + (v5 : Int)))) (.int .i64 0) (.int .i64 0) 114
        rw [hsz9] at this
        exact this
    have HS10 := (show Hid _ from hS10)
    clear hV hb10 hS10 HAt HA9 hsz9 k0 k1 k2 kf1
    refine (HN.out _ _ _ HS10.out.A.D).mono ?_
    rintro e w11 ⟨cnt, o7, b7, rfl, hD11, hK11, hcnt, hO7⟩
    have HS11 := (show Hid _ from HS10.out.read hK11 hD11)
    have HC : Hid ((b7 = true ∧ cnt = 0 ∧ mFeat Z n o = none) ∨ (b7 = false ∧ mFeat Z n o = (mPts Z n (min cnt 13) o7 0 0).bind fun r => if fx1 ⟨[v0, v1, v2, v3, v4], LB, r.1⟩ = 0 then some (⟨[v0, v1, v2, v3, v4], LB, r.1⟩, r.2) else none)) := by
      show _ ∨ _
      have hm := HMG.out
      rcases hO7 with ⟨h1, h2, h3, h4⟩ | ⟨_, h1, h2, h3⟩
      · left
        have hn' : rdA Z n (o6 + v5) = none := by rcases h4 with h | h; cases h; exact h
        rw [hn'] at hm
        exact ⟨h1, h2, hm⟩
      · right
        have hs' : rdA Z n (o6 + v5) = some (cnt, o7 - (o6 + v5)) := h2
        rw [hs', Option.bind_some] at hm
        simp only at hm
        rw [show o6 + v5 + (o7 - (o6 + v5)) = o7 by omega] at hm
        exact ⟨h1, hm⟩
    clear HMG hO7 hD11 hK11 HS10
    have hL10 : w10.heap.size = w9.heap.size + 1 := HL10.out
    clear hL10
    go_wp2_with fail
    go_loopw [7] (fun j wr => ∃ (k : Nat) (l : List (Int × Int)) (v : Value) (x y : Int) (ob : Nat) (bad : Bool), k ≤ 13 ∧ j = .int .i64 (k : Int) ∧ l.length = k ∧ (-549755813889 * (k : Int) ≤ x ∧ x ≤ 549755813889 * (k : Int)) ∧ (-549755813889 * (k : Int) ≤ y ∧ y ≤ 549755813889 * (k : Int)) ∧
      PSo w p b off n cap Z w.heap.size w5.heap.size w9.heap.size w10.heap.size ob bad (v0 : Int) (v1 : Int) (v2 : Int) (v3 : Int) v LB (v4 : Int) x y l wr ∧ k ≤ cnt ∧
      ((bad = true ∧ mFeat Z n o = none) ∨ (bad = false ∧ b7 = false ∧ mPts Z n (min cnt 13) o7 0 0 = (mPts Z n (min cnt 13 - k) ob x y).map fun r => (l ++ r.1, r.2)))) (fun j _ => 13 - (intOf j).toNat)
    case atStart =>
      refine ⟨0, [], .slice none 0 0, 0, 0, o7, b7, by omega, rfl, rfl, by omega, by omega, HS11.out, by omega, ?_⟩
      rcases HC.out with ⟨h1, _, h3⟩ | ⟨h1, _⟩
      · exact .inl ⟨h1, h3⟩
      · refine .inr ⟨h1, h1, ?_⟩
        simp
    case round =>
      obtain ⟨k, l, v, x, y, ob, bad, hk13, rfl, hlk, hx, hy, hS, hkc, hI⟩ := hrel
      have HS := (show Hid _ from hS)
      have HI := (show Hid _ from hI)
      clear hI HS11
      obtain ⟨k0, k1, k2, kf⟩ := hS.A.D.cells
      clear hS k0 k1 kf
      by_cases hgo : k < cnt ∧ k < 13 ∧ bad = false
      · obtain ⟨hkc', hk13', rfl⟩ := hgo
        have g1 : decide ((k : Int) < (cnt : Int)) = true := by simp; omega
        have g2 : decide ((k : Int) < 13) = true := by simp; omega
        have g1' : (k : Int) < (cnt : Int) := by omega
        have g2' : (k : Int) < 13 := by omega
        have hM : mPts Z n (min cnt 13) o7 0 0 = (mPts Z n (min cnt 13 - k) ob x y).map fun r => (l ++ r.1, r.2) := by
          rcases HI.out with ⟨h, _⟩ | ⟨_, _, h⟩
          · cases h
          · exact h
        have hb7 : b7 = false := by
          rcases HI.out with ⟨h, _⟩ | ⟨_, h, _⟩
          · cases h
          · exact h
        have HM := (show Hid _ from hM)
        have HB7 : Hid (b7 = false) := hb7
        clear hM hb7 HI
        go_wp2_with fail
        refine wp_region_noPanic ?_
        refine wp_region_held_drew (S := fun W' => W'.cell? ⟨w9.heap.size, 0, none⟩ = some (.int .i64 x)) (by kernel_rfl) HS.out.c0 (fun hHeld => ?_)
        have hS0dx : wr.drew.cell? ⟨w9.heap.size, 0, none⟩ = some (.int .i64 x) := hHeld
        refine takeD (i := 0) (d := some 94) (v := ?vdx0) rfl rfl (by kernel_rfl) (by kernel_rfl) (by kernel_rfl) (fun _ _ _ h => h) (Or.inl ⟨by rfl, ?hydx0⟩) hS0dx ?_
        case hydx0 => (intro w hSw; (try dsimp only at hSw); go_simp <;> with_reducible rfl)
        try simp only [Act.put, List.setIfInBounds_toArray, List.set_cons_zero, List.set_cons_succ]
        refine takeD (i := 1) (d := some 95) (v := ?vdx1) rfl rfl (by kernel_rfl) (by kernel_rfl) (by kernel_rfl) (fun _ _ _ h => h) (Or.inl ⟨by rfl, ?hydx1⟩) hS0dx ?_
        case hydx1 => (intro w hSw; (try dsimp only at hSw); go_simp <;> with_reducible rfl)
        try simp only [Act.put, List.setIfInBounds_toArray, List.set_cons_zero, List.set_cons_succ]
        refine takeD (i := 2) (d := some 96) (v := ?vdx2) rfl rfl (by kernel_rfl) (by kernel_rfl) (by kernel_rfl) (fun _ _ _ h => h) (Or.inl ⟨by rfl, ?hydx2⟩) hS0dx ?_
        case hydx2 => (intro w hSw; (try dsimp only at hSw); go_simp <;> with_reducible rfl)
        try simp only [Act.put, List.setIfInBounds_toArray, List.set_cons_zero, List.set_cons_succ]
        refine wpAnyH_ready (rs := [3]) (by kernel_rfl) (by simp) ?_
        refine (AllReadyH.cons rfl (fun K hK => ?_) AllReadyH.nil)
        go_simp
        refine Calls.mono (HN.out _ _ _ HS.out.A.D.drew) ?_
        rintro e wdx ⟨vdx, odx, bdx, rfl, hDdx, hKdx, hvdx, hOdx⟩
        have hKddx : Keeps p wr wdx := (Keeps.drew (Keeps.refl p wr)).trans hKdx
        have HSdx := (show Hid _ from HS.out.read hKddx hDdx)
        have HOdx := (show Hid _ from hOdx)
        have hcdx := HSdx.out.c0
        clear hOdx hDdx hKdx hKddx
        go_wp2_with fail
        refine hK.out _ _ hcdx (fun hHeld => ?_)
        clear hK K
        try simp only [Act.put, List.setIfInBounds_toArray, List.set_cons_zero, List.set_cons_succ]
        refine wpAnyH_ready (rs := [4]) (by kernel_rfl) (by simp) ?_
        refine (AllReadyH.cons rfl (fun K hK => ?_) AllReadyH.nil)
        go_simp
        refine Calls.mono (l6Unfold_any (vdx : Int) _ (by omega) (by omega)) ?_
        rintro e wu ⟨rfl, rfl⟩
        go_wp2_with fail
        refine hK.out _ _ hcdx (fun hHeld => ?_)
        clear hK K
        try simp only [Act.put, List.setIfInBounds_toArray, List.set_cons_zero, List.set_cons_succ]
        have hubdx := unfold_bd hvdx
        obtain ⟨qdx, hddx⟩ : ∃ d : Int, unfoldI (vdx : Int) = d := ⟨_, rfl⟩
        have Hddx : Hid (unfoldI (vdx : Int) = qdx) := hddx
        rw [hddx] at hubdx ⊢
        clear hddx
        have hsmdx : IntKind.i64.wrap (x + qdx) = x + qdx := IntWalk.i64_in _ (by omega)
        refine takeD (i := 5) (d := some 99) (v := ?vdx5) rfl rfl (by kernel_rfl) (by kernel_rfl) (by kernel_rfl) (fun _ _ _ h => h) (Or.inl ⟨by rfl, ?hydx5⟩) hcdx ?_
        case hydx5 => (intro w hSw; (try dsimp only at hSw); go_simp <;> with_reducible rfl)
        try simp only [Act.put, List.setIfInBounds_toArray, List.set_cons_zero, List.set_cons_succ]
        refine takeD (i := 6) (d := some 8) (v := ?vdx6) rfl rfl (by kernel_rfl) (by kernel_rfl) (by kernel_rfl) (fun _ _ _ h => h) (Or.inl ⟨by rfl, ?hydx6⟩) hcdx ?_
        case hydx6 => (intro w hSw; (try dsimp only at hSw); go_simp <;> with_reducible rfl)
        try simp only [Act.put, List.setIfInBounds_toArray, List.set_cons_zero, List.set_cons_succ]
        refine wpAnyH_done (by kernel_rfl) ?_ _
        refine NoPanic.normal ?_
        go_wp2_with fail
        refine wp_region_noPanic ?_
        refine wp_region_held_drew (S := fun W' => W'.cell? ⟨w9.heap.size, 1, none⟩ = some (.int .i64 y)) (by kernel_rfl) HSdx.out.c1 (fun hHeld => ?_)
        have hS0dy : wdx.drew.cell? ⟨w9.heap.size, 1, none⟩ = some (.int .i64 y) := hHeld
        refine takeD (i := 0) (d := some 100) (v := ?vdy0) rfl rfl (by kernel_rfl) (by kernel_rfl) (by kernel_rfl) (fun _ _ _ h => h) (Or.inl ⟨by rfl, ?hydy0⟩) hS0dy ?_
        case hydy0 => (intro w hSw; (try dsimp only at hSw); go_simp <;> with_reducible rfl)
        try simp only [Act.put, List.setIfInBounds_toArray, List.set_cons_zero, List.set_cons_succ]
        refine takeD (i := 1) (d := some 101) (v := ?vdy1) rfl rfl (by kernel_rfl) (by kernel_rfl) (by kernel_rfl) (fun _ _ _ h => h) (Or.inl ⟨by rfl, ?hydy1⟩) hS0dy ?_
        case hydy1 => (intro w hSw; (try dsimp only at hSw); go_simp <;> with_reducible rfl)
        try simp only [Act.put, List.setIfInBounds_toArray, List.set_cons_zero, List.set_cons_succ]
        refine takeD (i := 2) (d := some 102) (v := ?vdy2) rfl rfl (by kernel_rfl) (by kernel_rfl) (by kernel_rfl) (fun _ _ _ h => h) (Or.inl ⟨by rfl, ?hydy2⟩) hS0dy ?_
        case hydy2 => (intro w hSw; (try dsimp only at hSw); go_simp <;> with_reducible rfl)
        try simp only [Act.put, List.setIfInBounds_toArray, List.set_cons_zero, List.set_cons_succ]
        refine wpAnyH_ready (rs := [3]) (by kernel_rfl) (by simp) ?_
        refine (AllReadyH.cons rfl (fun K hK => ?_) AllReadyH.nil)
        go_simp
        refine Calls.mono (HN.out _ _ _ HSdx.out.A.D.drew) ?_
        rintro e wdy ⟨vdy, ody, bdy, rfl, hDdy, hKdy, hvdy, hOdy⟩
        have hKddy : Keeps p wdx wdy := (Keeps.drew (Keeps.refl p wdx)).trans hKdy
        have HSdy := (show Hid _ from HSdx.out.read hKddy hDdy)
        have HOdy := (show Hid _ from hOdy)
        have hcdy := HSdy.out.c1
        clear hOdy hDdy hKdy hKddy
        go_wp2_with fail
        refine hK.out _ _ hcdy (fun hHeld => ?_)
        clear hK K
        try simp only [Act.put, List.setIfInBounds_toArray, List.set_cons_zero, List.set_cons_succ]
        refine wpAnyH_ready (rs := [4]) (by kernel_rfl) (by simp) ?_
        refine (AllReadyH.cons rfl (fun K hK => ?_) AllReadyH.nil)
        go_simp
        refine Calls.mono (l6Unfold_any (vdy : Int) _ (by omega) (by omega)) ?_
        rintro e wu ⟨rfl, rfl⟩
        go_wp2_with fail
        refine hK.out _ _ hcdy (fun hHeld => ?_)
        clear hK K
        try simp only [Act.put, List.setIfInBounds_toArray, List.set_cons_zero, List.set_cons_succ]
        have hubdy := unfold_bd hvdy
        obtain ⟨qdy, hddy⟩ : ∃ d : Int, unfoldI (vdy : Int) = d := ⟨_, rfl⟩
        have Hddy : Hid (unfoldI (vdy : Int) = qdy) := hddy
        rw [hddy] at hubdy ⊢
        clear hddy
        have hsmdy : IntKind.i64.wrap (y + qdy) = y + qdy := IntWalk.i64_in _ (by omega)
        refine takeD (i := 5) (d := some 105) (v := ?vdy5) rfl rfl (by kernel_rfl) (by kernel_rfl) (by kernel_rfl) (fun _ _ _ h => h) (Or.inl ⟨by rfl, ?hydy5⟩) hcdy ?_
        case hydy5 => (intro w hSw; (try dsimp only at hSw); go_simp <;> with_reducible rfl)
        try simp only [Act.put, List.setIfInBounds_toArray, List.set_cons_zero, List.set_cons_succ]
        refine takeD (i := 6) (d := some 9) (v := ?vdy6) rfl rfl (by kernel_rfl) (by kernel_rfl) (by kernel_rfl) (fun _ _ _ h => h) (Or.inl ⟨by rfl, ?hydy6⟩) hcdy ?_
        case hydy6 => (intro w hSw; (try dsimp only at hSw); go_simp <;> with_reducible rfl)
        try simp only [Act.put, List.setIfInBounds_toArray, List.set_cons_zero, List.set_cons_succ]
        refine wpAnyH_done (by kernel_rfl) ?_ _
        refine NoPanic.normal ?_
        have HINV : Hid ((bdy = true ∧ mFeat Z n o = none) ∨ (bdy = false ∧ b7 = false ∧ mPts Z n (min cnt 13) o7 0 0 = (mPts Z n (min cnt 13 - (k + 1)) ody (x + qdx) (y + qdy)).map fun r => ((l ++ [(x + qdx, y + qdy)]) ++ r.1, r.2))) := by
          show _ ∨ _
          have hst := pts_step (show k < min cnt 13 by omega) HM.out HOdx.out HOdy.out
          rw [Hddx.out, Hddy.out] at hst
          rcases hst with ⟨h1, h2⟩ | ⟨h1, h2⟩
          · refine .inl ⟨h1, ?_⟩
            rcases HC.out with ⟨_, _, h⟩ | ⟨_, h⟩
            · exact h
            · rw [h, h2]; rfl
          · exact .inr ⟨h1, HB7.out, h2⟩
        clear HOdx HOdy Hddx Hddy hHeld HM HB7
        have tl := HSdy.out.TL
        have tl0 := tl.cell 0 (by omega)
        have tl1 := tl.cell 1 (by omega)
        have fl0 := (tl 0 (by omega)).2
        have fl1 := (tl 1 (by omega)).2
        obtain ⟨⟨e0, e1, e2, e3, e4, e5, e6⟩, fe4⟩ := HSdy.out.A.O.cells
        clear tl e0 e1 e2 e3 e5 e6
        have hfl := HSdy.out.fl
        have hlb := HSdy.out.lb
        have hszy := HSdy.out.sz
        have HAL2 : Hid (ASt w p b off n cap Z w.heap.size w5.heap.size ody bdy (v0 : Int) (v1 : Int) (v2 : Int) (v3 : Int) v LB (v4 : Int) ((wdy.setCell ⟨w9.heap.size, 0, none⟩ (.int .i64 (x + qdx))).setCell ⟨w9.heap.size, 1, none⟩ (.int .i64 (y + qdy)))) := (HSdy.out.A.offY hfl 0 _).offY hfl 1 _
        have HRL : Hid (Row w10.heap.size ((wdy.setCell ⟨w9.heap.size, 0, none⟩ (.int .i64 (x + qdx))).setCell ⟨w9.heap.size, 1, none⟩ (.int .i64 (y + qdy))) v l) := (HSdy.out.Rw.offY hlb).offY hlb
        have hq01 := set2_at (W := wdy) (r := w9.heap.size) (u := .int .i64 (x + qdx)) (v := .int .i64 (y + qdy)) (show (0 : Nat) ≠ 1 by omega) (by rw [tl0]; rfl) (by rw [tl1]; rfl)
        have HTL : Hid (There ((wdy.setCell ⟨w9.heap.size, 0, none⟩ (.int .i64 (x + qdx))).setCell ⟨w9.heap.size, 1, none⟩ (.int .i64 (y + qdy))) w9.heap.size 2) := (HSdy.out.TL.set1 0 _).set1 1 _
        have hszL : w10.heap.size ≤ ((wdy.setCell ⟨w9.heap.size, 0, none⟩ (.int .i64 (x + qdx))).setCell ⟨w9.heap.size, 1, none⟩ (.int .i64 (y + qdy))).heap.size := by simpa [World.setCell] using hszy
        have hszE : ((wdy.setCell ⟨w9.heap.size, 0, none⟩ (.int .i64 (x + qdx))).setCell ⟨w9.heap.size, 1, none⟩ (.int .i64 (y + qdy))).heap.size = wdy.heap.size := by simp [World.setCell]
        clear hszE
        have hblk : ∀ b, v.ownBlock = some b → w10.heap.size ≤ b := fun b hb => (World.ownsRow.lt HRL.out b hb).1
        obtain ⟨va, vn, vc, hvs⟩ : ∃ va vn vc, v = .slice va vn vc := by
          obtain ⟨_, h2 | ⟨g, cp, cur, hv, _⟩⟩ := HRL.out
          · exact ⟨_, _, _, h2.1⟩
          · exact ⟨_, _, _, hv⟩
        subst hvs
        clear HSdy HSdx HS hcdx hcdy hS0dx hS0dy
        go_wp2_with (first
          | (at_builtin; go_must (refine wpList_append_own _ rfl _ _ 69 rfl w10.heap.size 114 i0 (.agg #[.int .i64 0, .int .i64 0]) 2 16 Try.underlying69 hi hz0 hz1 hz2 rfl (by decide) _ l.length (cellsL l) rfl (World.ownsRow.alloc HRL.out _) ⟨wdy.heap.size, 0, none⟩ 1 1 [.int .i64 (x + qdx), .int .i64 (y + qdy)] rfl rfl ?c1 ?c2 ?c3 ?c4 ?c5 ?_)))
        case c1 =>
          intro q u hq
          match q, hq with
          | 0, hq => simp at hq; subst hq; simp [Addr.add, go_sem, World.setCell]
          | 1, hq => simp at hq; subst hq; simp [Addr.add, go_sem, World.setCell]
          | q + 2, hq => simp at hq
        case c2 => intro u hu; simp at hu; rcases hu with rfl | rfl <;> rfl
        case c3 => unfold maxLen; omega
        case c4 => omega
        case c5 => first | omega | (simp [World.setCell]; omega) | (simp; omega)
        intro v' w3 hown' hgrow hnil
        clear hnil
        generalize hWL : ((wdy.setCell ⟨w9.heap.size, 0, none⟩ (.int .i64 (x + qdx))).setCell ⟨w9.heap.size, 1, none⟩ (.int .i64 (y + qdy))) = WL at *
        clear hWL
        generalize hV : (WL.alloc _ : World) = V at hgrow
        have hBV : Below WL.heap.size WL V := by subst hV; (repeat (first | exact Below.refl _ _ | assumption | refine Below.drew ?_ | refine bl_alloc ?_ _ | refine bl_then ?_ (by assumption) | refine Below.setCell ?_ (by first | omega | (simp; done) | (simp; omega)) _ | refine bl_store ?_ ?_ _ _))
        have hBg : Below w10.heap.size V w3 := (Below.refl _ _).grown hgrow (by have := hBV.size; omega) (fun k hk => hblk k hk)
        have hB3 : Below w10.heap.size WL w3 := (hBV.mono hszL).trans hBg
        have HA3 : Hid (ASt w p b off n cap Z w.heap.size w5.heap.size ody bdy (v0 : Int) (v1 : Int) (v2 : Int) (v3 : Int) (.slice va vn vc) LB (v4 : Int) w3) := HAL2.out.grow hB3 (by omega)
        have HRow3 : Hid (Row w10.heap.size w3 v' (l ++ [(x + qdx, y + qdy)])) := by
          show World.ownsRow _ _ _ _ _ _ _
          rw [List.length_append, cellsL_add, hlk]
          exact hown'
        have hc03 : w3.cell? ⟨w9.heap.size, 0, none⟩ = some (.int .i64 (x + qdx)) := (hB3.cell (p := ⟨w9.heap.size, 0, none⟩) hlb).trans hq01.1
        have hc13 : w3.cell? ⟨w9.heap.size, 1, none⟩ = some (.int .i64 (y + qdy)) := (hB3.cell (p := ⟨w9.heap.size, 1, none⟩) hlb).trans hq01.2
        have HTL3 : Hid (There w3 w9.heap.size 2) := HTL.out.belowY hB3 hlb
        have hsz3 : w10.heap.size ≤ w3.heap.size := Nat.le_trans hszL hB3.size
        obtain ⟨⟨_, _, _, _, e43, _, _⟩, fe43⟩ := HA3.out.O.cells
        obtain ⟨va', vn', vc', hvs'⟩ : ∃ va vn vc, v' = .slice va vn vc := by
          obtain ⟨_, h2 | ⟨g, cp, cur, hv, _⟩⟩ := HRow3.out
          · exact ⟨_, _, _, h2.1⟩
          · exact ⟨_, _, _, hv⟩
        subst hvs'
        clear hown' hgrow hBg hBV hV hB3 hblk HAL2 HRL HTL hq01 tl0 tl1 fl0 fl1 e4 fe4 hszL
        go_wp2
        go_roundw
        case rel =>
          refine ⟨k + 1, l ++ [(x + qdx, y + qdy)], .slice va' vn' vc', x + qdx, y + qdy, ody, bdy, by omega, by go_num, by simp [hlk], by omega, by omega, ⟨HA3.out.setV _, ?_, ?_, ?_, HRow3.out.offY (by omega), hfl, hlb, by simpa [World.setCell] using hsz3⟩, by omega, HINV.out⟩
          · rw [set1_other (fun e => by injection e; omega)]; exact hc03
          · rw [set1_other (fun e => by injection e; omega)]; exact hc13
          · exact HTL3.out.offU (by omega)
        case measure => simp [intOf]; omega
      · have hkc' := hkc
        subst hlk
        by_cases hk1 : l.length < cnt
        · have g1 : decide (((l.length : Nat) : Int) < (cnt : Int)) = true := by simp; omega
          have g1' : ((l.length : Nat) : Int) < (cnt : Int) := by omega
          by_cases hk2 : l.length < 13
          · have g2 : decide (((l.length : Nat) : Int) < 13) = true := by simp; omega
            have g2' : ((l.length : Nat) : Int) < 13 := by omega
            obtain rfl : bad = true := by
              cases bad
              · exact absurd ⟨hk1, hk2, rfl⟩ hgo
              · rfl
            have HMN : Hid (mFeat Z n o = none) := by
              show _ = _
              rcases HI.out with ⟨_, h⟩ | ⟨h, _⟩
              · exact h
              · cases h
            clear HI
            obtain ⟨va, vc, hvs, hIp⟩ := HS.out.Rw.isPts
            subst hvs
            have hR10 : w.heap.size < w10.heap.size := by have := HS.out.A.lt; have := HS.out.fl; have := HS.out.lb; omega
            obtain ⟨k0, k1, k2', kf⟩ := HS.out.A.D.cells
            have kf2 := kf 2
            clear k0 k1 kf hIp
            have HAr : Hid (ASt w p b off n cap Z w.heap.size w5.heap.size ob true (v0 : Int) (v1 : Int) (v2 : Int) (v3 : Int) (.slice va l.length vc) LB (v4 : Int) (wr.setCell ⟨p, 2, none⟩ (.bool true))) := HS.out.A.wrong
            have hp10 : p < w10.heap.size := by omega
            have HRz : Hid (Row w10.heap.size (wr.setCell ⟨p, 2, none⟩ (.bool true)) (.slice va l.length vc) l) := HS.out.Rw.offY hp10
            have hTz := HAr.out.T
            have t0 := hTz.cell 0 (by omega)
            have t1 := hTz.cell 1 (by omega)
            have t2 := hTz.cell 2 (by omega)
            have t3 := hTz.cell 3 (by omega)
            have t4 := hTz.cell 4 (by omega)
            have t5 := hTz.cell 5 (by omega)
            have t6 := hTz.cell 6 (by omega)
            have f0 := (hTz 0 (by omega)).2
            have f1 := (hTz 1 (by omega)).2
            have f2 := (hTz 2 (by omega)).2
            have f3 := (hTz 3 (by omega)).2
            have f4 := (hTz 4 (by omega)).2
            have f5 := (hTz 5 (by omega)).2
            have f6 := (hTz 6 (by omega)).2
            obtain ⟨⟨e0, e1, e2, e3, e4, e5, e6⟩, _⟩ := HAr.out.O.cells
            clear hTz
            go_wp2_with fail
            obtain ⟨q0, q1, q2, q3, q4, q5, q6⟩ := set7_at (v0 := .int .i64 (v0 : Int)) (v1 := .int .i64 (v1 : Int)) (v2 := .int .i64 (v2 : Int)) (v3 := .int .i64 (v3 : Int)) (v4 := .slice va l.length vc) (v5 := .string LB) (v6 := .int .i64 (v4 : Int)) HAr.out.T
            have HAf := ((((((HAr.out.put 0 (.int .i64 (v0 : Int))).put 1 (.int .i64 (v1 : Int))).put 2 (.int .i64 (v2 : Int))).put 3 (.int .i64 (v3 : Int))).put 4 (.slice va l.length vc)).put 5 (.string LB)).put 6 (.int .i64 (v4 : Int))
            have HRf := ((((((HRz.out.offY (r := w.heap.size) (o := 0) (u := .int .i64 (v0 : Int)) hR10).offY (r := w.heap.size) (o := 1) (u := .int .i64 (v1 : Int)) hR10).offY (r := w.heap.size) (o := 2) (u := .int .i64 (v2 : Int)) hR10).offY (r := w.heap.size) (o := 3) (u := .int .i64 (v3 : Int)) hR10).offY (r := w.heap.size) (o := 4) (u := .slice va l.length vc) hR10).offY (r := w.heap.size) (o := 5) (u := .string LB) hR10).offY (r := w.heap.size) (o := 6) (u := .int .i64 (v4 : Int)) hR10
            have HRw := HRf.wide (Nat.le_of_lt hR10)
            have HDf := HAf.D
            have HKf := HAf.K
            clear HAf HRf HAr HRz
            generalize ((((((((wr.setCell ⟨p, 2, none⟩ (.bool true)).setCell ⟨w.heap.size, 0, none⟩ (.int .i64 (v0 : Int))).setCell ⟨w.heap.size, 1, none⟩ (.int .i64 (v1 : Int))).setCell ⟨w.heap.size, 2, none⟩ (.int .i64 (v2 : Int))).setCell ⟨w.heap.size, 3, none⟩ (.int .i64 (v3 : Int))).setCell ⟨w.heap.size, 4, none⟩ (.slice va l.length vc)).setCell ⟨w.heap.size, 5, none⟩ (.string LB)).setCell ⟨w.heap.size, 6, none⟩ (.int .i64 (v4 : Int))) = Wf at *
            refine bodyPost_ret (v := FeatV ⟨[v0, v1, v2, v3, v4], LB, l⟩ (.slice va l.length vc)) (by simp [results, Try.results68, go_sem, q0, q1, q2, q3, q4, q5, q6, FeatV]) rfl ⟨_, _, ob, true, rfl, HRw, HDf, HKf, .inl ⟨rfl, HMN.out⟩⟩
          · have g2 : decide (((l.length : Nat) : Int) < 13) = false := by simp; omega
            have g2' : ¬ ((l.length : Nat) : Int) < 13 := by omega
            cases bad
            · have hmm : mPts Z n (min cnt 13) o7 0 0 = some (l, ob) := by
                rcases HI.out with ⟨h, _⟩ | ⟨_, _, h⟩
                · cases h
                · rw [h, show min cnt 13 - l.length = 0 by omega]; simp [mPts]
              have hb7 : b7 = false := by
                rcases HI.out with ⟨h, _⟩ | ⟨_, h, _⟩
                · cases h
                · exact h
              have HMF2 : Hid (mFeat Z n o = if fx1 ⟨[v0, v1, v2, v3, v4], LB, l⟩ = 0 then some (⟨[v0, v1, v2, v3, v4], LB, l⟩, ob) else none) := by
                show _ = _
                rcases HC.out with ⟨h, _⟩ | ⟨_, h⟩
                · rw [hb7] at h; cases h
                · rw [h, hmm]; rfl
              clear HI hmm hb7 HC
              obtain ⟨va, vc, hvs, hIp⟩ := HS.out.Rw.isPts
              subst hvs
              have hR10 : w.heap.size < w10.heap.size := by have := HS.out.A.lt; have := HS.out.fl; have := HS.out.lb; omega
              have hp10 : p < w10.heap.size := by omega
              have hlab : LB.size ≤ 1048576 := by
                rw [← HLB.out]
                have : (labA Z o6 v5).size = v5 := by unfold labA; simp [strOfNums_size]
                omega
              have HFL := (show Hid _ from l2Fault_any w5.heap.size 0 (v0 : Int) (v1 : Int) (v2 : Int) (v3 : Int) va l.length vc (px l) (py l) LB (v4 : Int) wr (outFeat HS.out.A.O) hIp hlab (by omega))
              obtain ⟨fc, hfc⟩ : ∃ fc : Int, featC (v0 : Int) (v1 : Int) (v2 : Int) (v3 : Int) l.length (px l) (py l) LB (v4 : Int) = fc := ⟨_, rfl⟩
              rw [hfc] at HFL
              have HFC : Hid (fx1 ⟨[v0, v1, v2, v3, v4], LB, l⟩ = fc) := hfc
              clear hfc hIp hlab
              go_wp2_with fail
              refine Calls.mono HFL.out ?_
              rintro e wz0 ⟨rfl, hbz⟩
              have HA0 := (show Hid _ from HS.out.A.below hbz)
              have HR0 : Hid (Row w10.heap.size wz0 (.slice va l.length vc) l) := HS.out.Rw.below hbz
              clear hbz HFL
              obtain ⟨k0, k1, k2', kf⟩ := HA0.out.D.cells
              have kf2 := kf 2
              clear k0 k1 kf
              by_cases hfz : fc = 0
              · subst hfz
                have HAr : Hid (ASt w p b off n cap Z w.heap.size w5.heap.size ob false (v0 : Int) (v1 : Int) (v2 : Int) (v3 : Int) (.slice va l.length vc) LB (v4 : Int) (wz0.setCell ⟨p, 2, none⟩ (.bool false))) := HA0.out.right
                have HRz : Hid (Row w10.heap.size (wz0.setCell ⟨p, 2, none⟩ (.bool false)) (.slice va l.length vc) l) := HR0.out.offY hp10
                have hTz := HAr.out.T
                have t0 := hTz.cell 0 (by omega)
                have t1 := hTz.cell 1 (by omega)
                have t2 := hTz.cell 2 (by omega)
                have t3 := hTz.cell 3 (by omega)
                have t4 := hTz.cell 4 (by omega)
                have t5 := hTz.cell 5 (by omega)
                have t6 := hTz.cell 6 (by omega)
                have f0 := (hTz 0 (by omega)).2
                have f1 := (hTz 1 (by omega)).2
                have f2 := (hTz 2 (by omega)).2
                have f3 := (hTz 3 (by omega)).2
                have f4 := (hTz 4 (by omega)).2
                have f5 := (hTz 5 (by omega)).2
                have f6 := (hTz 6 (by omega)).2
                obtain ⟨⟨e0, e1, e2, e3, e4, e5, e6⟩, _⟩ := HAr.out.O.cells
                clear hTz
                go_wp2_with fail
                obtain ⟨q0, q1, q2, q3, q4, q5, q6⟩ := set7_at (v0 := .int .i64 (v0 : Int)) (v1 := .int .i64 (v1 : Int)) (v2 := .int .i64 (v2 : Int)) (v3 := .int .i64 (v3 : Int)) (v4 := .slice va l.length vc) (v5 := .string LB) (v6 := .int .i64 (v4 : Int)) HAr.out.T
                have HAf := ((((((HAr.out.put 0 (.int .i64 (v0 : Int))).put 1 (.int .i64 (v1 : Int))).put 2 (.int .i64 (v2 : Int))).put 3 (.int .i64 (v3 : Int))).put 4 (.slice va l.length vc)).put 5 (.string LB)).put 6 (.int .i64 (v4 : Int))
                have HRf := ((((((HRz.out.offY (r := w.heap.size) (o := 0) (u := .int .i64 (v0 : Int)) hR10).offY (r := w.heap.size) (o := 1) (u := .int .i64 (v1 : Int)) hR10).offY (r := w.heap.size) (o := 2) (u := .int .i64 (v2 : Int)) hR10).offY (r := w.heap.size) (o := 3) (u := .int .i64 (v3 : Int)) hR10).offY (r := w.heap.size) (o := 4) (u := .slice va l.length vc) hR10).offY (r := w.heap.size) (o := 5) (u := .string LB) hR10).offY (r := w.heap.size) (o := 6) (u := .int .i64 (v4 : Int)) hR10
                have HRw := HRf.wide (Nat.le_of_lt hR10)
                have HDf := HAf.D
                have HKf := HAf.K
                clear HAf HRf HAr HRz
                generalize ((((((((wz0.setCell ⟨p, 2, none⟩ (.bool false)).setCell ⟨w.heap.size, 0, none⟩ (.int .i64 (v0 : Int))).setCell ⟨w.heap.size, 1, none⟩ (.int .i64 (v1 : Int))).setCell ⟨w.heap.size, 2, none⟩ (.int .i64 (v2 : Int))).setCell ⟨w.heap.size, 3, none⟩ (.int .i64 (v3 : Int))).setCell ⟨w.heap.size, 4, none⟩ (.slice va l.length vc)).setCell ⟨w.heap.size, 5, none⟩ (.string LB)).setCell ⟨w.heap.size, 6, none⟩ (.int .i64 (v4 : Int))) = Wf at *
                refine bodyPost_ret (v := FeatV ⟨[v0, v1, v2, v3, v4], LB, l⟩ (.slice va l.length vc)) (by simp [results, Try.results68, go_sem, q0, q1, q2, q3, q4, q5, q6, FeatV]) rfl ⟨_, _, ob, false, rfl, HRw, HDf, HKf, .inr ⟨rfl, by rw [HMF2.out, if_pos HFC.out]⟩⟩
              · have hfz' : (fc == 0) = false := by simpa using hfz
                have hfz2 : (fc != 0) = true := by simpa using hfz
                have HAr : Hid (ASt w p b off n cap Z w.heap.size w5.heap.size ob true (v0 : Int) (v1 : Int) (v2 : Int) (v3 : Int) (.slice va l.length vc) LB (v4 : Int) (wz0.setCell ⟨p, 2, none⟩ (.bool true))) := HA0.out.wrong
                have HRz : Hid (Row w10.heap.size (wz0.setCell ⟨p, 2, none⟩ (.bool true)) (.slice va l.length vc) l) := HR0.out.offY hp10
                have hTz := HAr.out.T
                have t0 := hTz.cell 0 (by omega)
                have t1 := hTz.cell 1 (by omega)
                have t2 := hTz.cell 2 (by omega)
                have t3 := hTz.cell 3 (by omega)
                have t4 := hTz.cell 4 (by omega)
                have t5 := hTz.cell 5 (by omega)
                have t6 := hTz.cell 6 (by omega)
                have f0 := (hTz 0 (by omega)).2
                have f1 := (hTz 1 (by omega)).2
                have f2 := (hTz 2 (by omega)).2
                have f3 := (hTz 3 (by omega)).2
                have f4 := (hTz 4 (by omega)).2
                have f5 := (hTz 5 (by omega)).2
                have f6 := (hTz 6 (by omega)).2
                obtain ⟨⟨e0, e1, e2, e3, e4, e5, e6⟩, _⟩ := HAr.out.O.cells
                clear hTz
                go_wp2_with fail
                obtain ⟨q0, q1, q2, q3, q4, q5, q6⟩ := set7_at (v0 := .int .i64 (v0 : Int)) (v1 := .int .i64 (v1 : Int)) (v2 := .int .i64 (v2 : Int)) (v3 := .int .i64 (v3 : Int)) (v4 := .slice va l.length vc) (v5 := .string LB) (v6 := .int .i64 (v4 : Int)) HAr.out.T
                have HAf := ((((((HAr.out.put 0 (.int .i64 (v0 : Int))).put 1 (.int .i64 (v1 : Int))).put 2 (.int .i64 (v2 : Int))).put 3 (.int .i64 (v3 : Int))).put 4 (.slice va l.length vc)).put 5 (.string LB)).put 6 (.int .i64 (v4 : Int))
                have HRf := ((((((HRz.out.offY (r := w.heap.size) (o := 0) (u := .int .i64 (v0 : Int)) hR10).offY (r := w.heap.size) (o := 1) (u := .int .i64 (v1 : Int)) hR10).offY (r := w.heap.size) (o := 2) (u := .int .i64 (v2 : Int)) hR10).offY (r := w.heap.size) (o := 3) (u := .int .i64 (v3 : Int)) hR10).offY (r := w.heap.size) (o := 4) (u := .slice va l.length vc) hR10).offY (r := w.heap.size) (o := 5) (u := .string LB) hR10).offY (r := w.heap.size) (o := 6) (u := .int .i64 (v4 : Int)) hR10
                have HRw := HRf.wide (Nat.le_of_lt hR10)
                have HDf := HAf.D
                have HKf := HAf.K
                clear HAf HRf HAr HRz
                generalize ((((((((wz0.setCell ⟨p, 2, none⟩ (.bool true)).setCell ⟨w.heap.size, 0, none⟩ (.int .i64 (v0 : Int))).setCell ⟨w.heap.size, 1, none⟩ (.int .i64 (v1 : Int))).setCell ⟨w.heap.size, 2, none⟩ (.int .i64 (v2 : Int))).setCell ⟨w.heap.size, 3, none⟩ (.int .i64 (v3 : Int))).setCell ⟨w.heap.size, 4, none⟩ (.slice va l.length vc)).setCell ⟨w.heap.size, 5, none⟩ (.string LB)).setCell ⟨w.heap.size, 6, none⟩ (.int .i64 (v4 : Int))) = Wf at *
                refine bodyPost_ret (v := FeatV ⟨[v0, v1, v2, v3, v4], LB, l⟩ (.slice va l.length vc)) (by simp [results, Try.results68, go_sem, q0, q1, q2, q3, q4, q5, q6, FeatV]) rfl ⟨_, _, ob, true, rfl, HRw, HDf, HKf, .inl ⟨rfl, by rw [HMF2.out, if_neg (by rw [HFC.out]; exact hfz)]⟩⟩
            · have HMN : Hid (mFeat Z n o = none) := by
                show _ = _
                rcases HI.out with ⟨_, h⟩ | ⟨h, _⟩
                · exact h
                · cases h
              clear HI
              obtain ⟨va, vc, hvs, hIp⟩ := HS.out.Rw.isPts
              subst hvs
              have hR10 : w.heap.size < w10.heap.size := by have := HS.out.A.lt; have := HS.out.fl; have := HS.out.lb; omega
              obtain ⟨k0, k1, k2', kf⟩ := HS.out.A.D.cells
              have kf2 := kf 2
              clear k0 k1 kf hIp
              have HAr : Hid (ASt w p b off n cap Z w.heap.size w5.heap.size ob true (v0 : Int) (v1 : Int) (v2 : Int) (v3 : Int) (.slice va l.length vc) LB (v4 : Int) (wr.setCell ⟨p, 2, none⟩ (.bool true))) := HS.out.A.wrong
              have hp10 : p < w10.heap.size := by omega
              have HRz : Hid (Row w10.heap.size (wr.setCell ⟨p, 2, none⟩ (.bool true)) (.slice va l.length vc) l) := HS.out.Rw.offY hp10
              have hTz := HAr.out.T
              have t0 := hTz.cell 0 (by omega)
              have t1 := hTz.cell 1 (by omega)
              have t2 := hTz.cell 2 (by omega)
              have t3 := hTz.cell 3 (by omega)
              have t4 := hTz.cell 4 (by omega)
              have t5 := hTz.cell 5 (by omega)
              have t6 := hTz.cell 6 (by omega)
              have f0 := (hTz 0 (by omega)).2
              have f1 := (hTz 1 (by omega)).2
              have f2 := (hTz 2 (by omega)).2
              have f3 := (hTz 3 (by omega)).2
              have f4 := (hTz 4 (by omega)).2
              have f5 := (hTz 5 (by omega)).2
              have f6 := (hTz 6 (by omega)).2
              obtain ⟨⟨e0, e1, e2, e3, e4, e5, e6⟩, _⟩ := HAr.out.O.cells
              clear hTz
              go_wp2_with fail
              obtain ⟨q0, q1, q2, q3, q4, q5, q6⟩ := set7_at (v0 := .int .i64 (v0 : Int)) (v1 := .int .i64 (v1 : Int)) (v2 := .int .i64 (v2 : Int)) (v3 := .int .i64 (v3 : Int)) (v4 := .slice va l.length vc) (v5 := .string LB) (v6 := .int .i64 (v4 : Int)) HAr.out.T
              have HAf := ((((((HAr.out.put 0 (.int .i64 (v0 : Int))).put 1 (.int .i64 (v1 : Int))).put 2 (.int .i64 (v2 : Int))).put 3 (.int .i64 (v3 : Int))).put 4 (.slice va l.length vc)).put 5 (.string LB)).put 6 (.int .i64 (v4 : Int))
              have HRf := ((((((HRz.out.offY (r := w.heap.size) (o := 0) (u := .int .i64 (v0 : Int)) hR10).offY (r := w.heap.size) (o := 1) (u := .int .i64 (v1 : Int)) hR10).offY (r := w.heap.size) (o := 2) (u := .int .i64 (v2 : Int)) hR10).offY (r := w.heap.size) (o := 3) (u := .int .i64 (v3 : Int)) hR10).offY (r := w.heap.size) (o := 4) (u := .slice va l.length vc) hR10).offY (r := w.heap.size) (o := 5) (u := .string LB) hR10).offY (r := w.heap.size) (o := 6) (u := .int .i64 (v4 : Int)) hR10
              have HRw := HRf.wide (Nat.le_of_lt hR10)
              have HDf := HAf.D
              have HKf := HAf.K
              clear HAf HRf HAr HRz
              generalize ((((((((wr.setCell ⟨p, 2, none⟩ (.bool true)).setCell ⟨w.heap.size, 0, none⟩ (.int .i64 (v0 : Int))).setCell ⟨w.heap.size, 1, none⟩ (.int .i64 (v1 : Int))).setCell ⟨w.heap.size, 2, none⟩ (.int .i64 (v2 : Int))).setCell ⟨w.heap.size, 3, none⟩ (.int .i64 (v3 : Int))).setCell ⟨w.heap.size, 4, none⟩ (.slice va l.length vc)).setCell ⟨w.heap.size, 5, none⟩ (.string LB)).setCell ⟨w.heap.size, 6, none⟩ (.int .i64 (v4 : Int))) = Wf at *
              refine bodyPost_ret (v := FeatV ⟨[v0, v1, v2, v3, v4], LB, l⟩ (.slice va l.length vc)) (by simp [results, Try.results68, go_sem, q0, q1, q2, q3, q4, q5, q6, FeatV]) rfl ⟨_, _, ob, true, rfl, HRw, HDf, HKf, .inl ⟨rfl, HMN.out⟩⟩
        · have g1 : decide (((l.length : Nat) : Int) < (cnt : Int)) = false := by simp; omega
          have g1' : ¬ ((l.length : Nat) : Int) < (cnt : Int) := by omega
          cases bad
          · have hmm : mPts Z n (min cnt 13) o7 0 0 = some (l, ob) := by
              rcases HI.out with ⟨h, _⟩ | ⟨_, _, h⟩
              · cases h
              · rw [h, show min cnt 13 - l.length = 0 by omega]; simp [mPts]
            have hb7 : b7 = false := by
              rcases HI.out with ⟨h, _⟩ | ⟨_, h, _⟩
              · cases h
              · exact h
            have HMF2 : Hid (mFeat Z n o = if fx1 ⟨[v0, v1, v2, v3, v4], LB, l⟩ = 0 then some (⟨[v0, v1, v2, v3, v4], LB, l⟩, ob) else none) := by
              show _ = _
              rcases HC.out with ⟨h, _⟩ | ⟨_, h⟩
              · rw [hb7] at h; cases h
              · rw [h, hmm]; rfl
            clear HI hmm hb7 HC
            obtain ⟨va, vc, hvs, hIp⟩ := HS.out.Rw.isPts
            subst hvs
            have hR10 : w.heap.size < w10.heap.size := by have := HS.out.A.lt; have := HS.out.fl; have := HS.out.lb; omega
            have hp10 : p < w10.heap.size := by omega
            have hlab : LB.size ≤ 1048576 := by
              rw [← HLB.out]
              have : (labA Z o6 v5).size = v5 := by unfold labA; simp [strOfNums_size]
              omega
            have HFL := (show Hid _ from l2Fault_any w5.heap.size 0 (v0 : Int) (v1 : Int) (v2 : Int) (v3 : Int) va l.length vc (px l) (py l) LB (v4 : Int) wr (outFeat HS.out.A.O) hIp hlab (by omega))
            obtain ⟨fc, hfc⟩ : ∃ fc : Int, featC (v0 : Int) (v1 : Int) (v2 : Int) (v3 : Int) l.length (px l) (py l) LB (v4 : Int) = fc := ⟨_, rfl⟩
            rw [hfc] at HFL
            have HFC : Hid (fx1 ⟨[v0, v1, v2, v3, v4], LB, l⟩ = fc) := hfc
            clear hfc hIp hlab
            go_wp2_with fail
            refine Calls.mono HFL.out ?_
            rintro e wz0 ⟨rfl, hbz⟩
            have HA0 := (show Hid _ from HS.out.A.below hbz)
            have HR0 : Hid (Row w10.heap.size wz0 (.slice va l.length vc) l) := HS.out.Rw.below hbz
            clear hbz HFL
            obtain ⟨k0, k1, k2', kf⟩ := HA0.out.D.cells
            have kf2 := kf 2
            clear k0 k1 kf
            by_cases hfz : fc = 0
            · subst hfz
              have HAr : Hid (ASt w p b off n cap Z w.heap.size w5.heap.size ob false (v0 : Int) (v1 : Int) (v2 : Int) (v3 : Int) (.slice va l.length vc) LB (v4 : Int) (wz0.setCell ⟨p, 2, none⟩ (.bool false))) := HA0.out.right
              have HRz : Hid (Row w10.heap.size (wz0.setCell ⟨p, 2, none⟩ (.bool false)) (.slice va l.length vc) l) := HR0.out.offY hp10
              have hTz := HAr.out.T
              have t0 := hTz.cell 0 (by omega)
              have t1 := hTz.cell 1 (by omega)
              have t2 := hTz.cell 2 (by omega)
              have t3 := hTz.cell 3 (by omega)
              have t4 := hTz.cell 4 (by omega)
              have t5 := hTz.cell 5 (by omega)
              have t6 := hTz.cell 6 (by omega)
              have f0 := (hTz 0 (by omega)).2
              have f1 := (hTz 1 (by omega)).2
              have f2 := (hTz 2 (by omega)).2
              have f3 := (hTz 3 (by omega)).2
              have f4 := (hTz 4 (by omega)).2
              have f5 := (hTz 5 (by omega)).2
              have f6 := (hTz 6 (by omega)).2
              obtain ⟨⟨e0, e1, e2, e3, e4, e5, e6⟩, _⟩ := HAr.out.O.cells
              clear hTz
              go_wp2_with fail
              obtain ⟨q0, q1, q2, q3, q4, q5, q6⟩ := set7_at (v0 := .int .i64 (v0 : Int)) (v1 := .int .i64 (v1 : Int)) (v2 := .int .i64 (v2 : Int)) (v3 := .int .i64 (v3 : Int)) (v4 := .slice va l.length vc) (v5 := .string LB) (v6 := .int .i64 (v4 : Int)) HAr.out.T
              have HAf := ((((((HAr.out.put 0 (.int .i64 (v0 : Int))).put 1 (.int .i64 (v1 : Int))).put 2 (.int .i64 (v2 : Int))).put 3 (.int .i64 (v3 : Int))).put 4 (.slice va l.length vc)).put 5 (.string LB)).put 6 (.int .i64 (v4 : Int))
              have HRf := ((((((HRz.out.offY (r := w.heap.size) (o := 0) (u := .int .i64 (v0 : Int)) hR10).offY (r := w.heap.size) (o := 1) (u := .int .i64 (v1 : Int)) hR10).offY (r := w.heap.size) (o := 2) (u := .int .i64 (v2 : Int)) hR10).offY (r := w.heap.size) (o := 3) (u := .int .i64 (v3 : Int)) hR10).offY (r := w.heap.size) (o := 4) (u := .slice va l.length vc) hR10).offY (r := w.heap.size) (o := 5) (u := .string LB) hR10).offY (r := w.heap.size) (o := 6) (u := .int .i64 (v4 : Int)) hR10
              have HRw := HRf.wide (Nat.le_of_lt hR10)
              have HDf := HAf.D
              have HKf := HAf.K
              clear HAf HRf HAr HRz
              generalize ((((((((wz0.setCell ⟨p, 2, none⟩ (.bool false)).setCell ⟨w.heap.size, 0, none⟩ (.int .i64 (v0 : Int))).setCell ⟨w.heap.size, 1, none⟩ (.int .i64 (v1 : Int))).setCell ⟨w.heap.size, 2, none⟩ (.int .i64 (v2 : Int))).setCell ⟨w.heap.size, 3, none⟩ (.int .i64 (v3 : Int))).setCell ⟨w.heap.size, 4, none⟩ (.slice va l.length vc)).setCell ⟨w.heap.size, 5, none⟩ (.string LB)).setCell ⟨w.heap.size, 6, none⟩ (.int .i64 (v4 : Int))) = Wf at *
              refine bodyPost_ret (v := FeatV ⟨[v0, v1, v2, v3, v4], LB, l⟩ (.slice va l.length vc)) (by simp [results, Try.results68, go_sem, q0, q1, q2, q3, q4, q5, q6, FeatV]) rfl ⟨_, _, ob, false, rfl, HRw, HDf, HKf, .inr ⟨rfl, by rw [HMF2.out, if_pos HFC.out]⟩⟩
            · have hfz' : (fc == 0) = false := by simpa using hfz
              have hfz2 : (fc != 0) = true := by simpa using hfz
              have HAr : Hid (ASt w p b off n cap Z w.heap.size w5.heap.size ob true (v0 : Int) (v1 : Int) (v2 : Int) (v3 : Int) (.slice va l.length vc) LB (v4 : Int) (wz0.setCell ⟨p, 2, none⟩ (.bool true))) := HA0.out.wrong
              have HRz : Hid (Row w10.heap.size (wz0.setCell ⟨p, 2, none⟩ (.bool true)) (.slice va l.length vc) l) := HR0.out.offY hp10
              have hTz := HAr.out.T
              have t0 := hTz.cell 0 (by omega)
              have t1 := hTz.cell 1 (by omega)
              have t2 := hTz.cell 2 (by omega)
              have t3 := hTz.cell 3 (by omega)
              have t4 := hTz.cell 4 (by omega)
              have t5 := hTz.cell 5 (by omega)
              have t6 := hTz.cell 6 (by omega)
              have f0 := (hTz 0 (by omega)).2
              have f1 := (hTz 1 (by omega)).2
              have f2 := (hTz 2 (by omega)).2
              have f3 := (hTz 3 (by omega)).2
              have f4 := (hTz 4 (by omega)).2
              have f5 := (hTz 5 (by omega)).2
              have f6 := (hTz 6 (by omega)).2
              obtain ⟨⟨e0, e1, e2, e3, e4, e5, e6⟩, _⟩ := HAr.out.O.cells
              clear hTz
              go_wp2_with fail
              obtain ⟨q0, q1, q2, q3, q4, q5, q6⟩ := set7_at (v0 := .int .i64 (v0 : Int)) (v1 := .int .i64 (v1 : Int)) (v2 := .int .i64 (v2 : Int)) (v3 := .int .i64 (v3 : Int)) (v4 := .slice va l.length vc) (v5 := .string LB) (v6 := .int .i64 (v4 : Int)) HAr.out.T
              have HAf := ((((((HAr.out.put 0 (.int .i64 (v0 : Int))).put 1 (.int .i64 (v1 : Int))).put 2 (.int .i64 (v2 : Int))).put 3 (.int .i64 (v3 : Int))).put 4 (.slice va l.length vc)).put 5 (.string LB)).put 6 (.int .i64 (v4 : Int))
              have HRf := ((((((HRz.out.offY (r := w.heap.size) (o := 0) (u := .int .i64 (v0 : Int)) hR10).offY (r := w.heap.size) (o := 1) (u := .int .i64 (v1 : Int)) hR10).offY (r := w.heap.size) (o := 2) (u := .int .i64 (v2 : Int)) hR10).offY (r := w.heap.size) (o := 3) (u := .int .i64 (v3 : Int)) hR10).offY (r := w.heap.size) (o := 4) (u := .slice va l.length vc) hR10).offY (r := w.heap.size) (o := 5) (u := .string LB) hR10).offY (r := w.heap.size) (o := 6) (u := .int .i64 (v4 : Int)) hR10
              have HRw := HRf.wide (Nat.le_of_lt hR10)
              have HDf := HAf.D
              have HKf := HAf.K
              clear HAf HRf HAr HRz
              generalize ((((((((wz0.setCell ⟨p, 2, none⟩ (.bool true)).setCell ⟨w.heap.size, 0, none⟩ (.int .i64 (v0 : Int))).setCell ⟨w.heap.size, 1, none⟩ (.int .i64 (v1 : Int))).setCell ⟨w.heap.size, 2, none⟩ (.int .i64 (v2 : Int))).setCell ⟨w.heap.size, 3, none⟩ (.int .i64 (v3 : Int))).setCell ⟨w.heap.size, 4, none⟩ (.slice va l.length vc)).setCell ⟨w.heap.size, 5, none⟩ (.string LB)).setCell ⟨w.heap.size, 6, none⟩ (.int .i64 (v4 : Int))) = Wf at *
              refine bodyPost_ret (v := FeatV ⟨[v0, v1, v2, v3, v4], LB, l⟩ (.slice va l.length vc)) (by simp [results, Try.results68, go_sem, q0, q1, q2, q3, q4, q5, q6, FeatV]) rfl ⟨_, _, ob, true, rfl, HRw, HDf, HKf, .inl ⟨rfl, by rw [HMF2.out, if_neg (by rw [HFC.out]; exact hfz)]⟩⟩
          · have HMN : Hid (mFeat Z n o = none) := by
              show _ = _
              rcases HI.out with ⟨_, h⟩ | ⟨h, _⟩
              · exact h
              · cases h
            clear HI
            obtain ⟨va, vc, hvs, hIp⟩ := HS.out.Rw.isPts
            subst hvs
            have hR10 : w.heap.size < w10.heap.size := by have := HS.out.A.lt; have := HS.out.fl; have := HS.out.lb; omega
            obtain ⟨k0, k1, k2', kf⟩ := HS.out.A.D.cells
            have kf2 := kf 2
            clear k0 k1 kf hIp
            have HAr : Hid (ASt w p b off n cap Z w.heap.size w5.heap.size ob true (v0 : Int) (v1 : Int) (v2 : Int) (v3 : Int) (.slice va l.length vc) LB (v4 : Int) (wr.setCell ⟨p, 2, none⟩ (.bool true))) := HS.out.A.wrong
            have hp10 : p < w10.heap.size := by omega
            have HRz : Hid (Row w10.heap.size (wr.setCell ⟨p, 2, none⟩ (.bool true)) (.slice va l.length vc) l) := HS.out.Rw.offY hp10
            have hTz := HAr.out.T
            have t0 := hTz.cell 0 (by omega)
            have t1 := hTz.cell 1 (by omega)
            have t2 := hTz.cell 2 (by omega)
            have t3 := hTz.cell 3 (by omega)
            have t4 := hTz.cell 4 (by omega)
            have t5 := hTz.cell 5 (by omega)
            have t6 := hTz.cell 6 (by omega)
            have f0 := (hTz 0 (by omega)).2
            have f1 := (hTz 1 (by omega)).2
            have f2 := (hTz 2 (by omega)).2
            have f3 := (hTz 3 (by omega)).2
            have f4 := (hTz 4 (by omega)).2
            have f5 := (hTz 5 (by omega)).2
            have f6 := (hTz 6 (by omega)).2
            obtain ⟨⟨e0, e1, e2, e3, e4, e5, e6⟩, _⟩ := HAr.out.O.cells
            clear hTz
            go_wp2_with fail
            obtain ⟨q0, q1, q2, q3, q4, q5, q6⟩ := set7_at (v0 := .int .i64 (v0 : Int)) (v1 := .int .i64 (v1 : Int)) (v2 := .int .i64 (v2 : Int)) (v3 := .int .i64 (v3 : Int)) (v4 := .slice va l.length vc) (v5 := .string LB) (v6 := .int .i64 (v4 : Int)) HAr.out.T
            have HAf := ((((((HAr.out.put 0 (.int .i64 (v0 : Int))).put 1 (.int .i64 (v1 : Int))).put 2 (.int .i64 (v2 : Int))).put 3 (.int .i64 (v3 : Int))).put 4 (.slice va l.length vc)).put 5 (.string LB)).put 6 (.int .i64 (v4 : Int))
            have HRf := ((((((HRz.out.offY (r := w.heap.size) (o := 0) (u := .int .i64 (v0 : Int)) hR10).offY (r := w.heap.size) (o := 1) (u := .int .i64 (v1 : Int)) hR10).offY (r := w.heap.size) (o := 2) (u := .int .i64 (v2 : Int)) hR10).offY (r := w.heap.size) (o := 3) (u := .int .i64 (v3 : Int)) hR10).offY (r := w.heap.size) (o := 4) (u := .slice va l.length vc) hR10).offY (r := w.heap.size) (o := 5) (u := .string LB) hR10).offY (r := w.heap.size) (o := 6) (u := .int .i64 (v4 : Int)) hR10
            have HRw := HRf.wide (Nat.le_of_lt hR10)
            have HDf := HAf.D
            have HKf := HAf.K
            clear HAf HRf HAr HRz
            generalize ((((((((wr.setCell ⟨p, 2, none⟩ (.bool true)).setCell ⟨w.heap.size, 0, none⟩ (.int .i64 (v0 : Int))).setCell ⟨w.heap.size, 1, none⟩ (.int .i64 (v1 : Int))).setCell ⟨w.heap.size, 2, none⟩ (.int .i64 (v2 : Int))).setCell ⟨w.heap.size, 3, none⟩ (.int .i64 (v3 : Int))).setCell ⟨w.heap.size, 4, none⟩ (.slice va l.length vc)).setCell ⟨w.heap.size, 5, none⟩ (.string LB)).setCell ⟨w.heap.size, 6, none⟩ (.int .i64 (v4 : Int))) = Wf at *
            refine bodyPost_ret (v := FeatV ⟨[v0, v1, v2, v3, v4], LB, l⟩ (.slice va l.length vc)) (by simp [results, Try.results68, go_sem, q0, q1, q2, q3, q4, q5, q6, FeatV]) rfl ⟨_, _, ob, true, rfl, HRw, HDf, HKf, .inl ⟨rfl, HMN.out⟩⟩
  · have hmn : mFeat Z n o = none := by
      rcases HNS.out with ⟨_, h⟩ | ⟨h, _⟩
      · exact h
      · cases h
    have HMN : Hid (mFeat Z n o = none) := hmn
    clear hmn HNS
    go_wp2_with fail
    go_quiet (fail)
    have hd8 : Below w7.heap.size w7 (w7.drewN nq) := ⟨rfl, rfl, rfl, Nat.le_refl _, fun _ _ => rfl⟩
    have HA8 : Hid (ASt w p b off n cap Z w.heap.size w5.heap.size o6 true (v0 : Int) (v1 : Int) (v2 : Int) (v3 : Int) (.slice none 0 0) ByteArray.empty (v4 : Int) (w7.drewN nq)) := HA7.out.below hd8
    generalize hw8 : w7.drewN nq = w8 at *
    clear hw8 hd8 c0 c1 c2 HA7
    obtain ⟨k0, k1, k2, kf⟩ := HA8.out.D.cells
    have kf2 := kf 2
    clear kf
    have HA9 : Hid (ASt w p b off n cap Z w.heap.size w5.heap.size o6 true (v0 : Int) (v1 : Int) (v2 : Int) (v3 : Int) (.slice none 0 0) ByteArray.empty (v4 : Int) (w8.setCell ⟨p, 2, none⟩ (.bool true))) := HA8.out.wrong
    have hT9 := HA9.out.T
    have t0 := hT9.cell 0 (by omega)
    have t1 := hT9.cell 1 (by omega)
    have t2 := hT9.cell 2 (by omega)
    have t3 := hT9.cell 3 (by omega)
    have t4 := hT9.cell 4 (by omega)
    have t5 := hT9.cell 5 (by omega)
    have t6 := hT9.cell 6 (by omega)
    have f0 := (hT9 0 (by omega)).2
    have f1 := (hT9 1 (by omega)).2
    have f2 := (hT9 2 (by omega)).2
    have f3 := (hT9 3 (by omega)).2
    have f4 := (hT9 4 (by omega)).2
    have f5 := (hT9 5 (by omega)).2
    have f6 := (hT9 6 (by omega)).2
    obtain ⟨⟨e0, e1, e2, e3, e4, e5, e6⟩, _⟩ := HA9.out.O.cells
    clear hT9 k0 k1
    go_wp2_with fail
    obtain ⟨q0, q1, q2, q3, q4, q5, q6⟩ := set7_at (v0 := .int .i64 (v0 : Int)) (v1 := .int .i64 (v1 : Int)) (v2 := .int .i64 (v2 : Int)) (v3 := .int .i64 (v3 : Int)) (v4 := .slice none 0 0) (v5 := .string ByteArray.empty) (v6 := .int .i64 (v4 : Int)) HA9.out.T
    have HAf := ((((((HA9.out.put 0 (.int .i64 (v0 : Int))).put 1 (.int .i64 (v1 : Int))).put 2 (.int .i64 (v2 : Int))).put 3 (.int .i64 (v3 : Int))).put 4 (.slice none 0 0)).put 5 (.string ByteArray.empty)).put 6 (.int .i64 (v4 : Int))
    generalize (((((((w8.setCell ⟨p, 2, none⟩ (.bool true)).setCell ⟨w.heap.size, 0, none⟩ (.int .i64 (v0 : Int))).setCell ⟨w.heap.size, 1, none⟩ (.int .i64 (v1 : Int))).setCell ⟨w.heap.size, 2, none⟩ (.int .i64 (v2 : Int))).setCell ⟨w.heap.size, 3, none⟩ (.int .i64 (v3 : Int))).setCell ⟨w.heap.size, 4, none⟩ (.slice none 0 0)).setCell ⟨w.heap.size, 5, none⟩ (.string ByteArray.empty)).setCell ⟨w.heap.size, 6, none⟩ (.int .i64 (v4 : Int)) = Wf at *
    refine bodyPost_ret (v := FeatV ⟨[v0, v1, v2, v3, v4], ByteArray.empty, []⟩ (.slice none 0 0)) (by simp [results, Try.results68, go_sem, q0, q1, q2, q3, q4, q5, q6, FeatV]) rfl ⟨_, _, o6, true, rfl, Row.no _ _, HAf.D, HAf.K, .inl ⟨rfl, HMN.out⟩⟩
end Go.Proofs.Ytcbpaockahkakaa
