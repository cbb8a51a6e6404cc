/- Several texts in one. -/
import Derived.Test.YtgpdpodagoligaaGreatVAnchors1
import Derived.Test.YtgpdpodagoligaaGreatVAnchors4
import Derived.Deep.RegionHeld3
import Derived.WalkKit

/- szPointS counts the points. -/

namespace Go.Proofs.YtgpdpodagoligaaGreat
open Go.RowKit
set_option linter.unusedSimpArgs false
set_option linter.unusedVariables false
end Go.Proofs.YtgpdpodagoligaaGreat
/- The law of FeatureFault: what it calls besides. -/

namespace Go.Proofs.YtgpdpodagoligaaGreat
open Go.RowKit
set_option linter.unusedSimpArgs false
set_option linter.unusedVariables false
set_option maxRecDepth 100000

/-- The value of a feature. -/
abbrev featV (id la ki wi : Int) (pts : Value) (lab : ByteArray) (pr : Int) : Value := .agg #[.int .i64 id, .int .i64 la, .int .i64 ki, .int .i64 wi, pts, .string lab, .int .i64 pr]

theorem PtsAt.store {W : World} {b off n : Nat} {X Y : Nat → Int} (h : PtsAt W b off n X Y) {r o : Nat} {v : Value} (hne : r ≠ b) : PtsAt (W.setCell ⟨r, o, none⟩ v) b off n X Y := fun i hi => by
  obtain ⟨h1, h2⟩ := h i hi
  refine ⟨?_, ?_⟩
  · rw [World.cell?_setCell_other]
    · exact h1
    · simp [hne]
  · rw [World.cell?_setCell_other]
    · exact h2
    · simp [hne]

theorem There.store {W : World} {b n : Nat} (h : There W b n) {r o : Nat} {v : Value} (hne : r ≠ b) : There (W.setCell ⟨r, o, none⟩ v) b n := fun i hi => by
  obtain ⟨u, hu⟩ := (h i hi).1
  refine ⟨⟨u, ?_⟩, by rw [World.frozen?_setCell]; exact (h i hi).2⟩
  rw [World.cell?_setCell_other]
  · exact hu
  · simp [hne]
/-- What is left behind a feature; -1: nothing. -/
def szF (left n s : Nat) : Int := if left < n + s then -1 else (left : Int) - (n : Int) - (s : Int)
end Go.Proofs.YtgpdpodagoligaaGreat
/- Two stores, read back. -/

namespace Go.Proofs.YtgpdpodagoligaaGreat
open Go.RowKit
theorem set1_other {W : World} {a p : Addr} {u : Value} (h : a ≠ p) : (W.setCell a u).cell? p = W.cell? p := World.cell?_setCell_other _ _ _ _ h
theorem set1_same {W : World} {a : Addr} {u x : Value} (h : W.cell? a = some x) : (W.setCell a u).cell? a = some u := World.cell?_setCell_same _ _ _ h
theorem set2_other {W : World} {a a' p : Addr} {u v : Value} (h : a ≠ p) (h' : a' ≠ p) : ((W.setCell a u).setCell a' v).cell? p = W.cell? p := by
  rw [set1_other h', set1_other h]
theorem set2_at {W : World} {r i j : Nat} {u v : Value} (hij : i ≠ j) (h0 : (W.cell? ⟨r, i, none⟩).isSome = true) (h1 : (W.cell? ⟨r, j, none⟩).isSome = true) :
    ((W.setCell ⟨r, i, none⟩ u).setCell ⟨r, j, none⟩ v).cell? ⟨r, i, none⟩ = some u ∧ ((W.setCell ⟨r, i, none⟩ u).setCell ⟨r, j, none⟩ v).cell? ⟨r, j, none⟩ = some v := by
  obtain ⟨x, hx⟩ := Option.isSome_iff_exists.1 h0
  obtain ⟨y, hy⟩ := Option.isSome_iff_exists.1 h1
  have n1 : (⟨r, i, none⟩ : Addr) ≠ ⟨r, j, none⟩ := fun h => hij (by injection h)
  have n2 : (⟨r, j, none⟩ : Addr) ≠ ⟨r, i, none⟩ := fun h => n1 h.symm
  refine ⟨?_, ?_⟩
  · rw [set1_other n2]; exact set1_same hx
  · exact set1_same (by rw [set1_other n1]; exact hy)
/-- Four stores into one block, read back. -/
theorem set4_at {W : World} {r : Nat} {a b c d : Value} (hT : There W r 4) :
    ((((W.setCell ⟨r, 0, none⟩ a).setCell ⟨r, 1, none⟩ b).setCell ⟨r, 2, none⟩ c).setCell ⟨r, 3, none⟩ d).cell? ⟨r, 0, none⟩ = some a ∧
    ((((W.setCell ⟨r, 0, none⟩ a).setCell ⟨r, 1, none⟩ b).setCell ⟨r, 2, none⟩ c).setCell ⟨r, 3, none⟩ d).cell? ⟨r, 1, none⟩ = some b ∧
    ((((W.setCell ⟨r, 0, none⟩ a).setCell ⟨r, 1, none⟩ b).setCell ⟨r, 2, none⟩ c).setCell ⟨r, 3, none⟩ d).cell? ⟨r, 2, none⟩ = some c ∧
    ((((W.setCell ⟨r, 0, none⟩ a).setCell ⟨r, 1, none⟩ b).setCell ⟨r, 2, none⟩ c).setCell ⟨r, 3, none⟩ d).cell? ⟨r, 3, none⟩ = some d := by
  obtain ⟨x0, h0⟩ := (hT 0 (by omega)).1
  obtain ⟨x1, h1⟩ := (hT 1 (by omega)).1
  obtain ⟨x2, h2⟩ := (hT 2 (by omega)).1
  obtain ⟨x3, h3⟩ := (hT 3 (by omega)).1
  have ne : ∀ i j : Nat, i ≠ j → (⟨r, i, none⟩ : Addr) ≠ ⟨r, j, none⟩ := fun i j hij h => hij (by injection h)
  refine ⟨?_, ?_, ?_, ?_⟩
  · rw [set1_other (ne 3 0 (by omega)), set1_other (ne 2 0 (by omega)), set1_other (ne 1 0 (by omega))]; exact set1_same h0
  · rw [set1_other (ne 3 1 (by omega)), set1_other (ne 2 1 (by omega))]; exact set1_same (by rw [set1_other (ne 0 1 (by omega))]; exact h1)
  · rw [set1_other (ne 3 2 (by omega))]; exact set1_same (by rw [set1_other (ne 1 2 (by omega)), set1_other (ne 0 2 (by omega))]; exact h2)
  · exact set1_same (by rw [set1_other (ne 2 3 (by omega)), set1_other (ne 1 3 (by omega)), set1_other (ne 0 3 (by omega))]; exact h3)
end Go.Proofs.YtgpdpodagoligaaGreat
/- Lists of features: how they lie in memory; the copy of a list; its size. -/

namespace Go.Proofs.YtgpdpodagoligaaGreat
open Go.RowKit
set_option linter.unusedSimpArgs false
set_option linter.unusedVariables false
set_option maxRecDepth 100000

/-- A feature as it lies: its numbers, where its points are, its points, its label. -/
structure Feat where
  id : Int
  la : Int
  ki : Int
  wi : Int
  a : Option Addr
  n : Nat
  cap : Nat
  X : Nat → Int
  Y : Nat → Int
  lab : ByteArray
  pr : Int
/-- From the address on lie n features. -/
def FsAt (w : World) (b off n : Nat) (F : Nat → Feat) : Prop :=
  ∀ i, i < n → FeatAt w b (off + i * 7) (F i).id (F i).la (F i).ki (F i).wi (.slice (F i).a (F i).n (F i).cap) (F i).lab (F i).pr ∧ IsPts w (F i).a (F i).n (F i).X (F i).Y
theorem FsAt.below {w w' : World} {b off n : Nat} {F : Nat → Feat} (h : FsAt w b off n F) (hb : Below w.heap.size w w') (hl : b < w.heap.size) : FsAt w' b off n F := fun i hi =>
  ⟨(h i hi).1.below hb hl, (h i hi).2.below hb⟩
def IsFs (w : World) (a : Option Addr) (n : Nat) (F : Nat → Feat) : Prop := n = 0 ∨ ∃ b off, a = some ⟨b, off, none⟩ ∧ b < w.heap.size ∧ FsAt w b off n F
theorem IsFs.below {w w' : World} {a : Option Addr} {n : Nat} {F : Nat → Feat} (h : IsFs w a n F) (hb : Below w.heap.size w w') : IsFs w' a n F := by
  rcases h with h | ⟨b, off, e, hl, hp⟩
  · exact .inl h
  · exact .inr ⟨b, off, e, Nat.lt_of_lt_of_le hl hb.size, hp.below hb hl⟩
/-- The same feature, wherever its points lie. -/
def Feat.same (f g : Feat) : Prop := f.id = g.id ∧ f.la = g.la ∧ f.ki = g.ki ∧ f.wi = g.wi ∧ f.n = g.n ∧ f.X = g.X ∧ f.Y = g.Y ∧ f.lab = g.lab ∧ f.pr = g.pr
/-- A list of its own: block b, and each feature's points in a block of their own, from B on. -/
def OwnFs (w : World) (B b n : Nat) (F G : Nat → Feat) : Prop :=
  B ≤ b ∧ b < w.heap.size ∧ FsAt w b 0 n G ∧ ∀ i, i < n → (G i).same (F i) ∧ ∃ q, (G i).a = some ⟨q, 0, none⟩ ∧ (G i).cap = (G i).n ∧ q ≠ b ∧ B ≤ q ∧ q < w.heap.size ∧ PtsAt w q 0 (G i).n (G i).X (G i).Y
theorem OwnFs.below {w w' : World} {B b n : Nat} {F G : Nat → Feat} (h : OwnFs w B b n F G) (hb : Below w.heap.size w w') : OwnFs w' B b n F G := by
  obtain ⟨h1, h2, h3, h4⟩ := h
  refine ⟨h1, Nat.lt_of_lt_of_le h2 hb.size, h3.below hb h2, fun i hi => ?_⟩
  obtain ⟨e, q, e1, e2, e3, e4, e5, e6⟩ := h4 i hi
  exact ⟨e, q, e1, e2, e3, e4, Nat.lt_of_lt_of_le e5 hb.size, e6.below hb e5⟩

/-- Seven stores: a feature is laid. -/
def lay7 (W : World) (B o : Nat) (f : Feat) : World := (((((((W.setCell ⟨B, o, none⟩ (.int .i64 f.id)).setCell ⟨B, o + 1, none⟩ (.int .i64 f.la)).setCell ⟨B, o + 2, none⟩ (.int .i64 f.ki)).setCell ⟨B, o + 3, none⟩ (.int .i64 f.wi)).setCell ⟨B, o + 4, none⟩ (.slice f.a f.n f.cap)).setCell ⟨B, o + 5, none⟩ (.string f.lab)).setCell ⟨B, o + 6, none⟩ (.int .i64 f.pr))

theorem lay7_other {W : World} {B o : Nat} {f : Feat} {p : Addr} (h : p.block ≠ B ∨ p.off < o ∨ o + 6 < p.off) : (lay7 W B o f).cell? p = W.cell? p := by
  have ne : ∀ k : Nat, k ≤ 6 → (⟨B, o + k, none⟩ : Addr) ≠ p := fun k hk e => by subst e; simp at h; omega
  have ne0 : (⟨B, o, none⟩ : Addr) ≠ p := ne 0 (by omega)
  unfold lay7
  rw [set1_other (ne 6 (by omega)), set1_other (ne 5 (by omega)), set1_other (ne 4 (by omega)), set1_other (ne 3 (by omega)), set1_other (ne 2 (by omega)), set1_other (ne 1 (by omega)), set1_other ne0]
theorem lay7_there {W : World} {B o m : Nat} {f : Feat} (h : There W B m) : There (lay7 W B o f) B m := by
  unfold lay7
  exact ((((((h.set _ _).set _ _).set _ _).set _ _).set _ _).set _ _).set _ _
theorem lay7_at {W : World} {B o m : Nat} {f : Feat} (h : There W B m) (ho : o + 6 < m) : FeatAt (lay7 W B o f) B o f.id f.la f.ki f.wi (.slice f.a f.n f.cap) f.lab f.pr := by
  have ne : ∀ i j : Nat, i ≠ j → (⟨B, i, none⟩ : Addr) ≠ ⟨B, j, none⟩ := fun i j hij h => hij (by injection h)
  obtain ⟨u0, g0⟩ := (h (o) (by omega)).1
  obtain ⟨u1, g1⟩ := ((h.set (o) (.int .i64 f.id)) (o + 1) (by omega)).1
  obtain ⟨u2, g2⟩ := (((h.set (o) (.int .i64 f.id)).set (o + 1) (.int .i64 f.la)) (o + 2) (by omega)).1
  obtain ⟨u3, g3⟩ := ((((h.set (o) (.int .i64 f.id)).set (o + 1) (.int .i64 f.la)).set (o + 2) (.int .i64 f.ki)) (o + 3) (by omega)).1
  obtain ⟨u4, g4⟩ := (((((h.set (o) (.int .i64 f.id)).set (o + 1) (.int .i64 f.la)).set (o + 2) (.int .i64 f.ki)).set (o + 3) (.int .i64 f.wi)) (o + 4) (by omega)).1
  obtain ⟨u5, g5⟩ := ((((((h.set (o) (.int .i64 f.id)).set (o + 1) (.int .i64 f.la)).set (o + 2) (.int .i64 f.ki)).set (o + 3) (.int .i64 f.wi)).set (o + 4) (.slice f.a f.n f.cap)) (o + 5) (by omega)).1
  obtain ⟨u6, g6⟩ := (((((((h.set (o) (.int .i64 f.id)).set (o + 1) (.int .i64 f.la)).set (o + 2) (.int .i64 f.ki)).set (o + 3) (.int .i64 f.wi)).set (o + 4) (.slice f.a f.n f.cap)).set (o + 5) (.string f.lab)) (o + 6) (by omega)).1
  unfold lay7
  refine ⟨?_, ?_, ?_, ?_, ?_, ?_, ?_⟩
  · rw [set1_other (ne _ _ (by omega)), set1_other (ne _ _ (by omega)), set1_other (ne _ _ (by omega)), set1_other (ne _ _ (by omega)), set1_other (ne _ _ (by omega)), set1_other (ne _ _ (by omega))]; exact set1_same g0
  · rw [set1_other (ne _ _ (by omega)), set1_other (ne _ _ (by omega)), set1_other (ne _ _ (by omega)), set1_other (ne _ _ (by omega)), set1_other (ne _ _ (by omega))]; exact set1_same g1
  · rw [set1_other (ne _ _ (by omega)), set1_other (ne _ _ (by omega)), set1_other (ne _ _ (by omega)), set1_other (ne _ _ (by omega))]; exact set1_same g2
  · rw [set1_other (ne _ _ (by omega)), set1_other (ne _ _ (by omega)), set1_other (ne _ _ (by omega))]; exact set1_same g3
  · rw [set1_other (ne _ _ (by omega)), set1_other (ne _ _ (by omega))]; exact set1_same g4
  · rw [set1_other (ne _ _ (by omega))]; exact set1_same g5
  · exact set1_same g6
theorem lay7_size (W : World) (B o : Nat) (f : Feat) : (lay7 W B o f).heap.size = W.heap.size := by unfold lay7; simp
theorem lay7_below {V W : World} {n B o : Nat} {f : Feat} (h : Below n V W) (hB : n ≤ B) : Below n V (lay7 W B o f) := by
  unfold lay7
  exact ((((((h.setCell hB _).setCell hB _).setCell hB _).setCell hB _).setCell hB _).setCell hB _).setCell hB _
theorem PtsAt.lay {W : World} {b off n : Nat} {X Y : Nat → Int} (h : PtsAt W b off n X Y) {B o : Nat} {f : Feat} (hne : B ≠ b) : PtsAt (lay7 W B o f) b off n X Y := by
  unfold lay7
  exact ((((((h.store hne).store hne).store hne).store hne).store hne).store hne).store hne

theorem info_if : (Tryz.prog.info? 26).map (fun i => (i.zero, i.size, i.bytes)) = some (some (.agg #[.int .i64 0, .int .i64 0, .int .i64 0, .int .i64 0, .slice none 0 0, .string ⟨#[]⟩, .int .i64 0]), 7, 80) := by kernel_rfl
abbrev zeroF : Array Value := #[.int .i64 0, .int .i64 0, .int .i64 0, .int .i64 0, .slice none 0 0, .string ⟨#[]⟩, .int .i64 0]
theorem make_feats (n : Nat) (h : n ≤ 1048576) (w : World) :
    (Instr.makeSlice 39 (.int .i64 (n : Int)) (.int .i64 (n : Int))).run Tryz.prog w = .ok (.slice (some ⟨w.heap.size, 0, none⟩) n n) (w.alloc (.cells (madeCells zeroF (n * 7)) 26)) := by
  obtain ⟨i, hi, hz, hs, hb⟩ := info_parts info_if
  have hr := run_make (P := Tryz.prog) w 39 26 i _ Tryz.underlying39 hi hz .i64 .i64 (n : Int) (n : Int) (by omega) (Int.le_refl _) (by rw [hb]; omega) (by omega)
  simp only [Int.toNat_natCast, hs] at hr
  exact hr
theorem there_madeF (n : Nat) (w : World) (t : TypeId) : There (w.alloc (.cells (madeCells zeroF n) t)) w.heap.size n := fun o ho => by
  have hz := size_madeCells zeroF n
  refine ⟨⟨(madeCells zeroF n)[o]'(by rw [hz]; exact ho), ?_⟩, World.frozen?_alloc_at _ _ _ _ rfl⟩
  rw [World.cell?_alloc_at _ _ _ _ rfl]
  exact Array.getElem?_eq_getElem _

theorem own_lay {W : World} {B n k q : Nat} {F G : Nat → Feat} (h : OwnFs W B B k F G) (hT : There W B (n * 7)) (hk : k < n) (hqB : B ≤ q) (hq : q < W.heap.size) (hp : PtsAt W q 0 (F k).n (F k).X (F k).Y) (hne : q ≠ B) :
    OwnFs (lay7 W B (k * 7) { F k with a := some ⟨q, 0, none⟩, cap := (F k).n }) B B (k + 1) F (fun i => if i = k then { F k with a := some ⟨q, 0, none⟩, cap := (F k).n } else G i) := by
  obtain ⟨h1, h2, h3, h4⟩ := h
  refine ⟨h1, by rw [lay7_size]; exact h2, fun i hi => ?_, fun i hi => ?_⟩
  · by_cases e : i = k
    · subst e
      simp only [if_pos, Nat.zero_add]
      refine ⟨lay7_at hT (by omega), .inr ⟨q, 0, rfl, by rw [lay7_size]; exact hq, hp.lay (fun h => hne h.symm)⟩⟩
    · simp only [if_neg e]
      obtain ⟨c, ip⟩ := h3 i (by omega)
      obtain ⟨_, q', e1, e2, e3, e4, e5, e6⟩ := h4 i (by omega)
      refine ⟨?_, ?_⟩
      · obtain ⟨c0, c1, c2, c3, c4, c5, c6⟩ := c
        refine ⟨?_, ?_, ?_, ?_, ?_, ?_, ?_⟩ <;> (rw [lay7_other (by right; left; simp; omega)]; assumption)
      · exact .inr ⟨q', 0, e1, by rw [lay7_size]; exact e5, e6.lay (fun h => e3 h.symm)⟩
  · by_cases e : i = k
    · subst e
      simp only [if_pos]
      exact ⟨⟨rfl, rfl, rfl, rfl, rfl, rfl, rfl, rfl, rfl⟩, q, by first | rfl | trivial, by first | trivial | rfl, hne, hqB, by rw [lay7_size]; exact hq, hp.lay (fun h => hne h.symm)⟩
    · simp only [if_neg e]
      obtain ⟨sm, q', e1, e2, e3, e4, e5, e6⟩ := h4 i (by omega)
      exact ⟨sm, q', e1, e2, e3, e4, by rw [lay7_size]; exact e5, e6.lay (fun h => e3 h.symm)⟩

end Go.Proofs.YtgpdpodagoligaaGreat
/- Lists of features: their size, whether two are the same, their fault. -/

namespace Go.Proofs.YtgpdpodagoligaaGreat
open Go.RowKit
set_option linter.unusedSimpArgs false
set_option linter.unusedVariables false
set_option maxRecDepth 100000

/-- No feature of the list is greater than what may be asked. -/
def SmallFs (n : Nat) (F : Nat → Feat) : Prop := n ≤ 1048576 ∧ ∀ i, i < n → (F i).n ≤ 1048576 ∧ (F i).lab.size ≤ 1048576
/-- What came in: each slice and each text within its bounds. -/
def CameFs (n : Nat) (F : Nat → Feat) : Prop := n ≤ maxLen ∧ ∀ i, i < n → (F i).n ≤ maxLen ∧ (F i).lab.size ≤ maxLen

theorem szF_cases (left n s : Nat) (hl : left ≤ 1048576) : szF left n s = -1 ∨ ∃ m : Nat, szF left n s = (m : Int) ∧ m ≤ left ∧ n ≤ 1048576 ∧ s ≤ 1048576 := by
  unfold szF
  by_cases h : left < n + s
  · left; rw [if_pos h]
  · right; rw [if_neg h]; exact ⟨left - n - s, by omega, by omega, by omega, by omega⟩

set_option maxHeartbeats 4000000 in
theorem hasId_any (b n cap N : Nat) (G : Nat → Feat) (t : Int) (w : World) (hnN : n ≤ N) (hg : FsAt w b 0 N G) (hbl : b < w.heap.size) (hn : n ≤ 1048576) :
    Calls Tryz.prog 73 #[.slice (some ⟨b, 0, none⟩) n cap, .int .i64 t] w fun e w' => ((e = .returned (.bool true) ∧ ∃ j, j < n ∧ (G j).id = t) ∨ (e = .returned (.bool false) ∧ ∀ j, j < n → (G j).id ≠ t)) ∧ Below w.heap.size w w' := by
  have HG : Hid (FsAt w b 0 N G) := hg
  clear hg
  go_enter Tryz.func73, Tryz.ntmps73
  go_wp2
  go_loopw [9] (fun v wr => ∃ k : Nat, k ≤ n ∧ v = .int .i64 k ∧ (∀ j, j < k → (G j).id ≠ t) ∧ Below w.heap.size w wr) (fun v _ => n - (intOf v).toNat)
  case atStart => exact ⟨0, by omega, rfl, by omega, Below.refl _ _⟩
  case round =>
    obtain ⟨k, hk, rfl, hA, hB⟩ := hrel
    have HB : Hid (Below w.heap.size w wr) := hB
    have HA : Hid (∀ j, j < k → (G j).id ≠ t) := hA
    by_cases hlt : k < n
    · obtain ⟨⟨f0, f1, f2, f3, f4, f5, f6⟩, _⟩ := (HG.out.below hB hbl) k (by omega)
      simp only [Nat.zero_add] at f0 f1 f2 f3 f4 f5 f6
      clear hB hA
      have hi : (k : Int) < (n : Int) := by omega
      have hi0 : (0 : Int) ≤ (k : Int) := by omega
      by_cases he : (G k).id = t
      · have he' : ((G k).id == t) = true := by simpa using he
        have HE : Hid ((G k).id = t) := he
        clear he
        go_wp2
        go_ret
        exact ⟨.inl ⟨rfl, k, hlt, HE.out⟩, by have HB' := HB.out; (repeat (first | exact Below.refl _ _ | assumption | refine Below.drew ?_ | refine bl_alloc ?_ _ | refine bl_then ?_ (by assumption) | refine Below.setCell ?_ (by first | omega | (simp; done) | (simp; omega)) _ | refine bl_store ?_ ?_ _ _))⟩
      · have he' : ((G k).id == t) = false := by simpa using he
        have HE : Hid ((G k).id ≠ t) := he
        clear he
        go_wp2
        go_roundw
        case rel => exact ⟨k + 1, by omega, by go_num, fun j hj => by
            by_cases e : j = k
            · rw [e]; exact HE.out
            · exact HA.out j (by omega), by have HB' := HB.out; (repeat (first | exact Below.refl _ _ | assumption | refine Below.drew ?_ | refine bl_alloc ?_ _ | refine bl_then ?_ (by assumption) | refine Below.setCell ?_ (by first | omega | (simp; done) | (simp; omega)) _ | refine bl_store ?_ ?_ _ _))⟩
        case measure => simp [intOf]; omega
    · go_wp2
      go_ret
      exact ⟨.inr ⟨rfl, fun j hj => hA j (by omega)⟩, hB⟩
end Go.Proofs.YtgpdpodagoligaaGreat
/- The first of a list of codes that is not 0. -/

namespace Go.Proofs.YtgpdpodagoligaaGreat
/-- The first that is not 0. -/
def scanC (c : Nat → Int) : Nat → Nat → Int
  | _, 0 => 0
  | i, k + 1 => if c i ≠ 0 then c i else scanC c (i + 1) k
theorem scan_first (c : Nat → Int) : ∀ (m i k : Nat), (∀ j, i ≤ j → j < k → c j = 0) → i ≤ k → k < i + m → c k ≠ 0 → scanC c i m = c k
  | 0, i, k, _, h1, h2, _ => by omega
  | m + 1, i, k, h, h1, h2, hne => by
    rw [scanC]
    by_cases e : i = k
    · subst e; rw [if_pos hne]
    · rw [if_neg (by rw [h i (Nat.le_refl _) (by omega)]; simp)]
      exact scan_first c m (i + 1) k (fun j hj => h j (by omega)) (by omega) (by omega) hne
theorem scan_none (c : Nat → Int) : ∀ (m i : Nat), (∀ j, i ≤ j → j < i + m → c j = 0) → scanC c i m = 0
  | 0, _, _ => rfl
  | m + 1, i, h => by
    rw [scanC, if_neg (by rw [h i (Nat.le_refl _) (by omega)]; simp)]
    exact scan_none c m (i + 1) (fun j hj hj' => h j (by omega) (by omega))
theorem scan_congr (c d : Nat → Int) : ∀ (m i : Nat), (∀ j, i ≤ j → j < i + m → c j = d j) → scanC c i m = scanC d i m
  | 0, _, _ => rfl
  | m + 1, i, h => by
    rw [scanC, scanC, h i (Nat.le_refl _) (by omega), scan_congr c d m (i + 1) (fun j hj hj' => h j (by omega) (by omega))]
theorem scan_zero (c : Nat → Int) : ∀ (m i : Nat), scanC c i m = 0 → ∀ j, i ≤ j → j < i + m → c j = 0
  | 0, i, _, j, h1, h2 => by omega
  | m + 1, i, h, j, h1, h2 => by
    rw [scanC] at h
    by_cases hc : c i ≠ 0
    · rw [if_pos hc] at h; exact absurd h hc
    · rw [if_neg hc] at h
      by_cases e : j = i
      · subst e; simpa using hc
      · exact scan_zero c m (i + 1) h j (by omega) (by omega)
end Go.Proofs.YtgpdpodagoligaaGreat
/- The fault of a list of features: the program and the model. -/

namespace Go.Proofs.YtgpdpodagoligaaGreat
open Go.RowKit
set_option linter.unusedSimpArgs false
set_option linter.unusedVariables false
set_option maxRecDepth 100000

/-- What is not right of one feature of a list. -/
noncomputable def codeAt (G : Nat → Feat) (i : Nat) : Int := by
  classical exact if featC (G i).id (G i).la (G i).ki (G i).wi (G i).n (G i).X (G i).Y (G i).lab (G i).pr ≠ 0 then featC (G i).id (G i).la (G i).ki (G i).wi (G i).n (G i).X (G i).Y (G i).lab (G i).pr else if ∃ j, j < i ∧ (G j).id = (G i).id then 6 else 0
noncomputable def featsC (n : Nat) (G : Nat → Feat) : Int := if 12 < n then 2 else scanC (codeAt G) 0 n
theorem codeAt_fault {G : Nat → Feat} {i : Nat} (h : featC (G i).id (G i).la (G i).ki (G i).wi (G i).n (G i).X (G i).Y (G i).lab (G i).pr ≠ 0) : codeAt G i = featC (G i).id (G i).la (G i).ki (G i).wi (G i).n (G i).X (G i).Y (G i).lab (G i).pr := by unfold codeAt; rw [if_pos h]
theorem codeAt_taken {G : Nat → Feat} {i : Nat} (h : featC (G i).id (G i).la (G i).ki (G i).wi (G i).n (G i).X (G i).Y (G i).lab (G i).pr = 0) (h2 : ∃ j, j < i ∧ (G j).id = (G i).id) : codeAt G i = 6 := by unfold codeAt; rw [if_neg (by simp [h]), if_pos h2]
theorem codeAt_ok {G : Nat → Feat} {i : Nat} (h : featC (G i).id (G i).la (G i).ki (G i).wi (G i).n (G i).X (G i).Y (G i).lab (G i).pr = 0) (h2 : ¬ ∃ j, j < i ∧ (G j).id = (G i).id) : codeAt G i = 0 := by unfold codeAt; rw [if_neg (by simp [h]), if_neg h2]
theorem codeAt_same {G H : Nat → Feat} {n i : Nat} (h : ∀ j, j < n → (G j).same (H j)) (hi : i < n) : codeAt G i = codeAt H i := by
  obtain ⟨s1, s2, s3, s4, s5, s6, s7, s8, s9⟩ := h i hi
  have e : (∃ j, j < i ∧ (G j).id = (G i).id) ↔ (∃ j, j < i ∧ (H j).id = (H i).id) := by
    constructor
    · rintro ⟨j, hj, e⟩; exact ⟨j, hj, by rw [← (h j (by omega)).1, ← s1]; exact e⟩
    · rintro ⟨j, hj, e⟩; exact ⟨j, hj, by rw [(h j (by omega)).1, s1]; exact e⟩
  unfold codeAt
  rw [s1, s2, s3, s4, s5, s6, s7, s8, s9]
  rw [s1] at e
  simp only [e]
theorem featsC_same {G H : Nat → Feat} {n : Nat} (h : ∀ j, j < n → (G j).same (H j)) : featsC n G = featsC n H := by
  unfold featsC
  rw [scan_congr (codeAt G) (codeAt H) n 0 (fun j _ hj => codeAt_same h (by omega))]

end Go.Proofs.YtgpdpodagoligaaGreat
