/- Several texts in one. -/
import Derived.Test.YthidgolnajggpaaGreatVNearestIn7
import Derived.Laws.OwnMore
import Derived.Test.YthidgolnajggpaaGreatVNearestIn9
import Derived.Test.YthidgolnajggpaaGreatVNearestIn24
import Derived.Test.YthidgolnajggpaaGreatVNearestIn1
import Derived.Test.YthidgolnajggpaaGreatRows
import Derived.WalkSpells
import Derived.WalkLawsBesides
import Derived.Outline
import Derived.Laws.IdiomStrings
import Derived.Test.YthidgolnajggpaaGreatVNearestIn22

/- Which blocks are written, and what stays. -/

namespace Go.Proofs.YthidgolnajggpaaGreat
open Go.RowKit
set_option linter.unusedSimpArgs false
set_option linter.unusedVariables false
set_option maxRecDepth 100000

/-- Only blocks from lo to hi are written. -/
structure MidB (lo hi : Nat) (w w' : World) : Prop where
  os : w'.os = w.os
  tape : w'.tape = w.tape
  output : w'.output = w.output
  size : w.heap.size ≤ w'.heap.size
  block : ∀ k, k < w.heap.size → (k < lo ∨ hi ≤ k) → w'.heap[k]? = w.heap[k]?
theorem MidB.refl (lo hi : Nat) (w : World) : MidB lo hi w w := ⟨rfl, rfl, rfl, Nat.le_refl _, fun _ _ _ => rfl⟩
theorem MidB.trans {lo hi : Nat} {a b c : World} (h : MidB lo hi a b) (k : MidB lo hi b c) : MidB lo hi a c :=
  ⟨k.os.trans h.os, k.tape.trans h.tape, k.output.trans h.output, Nat.le_trans h.size k.size, fun i hi ho => (k.block i (Nat.lt_of_lt_of_le hi h.size) ho).trans (h.block i hi ho)⟩
theorem MidB.of_grown {lo hi s : Nat} {a b : World} (h : a.grownBy b (some s)) (h1 : lo ≤ s) (h2 : s < hi) : MidB lo hi a b :=
  ⟨h.os, h.tape, h.output, h.size, fun j hj ho => h.block j hj (fun e => by injection e with e; omega)⟩
theorem MidB.set {lo hi s : Nat} {a b : World} (h : MidB lo hi a b) (h1 : lo ≤ s) (h2 : s < hi) (o : Nat) (v : Value) : MidB lo hi a (b.setCell ⟨s, o, none⟩ v) :=
  h.trans ⟨rfl, rfl, rfl, by simp [World.setCell], fun j _ ho => Below.heap_setCell _ _ _ _ (fun e => by simp at e; omega)⟩
theorem MidB.below {lo hi : Nat} {a b : World} (h : MidB lo hi a b) (hl : lo ≤ a.heap.size) : Below lo a b := ⟨h.os, h.tape, h.output, h.size, fun k hk => h.block k (by omega) (.inl hk)⟩
theorem MidB.cell {lo hi : Nat} {a b : World} (h : MidB lo hi a b) {p o : Nat} {v : Value} (hc : a.cell? ⟨p, o, none⟩ = some v) (ho : p < lo ∨ hi ≤ p) : b.cell? ⟨p, o, none⟩ = some v := by
  have hp := World.block_lt_of_cell? _ _ hc
  have he := h.block p hp ho
  unfold World.cell? at hc ⊢
  simp only [he]
  exact hc
end Go.Proofs.YthidgolnajggpaaGreat
/- Which blocks are written, and what stays. -/

namespace Go.Proofs.YthidgolnajggpaaGreat
open Go.RowKit
set_option linter.unusedSimpArgs false
set_option linter.unusedVariables false
set_option maxRecDepth 100000

theorem There.grown {w w' : World} {p n s : Nat} (h : There w p n) (hg : w.grownBy w' (some s)) (hs : p ≠ s) : There w' p n := fun o hn => by
  obtain ⟨v, hv⟩ := (h o hn).1
  refine ⟨⟨v, gr_cell hg hv hs⟩, ?_⟩
  have he := hg.block p (World.block_lt_of_cell? _ _ hv) (fun e => hs (by injection e))
  have hz := (h o hn).2
  unfold World.frozen? at hz ⊢
  simp only [he]
  exact hz
end Go.Proofs.YthidgolnajggpaaGreat
/- Lists of features in memory of their own: which blocks are written, and what stays. -/

namespace Go.Proofs.YthidgolnajggpaaGreat
open Go.RowKit
set_option linter.unusedSimpArgs false
set_option linter.unusedVariables false
set_option maxRecDepth 100000

end Go.Proofs.YthidgolnajggpaaGreat
/- The text of a mark: the same for the same number. -/

namespace Go.Proofs.YthidgolnajggpaaGreat
open Go.RowKit
set_option linter.unusedSimpArgs false
set_option linter.unusedVariables false
set_option maxRecDepth 100000

end Go.Proofs.YthidgolnajggpaaGreat
/- Lists of features in memory of their own are marked, and the marks are found again. -/

namespace Go.Proofs.YthidgolnajggpaaGreat
open Go.RowKit
set_option linter.unusedSimpArgs false
set_option linter.unusedVariables false
set_option maxRecDepth 100000

end Go.Proofs.YthidgolnajggpaaGreat
/- The copy of a list of features is its own: no two of its blocks are alike. -/

namespace Go.Proofs.YthidgolnajggpaaGreat
open Go.RowKit
set_option linter.unusedSimpArgs false
set_option linter.unusedVariables false
set_option maxRecDepth 100000

end Go.Proofs.YthidgolnajggpaaGreat
/- A list of features in memory of its own is marked, and the marks are found again: the walks. -/

namespace Go.Proofs.YthidgolnajggpaaGreat
open Go.RowKit
set_option linter.unusedSimpArgs false
set_option linter.unusedVariables false
set_option maxRecDepth 100000

end Go.Proofs.YthidgolnajggpaaGreat
/- Tiles that come in: measured, copied, compared. -/

namespace Go.Proofs.YthidgolnajggpaaGreat
open Go.RowKit
set_option linter.unusedSimpArgs false
set_option linter.unusedVariables false
set_option maxRecDepth 100000

abbrev tileV (z x y : Int) (v : Value) : Value := .agg #[.int .i64 z, .int .i64 x, .int .i64 y, v]
theorem OwnFs.midB {w w' : World} {B C b n lo hi : Nat} {F G : Nat → Feat} (h : OwnFs w B b n F G) (hM : MidB lo hi w w') (hh : hi ≤ B) (hC : C ≤ B) : OwnFs w' C b n F G := by
  obtain ⟨h1, h2, h3, h4⟩ := h
  have hc : ∀ (p o : Nat) (u : Value), B ≤ p → w.cell? ⟨p, o, none⟩ = some u → w'.cell? ⟨p, o, none⟩ = some u := fun p o u hp e => hM.cell e (.inr (by omega))
  refine ⟨by omega, Nat.lt_of_lt_of_le h2 hM.size, fun i hi => ?_, fun i hi => ?_⟩
  · obtain ⟨⟨k0, k1, k2, k3, k4, k5, k6⟩, _⟩ := h3 i hi
    obtain ⟨_, q, ha, hcap, hq, hBq, hql, hp⟩ := h4 i hi
    refine ⟨⟨hc _ _ _ h1 k0, hc _ _ _ h1 k1, hc _ _ _ h1 k2, hc _ _ _ h1 k3, hc _ _ _ h1 k4, hc _ _ _ h1 k5, hc _ _ _ h1 k6⟩, ?_⟩
    exact .inr ⟨q, 0, ha, Nat.lt_of_lt_of_le hql hM.size, fun j hj => ⟨hc _ _ _ hBq (hp j hj).1, hc _ _ _ hBq (hp j hj).2⟩⟩
  · obtain ⟨hs, q, ha, hcap, hq, hBq, hql, hp⟩ := h4 i hi
    exact ⟨hs, q, ha, hcap, hq, by omega, Nat.lt_of_lt_of_le hql hM.size, fun j hj => ⟨hc _ _ _ hBq (hp j hj).1, hc _ _ _ hBq (hp j hj).2⟩⟩
theorem set3_atj {W : World} {r : Nat} {a b c x0 x1 x2 : Value} (h0 : W.cell? ⟨r, 0, none⟩ = some x0) (h1 : W.cell? ⟨r, 1, none⟩ = some x1) (h2 : W.cell? ⟨r, 2, none⟩ = some x2) :
    (((W.setCell ⟨r, 0, none⟩ a).setCell ⟨r, 1, none⟩ b).setCell ⟨r, 2, none⟩ c).cell? ⟨r, 0, none⟩ = some a ∧
    (((W.setCell ⟨r, 0, none⟩ a).setCell ⟨r, 1, none⟩ b).setCell ⟨r, 2, none⟩ c).cell? ⟨r, 1, none⟩ = some b ∧
    (((W.setCell ⟨r, 0, none⟩ a).setCell ⟨r, 1, none⟩ b).setCell ⟨r, 2, none⟩ c).cell? ⟨r, 2, none⟩ = some c := by
  have ne : ∀ i j : Nat, i ≠ j → (⟨r, i, none⟩ : Addr) ≠ ⟨r, j, none⟩ := fun i j hij h => hij (by injection h)
  refine ⟨?_, ?_, ?_⟩
  · rw [set1_other (ne 2 0 (by omega)), set1_other (ne 1 0 (by omega))]; exact set1_same h0
  · rw [set1_other (ne 2 1 (by omega))]; exact set1_same (by rw [set1_other (ne 0 1 (by omega))]; exact h1)
  · exact set1_same (by rw [set1_other (ne 1 2 (by omega)), set1_other (ne 0 2 (by omega))]; exact h2)
theorem There.otherJ {W : World} {r r' n o : Nat} {v : Value} (h : There W r n) (hr : r' ≠ r) : There (W.setCell ⟨r', o, none⟩ v) r n := fun o' ho => by
  obtain ⟨⟨u, hu⟩, hf⟩ := h o' ho
  exact ⟨⟨u, by rw [set1_other (fun e => hr (by injection e))]; exact hu⟩, by rw [World.frozen?_setCell]; exact hf⟩
theorem resTT (T : Array Value) (Wf : World) (r : Nat) (v0 v1 v2 v3 : Value) (hT : T[2]?.getD undef = .pointer (some ⟨r, 0, none⟩)) (h0 : Wf.cell? ⟨r, 0, none⟩ = some v0) (h1 : Wf.cell? ⟨r, 1, none⟩ = some v1) (h2 : Wf.cell? ⟨r, 2, none⟩ = some v2) (h3 : Wf.cell? ⟨r, 3, none⟩ = some v3) :
    (results Tryz.f16 T).run Tryz.prog Wf = .ok (.agg #[v0, v1, v2, v3]) Wf := by
  simp [results, Tryz.results16, go_sem, hT, h0, h1, h2, h3]
set_option maxHeartbeats 4000000 in
theorem toTile_any (z x y : Int) (a : Option Addr) (n cap : Nat) (F : Nat → Feat) (w : World) (hp : IsFs w a n F) (hmax : n ≤ 1048576) (hall : ∀ i, i < n → (F i).n ≤ 1048576) :
    Calls Tryz.prog 16 #[tileV z x y (.slice a n cap)] w fun e w' => ∃ b G, e = .returned (tileV z x y (.slice (some ⟨b, 0, none⟩) n n)) ∧ OwnFs w' w.heap.size b n F G ∧ Below w.heap.size w w' := by
  have HF : Hid (IsFs w a n F) := hp
  have HA : Hid (∀ i, i < n → (F i).n ≤ 1048576) := hall
  clear hp hall
  go_enter Tryz.func16, Tryz.ntmps16
  go_wp2_with fail
  generalize hW : (((w.alloc _).alloc _).alloc _ : World) = W
  have hB0 : Below w.heap.size w W := by subst hW; (repeat (first | exact Below.refl _ _ | assumption | refine Below.drew ?_ | refine bl_alloc ?_ _ | refine bl_then ?_ (by assumption) | refine Below.setCell ?_ (by first | omega | (simp; done) | (simp; omega)) _ | refine bl_store ?_ ?_ _ _))
  have HT : Hid (There W (w.heap.size + 1) 4) := by
    show There _ _ _
    subst hW
    have := (there4r (w.alloc (.cells #[.int .i64 z, .int .i64 x, .int .i64 y, .slice a n cap] 42)) (.int .i64 0) (.int .i64 0) (.int .i64 0) (.slice none 0 0) 49).below (bl_alloc (Below.refl _ _) (.cells #[.int .i64 0, .int .i64 0, .int .i64 0, .slice none 0 0] 49))
    simpa using this
  have HU : Hid (There W (w.heap.size + 1 + 1) 4) := by
    show There _ _ _
    subst hW
    have := there4r ((w.alloc (.cells #[.int .i64 z, .int .i64 x, .int .i64 y, .slice a n cap] 42)).alloc (.cells #[.int .i64 0, .int .i64 0, .int .i64 0, .slice none 0 0] 49)) (.int .i64 0) (.int .i64 0) (.int .i64 0) (.slice none 0 0) 49
    simpa using this
  have c3 : W.cell? ⟨w.heap.size, 3, none⟩ = some (.slice a n cap) := by subst hW; simp [go_sem]
  have hsz : w.heap.size + 1 + 1 < W.heap.size := by subst hW; simp
  clear hW
  refine (toRef_any _ _ _ _).mono ?_
  rintro e w1 ⟨rfl, hb1⟩
  have d3 : w1.cell? ⟨w.heap.size, 3, none⟩ = some (.slice a n cap) := bl_cell hb1 c3
  have HT1 : Hid (There w1 (w.heap.size + 1) 4) := HT.out.below hb1
  have HU1 : Hid (There w1 (w.heap.size + 1 + 1) 4) := HU.out.below hb1
  have hB1 : Below w.heap.size w w1 := bl_then hB0 hb1
  have hsz1 : w.heap.size + 1 + 1 < w1.heap.size := Nat.lt_of_lt_of_le hsz hb1.size
  clear c3 HT HU hB0 hb1 hsz
  have hT' := HU1.out
  have t0 := hT'.cell 0 (by omega)
  have t1 := hT'.cell 1 (by omega)
  have t2 := hT'.cell 2 (by omega)
  have t3 := hT'.cell 3 (by omega)
  have f0 := (hT' 0 (by omega)).2
  have f1 := (hT' 1 (by omega)).2
  have f2 := (hT' 2 (by omega)).2
  have f3 := (hT' 3 (by omega)).2
  clear hT'
  go_wp2_with fail
  generalize hW2 : (((w1.setCell ⟨w.heap.size + 1 + 1, 0, none⟩ (.int .i64 z)).setCell ⟨w.heap.size + 1 + 1, 1, none⟩ (.int .i64 x)).setCell ⟨w.heap.size + 1 + 1, 2, none⟩ (.int .i64 y)) = w2
  obtain ⟨g0, g1, g2⟩ : w2.cell? ⟨w.heap.size + 1 + 1, 0, none⟩ = some (.int .i64 z) ∧ w2.cell? ⟨w.heap.size + 1 + 1, 1, none⟩ = some (.int .i64 x) ∧ w2.cell? ⟨w.heap.size + 1 + 1, 2, none⟩ = some (.int .i64 y) := by
    rw [← hW2]
    exact set3_atj t0 t1 t2
  have HU2 : Hid (There w2 (w.heap.size + 1 + 1) 4) := by
    show There _ _ _
    rw [← hW2]
    exact ((HU1.out.set _ _).set _ _).set _ _
  have hM2 : MidB w.heap.size (w.heap.size + 1 + 1 + 1) w1 w2 := by
    rw [← hW2]
    exact (((MidB.refl _ _ _).set (by omega) (by omega) _ _).set (by omega) (by omega) _ _).set (by omega) (by omega) _ _
  have HT2 : Hid (There w2 (w.heap.size + 1) 4) := by
    show There _ _ _
    rw [← hW2]
    exact ((HT1.out.otherJ (by omega)).otherJ (by omega)).otherJ (by omega)
  have hB2 : Below w.heap.size w w2 := hB1.trans (hM2.below (by omega))
  have hsz2 : w.heap.size + 1 + 1 < w2.heap.size := Nat.lt_of_lt_of_le hsz1 hM2.size
  clear hW2 hM2 t0 t1 t2 t3 f0 f1 f2 f3 HU1 HT1 hB1 d3 hsz1
  refine (toFeatureS_any a n cap F _ (HF.out.below hB2) hmax HA.out).mono ?_
  rintro e w3 ⟨b, G, rfl, hO3, hb3⟩
  have k0 := bl_cell hb3 g0
  have k1 := bl_cell hb3 g1
  have k2 := bl_cell hb3 g2
  have hT3 := HT2.out.below hb3
  have hU3 := HU2.out.below hb3
  have hz3 := (hU3 3 (by omega)).2
  obtain ⟨u3, k3⟩ := (hU3 3 (by omega)).1
  have HO3 : Hid (OwnFs w3 w2.heap.size b n F G) := hO3
  have hsz3 : w.heap.size + 1 + 1 < w3.heap.size := Nat.lt_of_lt_of_le hsz2 hb3.size
  have HB3 : Hid (Below w.heap.size w w3) := bl_then hB2 hb3
  have hne : ∀ i j : Nat, i ≠ j → (⟨w.heap.size + 1 + 1, i, none⟩ : Addr) ≠ ⟨w.heap.size + 1 + 1, j, none⟩ := fun i j hij h => hij (by injection h)
  have i0 : (w3.setCell ⟨w.heap.size + 1 + 1, 3, none⟩ (.slice (some ⟨b, 0, none⟩) n n)).cell? ⟨w.heap.size + 1 + 1, 0, none⟩ = some (.int .i64 z) := by rw [set1_other (hne _ _ (by omega))]; exact k0
  have i1 : (w3.setCell ⟨w.heap.size + 1 + 1, 3, none⟩ (.slice (some ⟨b, 0, none⟩) n n)).cell? ⟨w.heap.size + 1 + 1, 1, none⟩ = some (.int .i64 x) := by rw [set1_other (hne _ _ (by omega))]; exact k1
  have i2 : (w3.setCell ⟨w.heap.size + 1 + 1, 3, none⟩ (.slice (some ⟨b, 0, none⟩) n n)).cell? ⟨w.heap.size + 1 + 1, 2, none⟩ = some (.int .i64 y) := by rw [set1_other (hne _ _ (by omega))]; exact k2
  have i3 : (w3.setCell ⟨w.heap.size + 1 + 1, 3, none⟩ (.slice (some ⟨b, 0, none⟩) n n)).cell? ⟨w.heap.size + 1 + 1, 3, none⟩ = some (.slice (some ⟨b, 0, none⟩) n n) := set1_same k3
  have HT4 : Hid (There (w3.setCell ⟨w.heap.size + 1 + 1, 3, none⟩ (.slice (some ⟨b, 0, none⟩) n n)) (w.heap.size + 1) 4) := hT3.otherJ (by omega)
  have hT' := HT4.out
  have t0 := hT'.cell 0 (by omega)
  have t1 := hT'.cell 1 (by omega)
  have t2 := hT'.cell 2 (by omega)
  have t3 := hT'.cell 3 (by omega)
  have f0 := (hT' 0 (by omega)).2
  have f1 := (hT' 1 (by omega)).2
  have f2 := (hT' 2 (by omega)).2
  have f3 := (hT' 3 (by omega)).2
  clear hT' g0 g1 g2 HT2 HU2 hB2 hO3 hb3 hT3 hU3 hne k0 k1 k2 HF HA
  go_wp2_with fail
  refine bodyPost_ret (resTT _ _ _ _ _ _ _ rfl (set4_at HT4.out).1 (set4_at HT4.out).2.1 (set4_at HT4.out).2.2.1 (set4_at HT4.out).2.2.2) rfl ⟨b, G, rfl, ?_, ?_⟩
  · exact HO3.out.midB (lo := w.heap.size) (hi := w.heap.size + 1 + 1 + 1) (((((((MidB.refl _ _ _).set (by omega) (by omega) _ _).set (by omega) (by omega) _ _).set (by omega) (by omega) _ _).set (by omega) (by omega) _ _).set (by omega) (by omega) _ _)) (by omega) (by omega)
  · have HB := HB3.out
    (repeat (first | exact Below.refl _ _ | assumption | refine Below.drew ?_ | refine bl_alloc ?_ _ | refine bl_then ?_ (by assumption) | refine Below.setCell ?_ (by first | omega | (simp; done) | (simp; omega)) _ | refine bl_store ?_ ?_ _ _))
set_option maxHeartbeats 4000000 in
theorem eqTile_any (z x y : Int) (b d n B C : Nat) (F G H : Nat → Feat) (w : World) (hg : OwnFs w B b n F G) (hh : OwnFs w C d n F H) (hs : SmallFs n F) :
    Calls Tryz.prog 19 #[tileV z x y (.slice (some ⟨b, 0, none⟩) n n), tileV z x y (.slice (some ⟨d, 0, none⟩) n n)] w fun e w' => e = .returned (.bool true) ∧ Below w.heap.size w w' := by
  have HG : Hid (OwnFs w B b n F G) := hg
  have HH : Hid (OwnFs w C d n F H) := hh
  have HS : Hid (SmallFs n F) := hs
  clear hg hh hs
  go_enter Tryz.func19, Tryz.ntmps19
  go_wp2_with fail
  generalize hW : ((w.alloc _).alloc _ : World) = W
  have hB0 : Below w.heap.size w W := by subst hW; (repeat (first | exact Below.refl _ _ | assumption | refine Below.drew ?_ | refine bl_alloc ?_ _ | refine bl_then ?_ (by assumption) | refine Below.setCell ?_ (by first | omega | (simp; done) | (simp; omega)) _ | refine bl_store ?_ ?_ _ _))
  have c3 : W.cell? ⟨w.heap.size, 3, none⟩ = some (.slice (some ⟨b, 0, none⟩) n n) := by subst hW; simp [go_sem]
  have d3 : W.cell? ⟨w.heap.size + 1, 3, none⟩ = some (.slice (some ⟨d, 0, none⟩) n n) := by subst hW; simp [go_sem]
  clear hW
  refine (eqRef_any _ _ _ _).mono ?_
  rintro e w1 ⟨rfl, hb1⟩
  have c3' := bl_cell hb1 c3
  have d3' := bl_cell hb1 d3
  have hB1 := bl_then hB0 hb1
  clear c3 d3 hb1 hB0
  go_wp2_with fail
  refine (eqFeatureS_any b d n B C F G H _ (HG.out.below hB1) (HH.out.below hB1) HS.out).mono ?_
  rintro e w2 ⟨rfl, hb2⟩
  go_wp2
  go_ret
  exact ⟨rfl, by (repeat (first | exact Below.refl _ _ | assumption | refine Below.drew ?_ | refine bl_alloc ?_ _ | refine bl_then ?_ (by assumption) | refine Below.setCell ?_ (by first | omega | (simp; done) | (simp; omega)) _ | refine bl_store ?_ ?_ _ _))⟩
end Go.Proofs.YthidgolnajggpaaGreat
