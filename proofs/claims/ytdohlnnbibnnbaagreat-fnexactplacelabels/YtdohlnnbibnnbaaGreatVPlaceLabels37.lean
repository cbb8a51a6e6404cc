/- Several texts in one. -/
import Derived.Test.YtdohlnnbibnnbaaGreatVPlaceLabels12
import Derived.Test.YtdohlnnbibnnbaaGreatVPlaceLabels26
import Derived.Test.YtdohlnnbibnnbaaGreatVPlaceLabels36
import Derived.Test.YtdohlnnbibnnbaaGreatVPlaceLabels32
import Derived.Test.YtdohlnnbibnnbaaGreatVPlaceLabels2
import Derived.Test.YtdohlnnbibnnbaaGreatVPlaceLabels6
import Derived.Deep.RegionHeld3
import Derived.Deep.OwnRows
import Derived.Deep.LoopGhost
import Derived.Laws.OwnMore

/- A row that is not empty. -/

namespace Go.Proofs.YtdohlnnbibnnbaaGreat
open Go.RowKit
set_option linter.unusedVariables false
end Go.Proofs.YtdohlnnbibnnbaaGreat
/- SimpleAt with and without a fault. -/

namespace Go.Proofs.YtdohlnnbibnnbaaGreat
open Go.RowKit
set_option linter.unusedVariables false
end Go.Proofs.YtdohlnnbibnnbaaGreat
/- AnchorOf: the program and the model. -/

namespace Go.Proofs.YtdohlnnbibnnbaaGreat
open Go.RowKit
set_option linter.unusedSimpArgs false
set_option linter.unusedVariables false
set_option maxRecDepth 100000

theorem l1Min_a (a b : Int) (w : World) : Calls Tryz.prog 146 #[.int .i64 a, .int .i64 b] w fun e w' => e = .returned (.int .i64 (min a b)) ∧ w = w' := by
  by_cases h : a < b
  · have e : min a b = a := by omega
    rw [e]
    go_enter Tryz.func146, Tryz.ntmps146
    go_wp2
    go_ret
    exact ⟨rfl, rfl⟩
  · have e : min a b = b := by omega
    rw [e]
    go_enter Tryz.func146, Tryz.ntmps146
    go_wp2
    go_ret
    exact ⟨rfl, rfl⟩
theorem Reg.store2 {B r n : Nat} {W W1 : World} (h : Reg B W r n W1) (hr : B ≤ r) {v0 v1 : Value} : Reg B W r n ((W1.setCell ⟨r, 0, none⟩ v0).setCell ⟨r, 1, none⟩ v1) := (h.store hr _ _).store hr _ _
set_option maxHeartbeats 8000000 in
theorem l10Anchor_any {off o : Nat} (q : Nat) (id la ki wi z : Int) (b n cap : Nat) (X Y : Nat → Int) (lab : ByteArray) (pr : Int) (w : World) (hf : FeatAt w q o id la ki wi (.slice (some ⟨b, off, none⟩) n cap) lab pr) (hp : PtsAt w b off n X Y) (hbl : b < w.heap.size) (hn0 : 0 < n) (hin : inW (X 0) (Y 0) = true) (hz : zoomB z = true) :
    Calls Tryz.prog 113 #[.pointer (some ⟨q, o, none⟩), .int .i64 z] w fun e w' => e = .returned (.agg #[.int .i64 (ancI z (X 0)), .int .i64 (ancI z (Y 0))]) ∧ Below w.heap.size w w' := by
  have sU := fun w => l3Unit_any z w hz
  have sN := fun w => l4Count_any z w hz
  have hu := unitI_bd hz
  have hm := pixI_bd hz
  have hx : (0 ≤ X 0 ∧ X 0 ≤ 1024) ∧ (0 ≤ Y 0 ∧ Y 0 ≤ 1024) := by simpa [inW, inB] using hin
  unfold ancI
  generalize unitI z = u at *
  generalize pixI z = m at *
  have d1 : (X 0).tdiv u = X 0 / u := Int.tdiv_eq_ediv_of_nonneg hx.1.1
  have d2 : (Y 0).tdiv u = Y 0 / u := Int.tdiv_eq_ediv_of_nonneg hx.2.1
  have d3 : 0 ≤ X 0 / u ∧ X 0 / u ≤ 1024 := ⟨Int.ediv_nonneg hx.1.1 (by omega), Int.le_trans (Int.ediv_le_self _ hx.1.1) hx.1.2⟩
  have d4 : 0 ≤ Y 0 / u ∧ Y 0 / u ≤ 1024 := ⟨Int.ediv_nonneg hx.2.1 (by omega), Int.le_trans (Int.ediv_le_self _ hx.2.1) hx.2.2⟩
  have x1 : IntKind.i64.wrap (X 0 / u) = X 0 / u := IntWalk.i64_in _ (by omega)
  have x2 : IntKind.i64.wrap (Y 0 / u) = Y 0 / u := IntWalk.i64_in _ (by omega)
  have hn1 : (0 : Int) < (n : Int) := by omega
  have p0 := (hp 0 hn0).1
  have p1 := (hp 0 hn0).2
  simp only [Nat.zero_mul, Nat.add_zero, Nat.mul_zero] at p0 p1
  have p4 := hf.2.2.2.2.1
  have hql : q < w.heap.size := World.block_lt_of_cell? _ _ p4
  clear hz hin hf hp
  go_enter Tryz.func113, Tryz.ntmps113
  go_wp2_with (first
    | (go_at_call 145; refine (sU _).mono ?_; rintro e w1 ⟨rfl, rfl⟩)
    | (go_at_call 74; refine (sN _).mono ?_; rintro e w1 ⟨rfl, rfl⟩))
  generalize hW : (w.alloc _ : World) = W
  have HB0 : Hid (Below w.heap.size w W) := by show Below _ _ _; subst hW; (repeat (first | exact Below.refl _ _ | assumption | refine Below.drew ?_ | refine bl_alloc ?_ _ | refine bl_then ?_ (by assumption) | refine Below.setCell ?_ (by first | omega | (simp; done) | (simp; omega)) _ | refine bl_store ?_ ?_ _ _))
  have hReg : Reg w.heap.size W w.heap.size 2 W := Reg.start (by subst hW; simp) (by subst hW; exact there2a w _ _ _)
  have c4 : ∀ W', Reg w.heap.size W w.heap.size 2 W' → W'.cell? ⟨q, o + 4, none⟩ = some (.slice (some ⟨b, off, none⟩) n cap) := fun W' h => by
    rw [h.bel.cell (p := ⟨q, o + 4, none⟩) hql, HB0.out.cell (p := ⟨q, o + 4, none⟩) hql]; exact p4
  have e0 : ∀ W', Reg w.heap.size W w.heap.size 2 W' → W'.cell? ⟨b, off, none⟩ = some (.int .i64 (X 0)) := fun W' h => by
    rw [h.bel.cell (p := ⟨b, off, none⟩) hbl, HB0.out.cell (p := ⟨b, off, none⟩) hbl]; exact p0
  have e1 : ∀ W', Reg w.heap.size W w.heap.size 2 W' → W'.cell? ⟨b, off + 1, none⟩ = some (.int .i64 (Y 0)) := fun W' h => by
    rw [h.bel.cell (p := ⟨b, off + 1, none⟩) hbl, HB0.out.cell (p := ⟨b, off + 1, none⟩) hbl]; exact p1
  clear hW p0 p1 p4
  have hu0 : u ≠ 0 := by omega
  have t0 : ∀ W', Reg w.heap.size W w.heap.size 2 W' → W'.cell? ⟨w.heap.size, 0, none⟩ = some (cellOr W' w.heap.size 0) := fun W' h => h.there.cell 0 (by omega)
  have t1 : ∀ W', Reg w.heap.size W w.heap.size 2 W' → W'.cell? ⟨w.heap.size, 1, none⟩ = some (cellOr W' w.heap.size 1) := fun W' h => h.there.cell 1 (by omega)
  have f0 : ∀ W', Reg w.heap.size W w.heap.size 2 W' → W'.frozen? ⟨w.heap.size, 0, none⟩ = false := fun W' h => (h.there 0 (by omega)).2
  have f1 : ∀ W', Reg w.heap.size W w.heap.size 2 W' → W'.frozen? ⟨w.heap.size, 1, none⟩ = false := fun W' h => (h.there 1 (by omega)).2
  have HR0 : Hid (Reg w.heap.size W w.heap.size 2 W) := hReg
  go_region_held3 (Reg w.heap.size W w.heap.size 2) (first | with_reducible assumption | with_reducible exact Reg.drew hReg | with_reducible exact Reg.drew (Reg.store2 hReg (Nat.le_refl _)) | with_reducible exact Reg.store2 (by with_reducible assumption) (Nat.le_refl _) | with_reducible exact Reg.call (by with_reducible assumption) (by with_reducible assumption))
    (first
      | (go_at_call 146; refine (l1Min_a _ _ _).mono ?_; rintro e w' ⟨rfl, rfl⟩)
      | fail)
  go_wp2_with fail
  obtain ⟨z0, z1⟩ := PtA.put (x := min (X 0 / u) (m - 1)) (y := min (Y 0 / u) (m - 1)) HR0.out.there
  refine bodyPost_ret (v := .agg #[.int .i64 (min (X 0 / u) (m - 1)), .int .i64 (min (Y 0 / u) (m - 1))]) (by simp [results, Tryz.results113, go_sem, z0, z1]) rfl ⟨rfl, ?_⟩
  have HB := HB0.out
  exact Below.drew (Below.setCell (Below.setCell HB (Nat.le_refl _) _) (Nat.le_refl _) _)
end Go.Proofs.YtdohlnnbibnnbaaGreat
/- Boxes of labels: how lists of them lie in memory; they are copied and compared. -/

namespace Go.Proofs.YtdohlnnbibnnbaaGreat
open Go.RowKit
set_option linter.unusedSimpArgs false
set_option linter.unusedVariables false
set_option maxRecDepth 100000

/-- A box of a label: its Id, X, Y, W and H. -/
structure Plc where
  id : Int
  a : Int
  b : Int
  c : Int
  d : Int
abbrev plcV (e : Plc) : Value := .agg #[.int .i64 e.id, .int .i64 e.a, .int .i64 e.b, .int .i64 e.c, .int .i64 e.d]
def PlcAt (w : World) (p o : Nat) (e : Plc) : Prop := w.cell? ⟨p, o, none⟩ = some (.int .i64 e.id) ∧ w.cell? ⟨p, o + 1, none⟩ = some (.int .i64 e.a) ∧ w.cell? ⟨p, o + 2, none⟩ = some (.int .i64 e.b) ∧ w.cell? ⟨p, o + 3, none⟩ = some (.int .i64 e.c) ∧ w.cell? ⟨p, o + 4, none⟩ = some (.int .i64 e.d)
theorem PlcAt.below {w w' : World} {p o B : Nat} {e : Plc} (h : PlcAt w p o e) (hb : Below B w w') (hp : p < B) : PlcAt w' p o e := by
  obtain ⟨h0, h1, h2, h3, h4⟩ := h
  exact ⟨(hb.cell (p := ⟨p, o, none⟩) hp).trans h0, (hb.cell (p := ⟨p, o + 1, none⟩) hp).trans h1, (hb.cell (p := ⟨p, o + 2, none⟩) hp).trans h2, (hb.cell (p := ⟨p, o + 3, none⟩) hp).trans h3, (hb.cell (p := ⟨p, o + 4, none⟩) hp).trans h4⟩
/-- From the address on lie n entries. -/
def LbAt (w : World) (p off n : Nat) (E : Nat → Plc) : Prop := ∀ i, i < n → PlcAt w p (off + i * 5) (E i)
theorem LbAt.below {w w' : World} {p off n B : Nat} {E : Nat → Plc} (h : LbAt w p off n E) (hb : Below B w w') (hp : p < B) : LbAt w' p off n E := fun i hi => (h i hi).below hb hp
def IsLb (w : World) (a : Option Addr) (n : Nat) (E : Nat → Plc) : Prop := n = 0 ∨ ∃ b off, a = some ⟨b, off, none⟩ ∧ b < w.heap.size ∧ LbAt w b off n E
theorem IsLb.below {w w' : World} {a : Option Addr} {n : Nat} {E : Nat → Plc} (h : IsLb w a n E) (hb : Below w.heap.size w w') : IsLb w' a n E := by
  rcases h with h | ⟨b, off, e, hl, hp⟩
  · exact .inl h
  · exact .inr ⟨b, off, e, Nat.lt_of_lt_of_le hl hb.size, hp.below hb hl⟩
theorem There.setP {W : World} {r n : Nat} (h : There W r n) (o : Nat) (v : Value) : There (W.setCell ⟨r, o, none⟩ v) r n := fun o' ho => by
  obtain ⟨u, hu⟩ := (h o' ho).1
  refine ⟨?_, ?_⟩
  · by_cases e : o = o'
    · subst e
      exact ⟨v, World.cell?_setCell_same _ _ _ (by rw [hu])⟩
    · exact ⟨u, by rw [World.cell?_setCell_other]; exact hu; simp [e]⟩
  · rw [World.frozen?_setCell]; exact (h o' ho).2
theorem There.outP {w : World} {O r n o : Nat} {x : Value} (h : There w r n) (hne : O ≠ r) : There (w.setCell ⟨O, o, none⟩ x) r n := fun i hi => by
  obtain ⟨u, hu⟩ := (h i hi).1
  refine ⟨⟨u, ?_⟩, ?_⟩
  · rw [set1_other (fun e => hne (by injection e))]; exact hu
  · rw [World.frozen?_setCell]; exact (h i hi).2
/-- Five stores: an entry is laid. -/
def layP (W : World) (B o : Nat) (e : Plc) : World := (((((W.setCell ⟨B, o, none⟩ (.int .i64 e.id)).setCell ⟨B, o + 1, none⟩ (.int .i64 e.a)).setCell ⟨B, o + 2, none⟩ (.int .i64 e.b)).setCell ⟨B, o + 3, none⟩ (.int .i64 e.c)).setCell ⟨B, o + 4, none⟩ (.int .i64 e.d))
theorem layP_other {W : World} {B o : Nat} {e : Plc} {p : Addr} (h : p.block ≠ B ∨ p.off < o ∨ o + 4 < p.off) : (layP W B o e).cell? p = W.cell? p := by
  have ne : ∀ k : Nat, k ≤ 4 → (⟨B, o + k, none⟩ : Addr) ≠ p := fun k hk e => by subst e; simp at h; omega
  have ne0 : (⟨B, o, none⟩ : Addr) ≠ p := ne 0 (by omega)
  unfold layP
  rw [set1_other (ne 4 (by omega)), set1_other (ne 3 (by omega)), set1_other (ne 2 (by omega)), set1_other (ne 1 (by omega)), set1_other ne0]
theorem layP_below {V W : World} {n B o : Nat} {e : Plc} (h : Below n V W) (hB : n ≤ B) : Below n V (layP W B o e) := by
  unfold layP
  exact (((((h.setCell hB _).setCell hB _).setCell hB _).setCell hB _).setCell hB _)
theorem layP_at {W : World} {B o m : Nat} {e : Plc} (h : There W B m) (ho : o + 4 < m) : PlcAt (layP W B o e) B o e := by
  have ne : ∀ i j : Nat, i ≠ j → (⟨B, i, none⟩ : Addr) ≠ ⟨B, j, none⟩ := fun i j hij h => hij (by injection h)
  obtain ⟨u0, g0⟩ := (h (o) (by omega)).1
  obtain ⟨u1, g1⟩ := ((h.setP (o) (.int .i64 e.id)) (o + 1) (by omega)).1
  obtain ⟨u2, g2⟩ := (((h.setP (o) (.int .i64 e.id)).setP (o + 1) (.int .i64 e.a)) (o + 2) (by omega)).1
  obtain ⟨u3, g3⟩ := ((((h.setP (o) (.int .i64 e.id)).setP (o + 1) (.int .i64 e.a)).setP (o + 2) (.int .i64 e.b)) (o + 3) (by omega)).1
  obtain ⟨u4, g4⟩ := (((((h.setP (o) (.int .i64 e.id)).setP (o + 1) (.int .i64 e.a)).setP (o + 2) (.int .i64 e.b)).setP (o + 3) (.int .i64 e.c)) (o + 4) (by omega)).1
  unfold layP
  refine ⟨?_, ?_, ?_, ?_, ?_⟩
  · rw [set1_other (ne (o + 4) (o) (by omega)), set1_other (ne (o + 3) (o) (by omega)), set1_other (ne (o + 2) (o) (by omega)), set1_other (ne (o + 1) (o) (by omega))]; exact set1_same g0
  · rw [set1_other (ne (o + 4) (o + 1) (by omega)), set1_other (ne (o + 3) (o + 1) (by omega)), set1_other (ne (o + 2) (o + 1) (by omega))]; exact set1_same g1
  · rw [set1_other (ne (o + 4) (o + 2) (by omega)), set1_other (ne (o + 3) (o + 2) (by omega))]; exact set1_same g2
  · rw [set1_other (ne (o + 4) (o + 3) (by omega))]; exact set1_same g3
  · exact set1_same g4
theorem LbAt.lay {W : World} {B n k : Nat} {E : Nat → Plc} (h : LbAt W B 0 k E) (hT : There W B (n * 5)) (hk : k < n) : LbAt (layP W B (k * 5) (E k)) B 0 (k + 1) E := fun i hi => by
  by_cases e : i = k
  · subst e
    rw [Nat.zero_add]
    exact layP_at hT (by omega)
  · have h' := h i (by omega)
    unfold PlcAt at h' ⊢
    rw [layP_other (.inr (.inl (by simp; omega))), layP_other (.inr (.inl (by simp; omega))), layP_other (.inr (.inl (by simp; omega))), layP_other (.inr (.inl (by simp; omega))), layP_other (.inr (.inl (by simp; omega)))]
    exact h'
abbrev zeroP : Array Value := #[.int .i64 0, .int .i64 0, .int .i64 0, .int .i64 0, .int .i64 0]
theorem info_pl : (Tryz.prog.info? 38).map (fun i => (i.zero, i.size, i.bytes)) = some (some (.agg zeroP), 5, 40) := by kernel_rfl
theorem eqPlaced_any (e : Plc) (w : World) : Calls Tryz.prog 87 #[plcV e, plcV e] w fun r w' => r = .returned (.bool true) ∧ Below w.heap.size w w' := by
  go_enter Tryz.func87, Tryz.ntmps87
  go_wp2
  go_ret
  exact ⟨rfl, by (repeat (first | exact Below.refl _ _ | assumption | refine Below.drew ?_ | refine bl_alloc ?_ _ | refine bl_then ?_ (by assumption) | refine Below.setCell ?_ (by first | omega | (simp; done) | (simp; omega)) _ | refine bl_store ?_ ?_ _ _))⟩
set_option maxHeartbeats 4000000 in
theorem eqPlacedS_any (a a' : Option Addr) (n cap cap' : Nat) (E : Nat → Plc) (w : World) (hp : IsLb w a n E) (hq : IsLb w a' n E) (hmax : n ≤ 1048576) :
    Calls Tryz.prog 44 #[.slice a n cap, .slice a' n cap'] w fun e w' => e = .returned (.bool true) ∧ Below w.heap.size w w' := by
  have HP : Hid (IsLb w a n E) := hp
  have HQ : Hid (IsLb w a' n E) := hq
  clear hp hq
  go_enter Tryz.func44, Tryz.ntmps44
  go_wp2
  go_loopw [5] (fun i wr => ∃ k : Nat, k ≤ n ∧ i = .int .i64 k ∧ Below w.heap.size w wr) (fun i _ => n - (intOf i).toNat)
  case atStart => exact ⟨0, by omega, rfl, Below.refl _ _⟩
  case round =>
    obtain ⟨k, hk, rfl, hB⟩ := hrel
    by_cases hlt : k < n
    · rcases HP.out with h0 | ⟨b, off, rfl, hb, hpt⟩
      · omega
      rcases HQ.out with h0 | ⟨d, off', rfl, hd, hqt⟩
      · omega
      have hpr := hpt.below hB hb
      have hqr := hqt.below hB hd
      have hbr : b < wr.heap.size := Nat.lt_of_lt_of_le hb hB.size
      have hdr : d < wr.heap.size := Nat.lt_of_lt_of_le hd hB.size
      have c0 : ∀ W', Below wr.heap.size wr W' → W'.cell? ⟨b, off + k * 5, none⟩ = some (.int .i64 (E k).id) := fun W' h => (hpr.below h hbr k hlt).1
      have c1 : ∀ W', Below wr.heap.size wr W' → W'.cell? ⟨b, off + k * 5 + 1, none⟩ = some (.int .i64 (E k).a) := fun W' h => (hpr.below h hbr k hlt).2.1
      have c2 : ∀ W', Below wr.heap.size wr W' → W'.cell? ⟨b, off + k * 5 + 2, none⟩ = some (.int .i64 (E k).b) := fun W' h => (hpr.below h hbr k hlt).2.2.1
      have c3 : ∀ W', Below wr.heap.size wr W' → W'.cell? ⟨b, off + k * 5 + 3, none⟩ = some (.int .i64 (E k).c) := fun W' h => (hpr.below h hbr k hlt).2.2.2.1
      have c4 : ∀ W', Below wr.heap.size wr W' → W'.cell? ⟨b, off + k * 5 + 4, none⟩ = some (.int .i64 (E k).d) := fun W' h => (hpr.below h hbr k hlt).2.2.2.2
      have d0 : ∀ W', Below wr.heap.size wr W' → W'.cell? ⟨d, off' + k * 5, none⟩ = some (.int .i64 (E k).id) := fun W' h => (hqr.below h hdr k hlt).1
      have d1 : ∀ W', Below wr.heap.size wr W' → W'.cell? ⟨d, off' + k * 5 + 1, none⟩ = some (.int .i64 (E k).a) := fun W' h => (hqr.below h hdr k hlt).2.1
      have d2 : ∀ W', Below wr.heap.size wr W' → W'.cell? ⟨d, off' + k * 5 + 2, none⟩ = some (.int .i64 (E k).b) := fun W' h => (hqr.below h hdr k hlt).2.2.1
      have d3 : ∀ W', Below wr.heap.size wr W' → W'.cell? ⟨d, off' + k * 5 + 3, none⟩ = some (.int .i64 (E k).c) := fun W' h => (hqr.below h hdr k hlt).2.2.2.1
      have d4 : ∀ W', Below wr.heap.size wr W' → W'.cell? ⟨d, off' + k * 5 + 4, none⟩ = some (.int .i64 (E k).d) := fun W' h => (hqr.below h hdr k hlt).2.2.2.2
      have HB : Hid (Below w.heap.size w wr) := hB
      have HLT : Hid (k < n) := hlt
      clear hB hpt hqt hpr hqr
      have hi : (k : Int) < (n : Int) := by omega
      have hi0 : (0 : Int) ≤ (k : Int) := by omega
      go_wp2
      go_region_held3 (fun W' => Below wr.heap.size wr W') ((repeat (first | exact Below.refl _ _ | assumption | refine Below.drew ?_ | refine bl_alloc ?_ _ | refine bl_then ?_ (by assumption) | refine Below.setCell ?_ (by first | omega | (simp; done) | (simp; omega)) _ | refine bl_store ?_ ?_ _ _)))
        (first
          | (go_at_call 87; refine (eqPlaced_any (E k) _).mono ?_; rintro e w' ⟨rfl, hb⟩)
          | fail)
      go_wp2
      go_roundw
      case rel => exact ⟨k + 1, by have := HLT.out; omega, by go_num, bl_then HB.out (by assumption)⟩
      case measure => have := HLT.out; simp [intOf]; omega
    · go_wp2
      go_ret
      exact ⟨rfl, hB⟩
end Go.Proofs.YtdohlnnbibnnbaaGreat
