/- Several texts in one. -/
import Derived.Test.YtncaibchkaadbaaVLabelBox13
import Derived.Test.YtncaibchkaadbaaVLabelBox5
import Derived.Deep.RegionHeld3
import Derived.Deep.OwnRows
import Derived.Deep.LoopGhost
import Derived.Laws.OwnMore

/- Boxes of labels: how lists of them lie in memory; they are copied and compared. -/

namespace Go.Proofs.Ytncaibchkaadbaa
open Go.RowKit
set_option linter.unusedSimpArgs false
set_option linter.unusedVariables false
set_option maxRecDepth 100000

/-- A box of a label: its Id, X, Y, W and H. -/
structure Plc where
  id : Int
  a : Int
  b : Int
  c : Int
  d : Int
abbrev plcV (e : Plc) : Value := .agg #[.int .i64 e.id, .int .i64 e.a, .int .i64 e.b, .int .i64 e.c, .int .i64 e.d]
def PlcAt (w : World) (p o : Nat) (e : Plc) : Prop := w.cell? ⟨p, o, none⟩ = some (.int .i64 e.id) ∧ w.cell? ⟨p, o + 1, none⟩ = some (.int .i64 e.a) ∧ w.cell? ⟨p, o + 2, none⟩ = some (.int .i64 e.b) ∧ w.cell? ⟨p, o + 3, none⟩ = some (.int .i64 e.c) ∧ w.cell? ⟨p, o + 4, none⟩ = some (.int .i64 e.d)
theorem PlcAt.below {w w' : World} {p o B : Nat} {e : Plc} (h : PlcAt w p o e) (hb : Below B w w') (hp : p < B) : PlcAt w' p o e := by
  obtain ⟨h0, h1, h2, h3, h4⟩ := h
  exact ⟨(hb.cell (p := ⟨p, o, none⟩) hp).trans h0, (hb.cell (p := ⟨p, o + 1, none⟩) hp).trans h1, (hb.cell (p := ⟨p, o + 2, none⟩) hp).trans h2, (hb.cell (p := ⟨p, o + 3, none⟩) hp).trans h3, (hb.cell (p := ⟨p, o + 4, none⟩) hp).trans h4⟩
/-- From the address on lie n entries. -/
def LbAt (w : World) (p off n : Nat) (E : Nat → Plc) : Prop := ∀ i, i < n → PlcAt w p (off + i * 5) (E i)
theorem LbAt.below {w w' : World} {p off n B : Nat} {E : Nat → Plc} (h : LbAt w p off n E) (hb : Below B w w') (hp : p < B) : LbAt w' p off n E := fun i hi => (h i hi).below hb hp
def IsLb (w : World) (a : Option Addr) (n : Nat) (E : Nat → Plc) : Prop := n = 0 ∨ ∃ b off, a = some ⟨b, off, none⟩ ∧ b < w.heap.size ∧ LbAt w b off n E
theorem IsLb.below {w w' : World} {a : Option Addr} {n : Nat} {E : Nat → Plc} (h : IsLb w a n E) (hb : Below w.heap.size w w') : IsLb w' a n E := by
  rcases h with h | ⟨b, off, e, hl, hp⟩
  · exact .inl h
  · exact .inr ⟨b, off, e, Nat.lt_of_lt_of_le hl hb.size, hp.below hb hl⟩
theorem There.setP {W : World} {r n : Nat} (h : There W r n) (o : Nat) (v : Value) : There (W.setCell ⟨r, o, none⟩ v) r n := fun o' ho => by
  obtain ⟨u, hu⟩ := (h o' ho).1
  refine ⟨?_, ?_⟩
  · by_cases e : o = o'
    · subst e
      exact ⟨v, World.cell?_setCell_same _ _ _ (by rw [hu])⟩
    · exact ⟨u, by rw [World.cell?_setCell_other]; exact hu; simp [e]⟩
  · rw [World.frozen?_setCell]; exact (h o' ho).2
theorem There.outP {w : World} {O r n o : Nat} {x : Value} (h : There w r n) (hne : O ≠ r) : There (w.setCell ⟨O, o, none⟩ x) r n := fun i hi => by
  obtain ⟨u, hu⟩ := (h i hi).1
  refine ⟨⟨u, ?_⟩, ?_⟩
  · rw [set1_other (fun e => hne (by injection e))]; exact hu
  · rw [World.frozen?_setCell]; exact (h i hi).2
/-- Five stores: an entry is laid. -/
def layP (W : World) (B o : Nat) (e : Plc) : World := (((((W.setCell ⟨B, o, none⟩ (.int .i64 e.id)).setCell ⟨B, o + 1, none⟩ (.int .i64 e.a)).setCell ⟨B, o + 2, none⟩ (.int .i64 e.b)).setCell ⟨B, o + 3, none⟩ (.int .i64 e.c)).setCell ⟨B, o + 4, none⟩ (.int .i64 e.d))
theorem layP_other {W : World} {B o : Nat} {e : Plc} {p : Addr} (h : p.block ≠ B ∨ p.off < o ∨ o + 4 < p.off) : (layP W B o e).cell? p = W.cell? p := by
  have ne : ∀ k : Nat, k ≤ 4 → (⟨B, o + k, none⟩ : Addr) ≠ p := fun k hk e => by subst e; simp at h; omega
  have ne0 : (⟨B, o, none⟩ : Addr) ≠ p := ne 0 (by omega)
  unfold layP
  rw [set1_other (ne 4 (by omega)), set1_other (ne 3 (by omega)), set1_other (ne 2 (by omega)), set1_other (ne 1 (by omega)), set1_other ne0]
theorem layP_there {W : World} {B o m : Nat} {e : Plc} (h : There W B m) : There (layP W B o e) B m := by
  unfold layP
  exact (((((h.setP _ _).setP _ _).setP _ _).setP _ _).setP _ _)
theorem layP_size (W : World) (B o : Nat) (e : Plc) : (layP W B o e).heap.size = W.heap.size := by unfold layP; simp
theorem layP_below {V W : World} {n B o : Nat} {e : Plc} (h : Below n V W) (hB : n ≤ B) : Below n V (layP W B o e) := by
  unfold layP
  exact (((((h.setCell hB _).setCell hB _).setCell hB _).setCell hB _).setCell hB _)
theorem layP_at {W : World} {B o m : Nat} {e : Plc} (h : There W B m) (ho : o + 4 < m) : PlcAt (layP W B o e) B o e := by
  have ne : ∀ i j : Nat, i ≠ j → (⟨B, i, none⟩ : Addr) ≠ ⟨B, j, none⟩ := fun i j hij h => hij (by injection h)
  obtain ⟨u0, g0⟩ := (h (o) (by omega)).1
  obtain ⟨u1, g1⟩ := ((h.setP (o) (.int .i64 e.id)) (o + 1) (by omega)).1
  obtain ⟨u2, g2⟩ := (((h.setP (o) (.int .i64 e.id)).setP (o + 1) (.int .i64 e.a)) (o + 2) (by omega)).1
  obtain ⟨u3, g3⟩ := ((((h.setP (o) (.int .i64 e.id)).setP (o + 1) (.int .i64 e.a)).setP (o + 2) (.int .i64 e.b)) (o + 3) (by omega)).1
  obtain ⟨u4, g4⟩ := (((((h.setP (o) (.int .i64 e.id)).setP (o + 1) (.int .i64 e.a)).setP (o + 2) (.int .i64 e.b)).setP (o + 3) (.int .i64 e.c)) (o + 4) (by omega)).1
  unfold layP
  refine ⟨?_, ?_, ?_, ?_, ?_⟩
  · rw [set1_other (ne (o + 4) (o) (by omega)), set1_other (ne (o + 3) (o) (by omega)), set1_other (ne (o + 2) (o) (by omega)), set1_other (ne (o + 1) (o) (by omega))]; exact set1_same g0
  · rw [set1_other (ne (o + 4) (o + 1) (by omega)), set1_other (ne (o + 3) (o + 1) (by omega)), set1_other (ne (o + 2) (o + 1) (by omega))]; exact set1_same g1
  · rw [set1_other (ne (o + 4) (o + 2) (by omega)), set1_other (ne (o + 3) (o + 2) (by omega))]; exact set1_same g2
  · rw [set1_other (ne (o + 4) (o + 3) (by omega))]; exact set1_same g3
  · exact set1_same g4
theorem LbAt.lay {W : World} {B n k : Nat} {E : Nat → Plc} (h : LbAt W B 0 k E) (hT : There W B (n * 5)) (hk : k < n) : LbAt (layP W B (k * 5) (E k)) B 0 (k + 1) E := fun i hi => by
  by_cases e : i = k
  · subst e
    rw [Nat.zero_add]
    exact layP_at hT (by omega)
  · have h' := h i (by omega)
    unfold PlcAt at h' ⊢
    rw [layP_other (.inr (.inl (by simp; omega))), layP_other (.inr (.inl (by simp; omega))), layP_other (.inr (.inl (by simp; omega))), layP_other (.inr (.inl (by simp; omega))), layP_other (.inr (.inl (by simp; omega)))]
    exact h'
abbrev zeroP : Array Value := #[.int .i64 0, .int .i64 0, .int .i64 0, .int .i64 0, .int .i64 0]
theorem info_pl : (Try.prog.info? 58).map (fun i => (i.zero, i.size, i.bytes)) = some (some (.agg zeroP), 5, 40) := by kernel_rfl
theorem eqPlaced_any (e : Plc) (w : World) : Calls Try.prog 54 #[plcV e, plcV e] w fun r w' => r = .returned (.bool true) ∧ Below w.heap.size w w' := by
  go_enter Try.func54, Try.ntmps54
  go_wp2
  go_ret
  exact ⟨rfl, by (repeat (first | exact Below.refl _ _ | assumption | refine Below.drew ?_ | refine bl_alloc ?_ _ | refine bl_then ?_ (by assumption) | refine Below.setCell ?_ (by first | omega | (simp; done) | (simp; omega)) _ | refine bl_store ?_ ?_ _ _))⟩
set_option maxHeartbeats 4000000 in
theorem eqPlacedS_any (a a' : Option Addr) (n cap cap' : Nat) (E : Nat → Plc) (w : World) (hp : IsLb w a n E) (hq : IsLb w a' n E) (hmax : n ≤ 1048576) :
    Calls Try.prog 28 #[.slice a n cap, .slice a' n cap'] w fun e w' => e = .returned (.bool true) ∧ Below w.heap.size w w' := by
  have HP : Hid (IsLb w a n E) := hp
  have HQ : Hid (IsLb w a' n E) := hq
  clear hp hq
  go_enter Try.func28, Try.ntmps28
  go_wp2
  go_loopw [5] (fun i wr => ∃ k : Nat, k ≤ n ∧ i = .int .i64 k ∧ Below w.heap.size w wr) (fun i _ => n - (intOf i).toNat)
  case atStart => exact ⟨0, by omega, rfl, Below.refl _ _⟩
  case round =>
    obtain ⟨k, hk, rfl, hB⟩ := hrel
    by_cases hlt : k < n
    · rcases HP.out with h0 | ⟨b, off, rfl, hb, hpt⟩
      · omega
      rcases HQ.out with h0 | ⟨d, off', rfl, hd, hqt⟩
      · omega
      have hpr := hpt.below hB hb
      have hqr := hqt.below hB hd
      have hbr : b < wr.heap.size := Nat.lt_of_lt_of_le hb hB.size
      have hdr : d < wr.heap.size := Nat.lt_of_lt_of_le hd hB.size
      have c0 : ∀ W', Below wr.heap.size wr W' → W'.cell? ⟨b, off + k * 5, none⟩ = some (.int .i64 (E k).id) := fun W' h => (hpr.below h hbr k hlt).1
      have c1 : ∀ W', Below wr.heap.size wr W' → W'.cell? ⟨b, off + k * 5 + 1, none⟩ = some (.int .i64 (E k).a) := fun W' h => (hpr.below h hbr k hlt).2.1
      have c2 : ∀ W', Below wr.heap.size wr W' → W'.cell? ⟨b, off + k * 5 + 2, none⟩ = some (.int .i64 (E k).b) := fun W' h => (hpr.below h hbr k hlt).2.2.1
      have c3 : ∀ W', Below wr.heap.size wr W' → W'.cell? ⟨b, off + k * 5 + 3, none⟩ = some (.int .i64 (E k).c) := fun W' h => (hpr.below h hbr k hlt).2.2.2.1
      have c4 : ∀ W', Below wr.heap.size wr W' → W'.cell? ⟨b, off + k * 5 + 4, none⟩ = some (.int .i64 (E k).d) := fun W' h => (hpr.below h hbr k hlt).2.2.2.2
      have d0 : ∀ W', Below wr.heap.size wr W' → W'.cell? ⟨d, off' + k * 5, none⟩ = some (.int .i64 (E k).id) := fun W' h => (hqr.below h hdr k hlt).1
      have d1 : ∀ W', Below wr.heap.size wr W' → W'.cell? ⟨d, off' + k * 5 + 1, none⟩ = some (.int .i64 (E k).a) := fun W' h => (hqr.below h hdr k hlt).2.1
      have d2 : ∀ W', Below wr.heap.size wr W' → W'.cell? ⟨d, off' + k * 5 + 2, none⟩ = some (.int .i64 (E k).b) := fun W' h => (hqr.below h hdr k hlt).2.2.1
      have d3 : ∀ W', Below wr.heap.size wr W' → W'.cell? ⟨d, off' + k * 5 + 3, none⟩ = some (.int .i64 (E k).c) := fun W' h => (hqr.below h hdr k hlt).2.2.2.1
      have d4 : ∀ W', Below wr.heap.size wr W' → W'.cell? ⟨d, off' + k * 5 + 4, none⟩ = some (.int .i64 (E k).d) := fun W' h => (hqr.below h hdr k hlt).2.2.2.2
      have HB : Hid (Below w.heap.size w wr) := hB
      have HLT : Hid (k < n) := hlt
      clear hB hpt hqt hpr hqr
      have hi : (k : Int) < (n : Int) := by omega
      have hi0 : (0 : Int) ≤ (k : Int) := by omega
      go_wp2
      go_region_held3 (fun W' => Below wr.heap.size wr W') ((repeat (first | exact Below.refl _ _ | assumption | refine Below.drew ?_ | refine bl_alloc ?_ _ | refine bl_then ?_ (by assumption) | refine Below.setCell ?_ (by first | omega | (simp; done) | (simp; omega)) _ | refine bl_store ?_ ?_ _ _)))
        (first
          | (go_at_call 54; refine (eqPlaced_any (E k) _).mono ?_; rintro e w' ⟨rfl, hb⟩)
          | fail)
      go_wp2
      go_roundw
      case rel => exact ⟨k + 1, by have := HLT.out; omega, by go_num, bl_then HB.out (by assumption)⟩
      case measure => have := HLT.out; simp [intOf]; omega
    · go_wp2
      go_ret
      exact ⟨rfl, hB⟩
end Go.Proofs.Ytncaibchkaadbaa
/- Which blocks are written, and what stays. -/

namespace Go.Proofs.Ytncaibchkaadbaa
open Go.RowKit
set_option linter.unusedSimpArgs false
set_option linter.unusedVariables false
set_option maxRecDepth 100000

/-- Only blocks from lo to hi are written. -/
structure MidB (lo hi : Nat) (w w' : World) : Prop where
  os : w'.os = w.os
  tape : w'.tape = w.tape
  output : w'.output = w.output
  size : w.heap.size ≤ w'.heap.size
  block : ∀ k, k < w.heap.size → (k < lo ∨ hi ≤ k) → w'.heap[k]? = w.heap[k]?
theorem MidB.refl (lo hi : Nat) (w : World) : MidB lo hi w w := ⟨rfl, rfl, rfl, Nat.le_refl _, fun _ _ _ => rfl⟩
theorem MidB.trans {lo hi : Nat} {a b c : World} (h : MidB lo hi a b) (k : MidB lo hi b c) : MidB lo hi a c :=
  ⟨k.os.trans h.os, k.tape.trans h.tape, k.output.trans h.output, Nat.le_trans h.size k.size, fun i hi ho => (k.block i (Nat.lt_of_lt_of_le hi h.size) ho).trans (h.block i hi ho)⟩
theorem MidB.of_below {lo hi : Nat} {a b : World} (h : Below a.heap.size a b) : MidB lo hi a b := ⟨h.os, h.tape, h.output, h.size, fun i hi _ => h.block i hi⟩
theorem MidB.of_grown {lo hi s : Nat} {a b : World} (h : a.grownBy b (some s)) (h1 : lo ≤ s) (h2 : s < hi) : MidB lo hi a b :=
  ⟨h.os, h.tape, h.output, h.size, fun j hj ho => h.block j hj (fun e => by injection e with e; omega)⟩
theorem MidB.set {lo hi s : Nat} {a b : World} (h : MidB lo hi a b) (h1 : lo ≤ s) (h2 : s < hi) (o : Nat) (v : Value) : MidB lo hi a (b.setCell ⟨s, o, none⟩ v) :=
  h.trans (MidB.of_grown (grown_set (grown_refl b (some s)) o v) h1 h2)
theorem MidB.below {lo hi : Nat} {a b : World} (h : MidB lo hi a b) (hl : lo ≤ a.heap.size) : Below lo a b := ⟨h.os, h.tape, h.output, h.size, fun k hk => h.block k (by omega) (.inl hk)⟩
theorem MidB.cell {lo hi : Nat} {a b : World} (h : MidB lo hi a b) {p o : Nat} {v : Value} (hc : a.cell? ⟨p, o, none⟩ = some v) (ho : p < lo ∨ hi ≤ p) : b.cell? ⟨p, o, none⟩ = some v := by
  have hp := World.block_lt_of_cell? _ _ hc
  have he := h.block p hp ho
  have hg : a.grownBy (b) none ∨ True := .inr trivial
  unfold World.cell? at hc ⊢
  simp only [he]
  exact hc
theorem MidB.there {lo hi : Nat} {a b : World} (h : MidB lo hi a b) {p n : Nat} (hT : There a p n) (ho : p < lo ∨ hi ≤ p) : There b p n := fun o hn => by
  obtain ⟨v, hv⟩ := (hT o hn).1
  refine ⟨⟨v, h.cell hv ho⟩, ?_⟩
  have he := h.block p (World.block_lt_of_cell? _ _ hv) ho
  have hz := (hT o hn).2
  unfold World.frozen? at hz ⊢
  simp only [he]
  exact hz
theorem There.grown {w w' : World} {p n s : Nat} (h : There w p n) (hg : w.grownBy w' (some s)) (hs : p ≠ s) : There w' p n := fun o hn => by
  obtain ⟨v, hv⟩ := (h o hn).1
  refine ⟨⟨v, gr_cell hg hv hs⟩, ?_⟩
  have he := hg.block p (World.block_lt_of_cell? _ _ hv) (fun e => hs (by injection e))
  have hz := (h o hn).2
  unfold World.frozen? at hz ⊢
  simp only [he]
  exact hz
end Go.Proofs.Ytncaibchkaadbaa
