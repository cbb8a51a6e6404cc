/- Lists of refs in memory of their own: they are compared, marked, and the marks are found again. -/
import Derived.Test.YtjkmjkfakolpfaaT2
import Derived.Test.YtjkmjkfakolpfaaReg
import Derived.Deep.RegionHeld3
import Derived.Deep.OwnRows
import Derived.Deep.LoopGhost
import Derived.Laws.OwnMore
namespace Go.Proofs.Ytjkmjkfakolpfaa
open Go.RowKit
set_option linter.unusedSimpArgs false
set_option linter.unusedVariables false
set_option maxRecDepth 100000

/-- Three functions as one: what a list of refs has. -/
structure Rfs where
  z : Nat → Int
  x : Nat → Int
  y : Nat → Int
def RsAt (w : World) (b off n : Nat) (R : Rfs) : Prop := ∀ i, i < n → w.cell? ⟨b, off + i * 3, none⟩ = some (.int .i64 (R.z i)) ∧ w.cell? ⟨b, off + i * 3 + 1, none⟩ = some (.int .i64 (R.x i)) ∧ w.cell? ⟨b, off + i * 3 + 2, none⟩ = some (.int .i64 (R.y i))
theorem RsAt.below {w w' : World} {b off n B : Nat} {R : Rfs} (h : RsAt w b off n R) (hb : Below B w w') (hB : b < B) : RsAt w' b off n R := fun i hi =>
  ⟨(hb.cell (p := ⟨b, off + i * 3, none⟩) hB).trans (h i hi).1, (hb.cell (p := ⟨b, off + i * 3 + 1, none⟩) hB).trans (h i hi).2.1, (hb.cell (p := ⟨b, off + i * 3 + 2, none⟩) hB).trans (h i hi).2.2⟩
def IsRs (w : World) (a : Option Addr) (n : Nat) (R : Rfs) : Prop := n = 0 ∨ ∃ b off, a = some ⟨b, off, none⟩ ∧ b < w.heap.size ∧ RsAt w b off n R
theorem IsRs.below {w w' : World} {a : Option Addr} {n : Nat} {R : Rfs} (h : IsRs w a n R) (hb : Below w.heap.size w w') : IsRs w' a n R := by
  rcases h with h | ⟨b, off, e, hl, hz⟩
  · exact .inl h
  · exact .inr ⟨b, off, e, Nat.lt_of_lt_of_le hl hb.size, hz.below hb hl⟩
theorem There.setR {W : World} {r n : Nat} (h : There W r n) (o : Nat) (v : Value) : There (W.setCell ⟨r, o, none⟩ v) r n := fun o' ho => by
  obtain ⟨u, hu⟩ := (h o' ho).1
  refine ⟨?_, ?_⟩
  · by_cases e : o = o'
    · subst e
      exact ⟨v, World.cell?_setCell_same _ _ _ (by rw [hu])⟩
    · exact ⟨u, by rw [World.cell?_setCell_other]; exact hu; simp [e]⟩
  · rw [World.frozen?_setCell]; exact (h o' ho).2
theorem fillR {W : World} {B n k : Nat} {R : Rfs} (hT : There W B (n * 3)) (hk : k < n) (hp : RsAt W B 0 k R) :
    RsAt (((W.setCell ⟨B, k * 3, none⟩ (.int .i64 (R.z k))).setCell ⟨B, k * 3 + 1, none⟩ (.int .i64 (R.x k))).setCell ⟨B, k * 3 + 2, none⟩ (.int .i64 (R.y k))) B 0 (k + 1) R := fun i hi => by
  have ne : ∀ i j : Nat, i ≠ j → (⟨B, i, none⟩ : Addr) ≠ ⟨B, j, none⟩ := fun i j hij h => hij (by injection h)
  simp only [Nat.zero_add]
  by_cases e : i = k
  · subst e
    obtain ⟨u0, h0⟩ := (hT (i * 3) (by omega)).1
    obtain ⟨u1, h1⟩ := (hT (i * 3 + 1) (by omega)).1
    obtain ⟨u2, h2⟩ := (hT (i * 3 + 2) (by omega)).1
    refine ⟨?_, ?_, ?_⟩
    · rw [set1_other (ne _ _ (by omega)), set1_other (ne _ _ (by omega))]; exact set1_same h0
    · rw [set1_other (ne _ _ (by omega))]; exact set1_same (by rw [set1_other (ne _ _ (by omega))]; exact h1)
    · exact set1_same (by rw [set1_other (ne _ _ (by omega)), set1_other (ne _ _ (by omega))]; exact h2)
  · obtain ⟨h0, h1, h2⟩ := hp i (by omega)
    simp only [Nat.zero_add] at h0 h1 h2
    refine ⟨?_, ?_, ?_⟩
    all_goals (rw [set1_other (ne _ _ (by omega)), set1_other (ne _ _ (by omega)), set1_other (ne _ _ (by omega))]; assumption)
theorem grown_setR {w w' : World} {b : Nat} (h : w.grownBy w' (some b)) (o : Nat) (v : Value) : w.grownBy (w'.setCell ⟨b, o, none⟩ v) (some b) := by
  have hb : Below b w' (w'.setCell ⟨b, o, none⟩ v) := (Below.refl b w').setCell (Nat.le_refl _) v
  exact ⟨hb.os.trans h.os, hb.tape.trans h.tape, hb.output.trans h.output, Nat.le_trans h.size hb.size, fun k hk hne => (Below.heap_setCell w' ⟨b, o, none⟩ v k (fun e => hne (by simp at e; rw [e]))).trans (h.block k hk hne)⟩
theorem grown_reflR (w : World) (row : Option Nat) : w.grownBy w row := ⟨rfl, rfl, rfl, Nat.le_refl _, fun _ _ _ => rfl⟩
theorem grown_transR {a b c : World} {r : Option Nat} (h : a.grownBy b r) (k : b.grownBy c r) : a.grownBy c r :=
  ⟨k.os.trans h.os, k.tape.trans h.tape, k.output.trans h.output, Nat.le_trans h.size k.size, fun j hj hs => (k.block j (Nat.lt_of_lt_of_le hj h.size) hs).trans (h.block j hj hs)⟩
theorem grown_belowR {a b : World} {r : Option Nat} (h : Below a.heap.size a b) : a.grownBy b r := ⟨h.os, h.tape, h.output, h.size, fun j hj _ => h.block j hj⟩
/-- The marks from k0 on. -/
def mkR (k0 : Nat) : Rfs := ⟨fun i => ((k0 + 3 * i : Nat) : Int), fun i => ((k0 + 3 * i + 1 : Nat) : Int), fun i => ((k0 + 3 * i + 2 : Nat) : Int)⟩
/-- v is a list of n refs in a block from base on. -/
def OwnT (w : World) (base : Nat) (v : Value) (n : Nat) (R : Rfs) : Prop :=
  ∃ a cap, v = .slice a n cap ∧ n ≤ cap ∧ (n = 0 ∨ ∃ b, a = some ⟨b, 0, none⟩ ∧ base ≤ b ∧ b < w.heap.size ∧ RsAt w b 0 n R ∧ There w b (n * 3))
theorem OwnT.below {w w' : World} {base : Nat} {v : Value} {n : Nat} {R : Rfs} (h : OwnT w base v n R) (hb : Below w.heap.size w w') : OwnT w' base v n R := by
  obtain ⟨a, cap, hv, hc, h0 | ⟨b, ha, hbb, hl, hp, ht⟩⟩ := h
  · exact ⟨a, cap, hv, hc, .inl h0⟩
  · exact ⟨a, cap, hv, hc, .inr ⟨b, ha, hbb, Nat.lt_of_lt_of_le hl hb.size, hp.below hb hl, ht.below hb⟩⟩
theorem OwnT.pts {w : World} {base : Nat} {v : Value} {n : Nat} {R : Rfs} (h : OwnT w base v n R) : ∃ a cap, v = .slice a n cap ∧ n ≤ cap ∧ IsRs w a n R := by
  obtain ⟨a, cap, hv, hc, h0 | ⟨b, ha, hb, hl, hp, ht⟩⟩ := h
  · exact ⟨a, cap, hv, hc, .inl h0⟩
  · exact ⟨a, cap, hv, hc, .inr ⟨b, 0, ha, hl, hp⟩⟩
theorem OwnT.is {w : World} {base : Nat} {a : Option Addr} {n cap : Nat} {R : Rfs} (h : OwnT w base (.slice a n cap) n R) : IsRs w a n R := by
  obtain ⟨a', cap', hv, hc, hi⟩ := h.pts
  injection hv with h1 h2 h3
  subst h1
  exact hi
/-- Refs that lie below block T. -/
def UnderT (T : Nat) (w : World) (a : Option Addr) (n : Nat) (R : Rfs) : Prop := n = 0 ∨ ∃ b off, a = some ⟨b, off, none⟩ ∧ b < T ∧ RsAt w b off n R
theorem UnderT.is {T : Nat} {w : World} {a : Option Addr} {n : Nat} {R : Rfs} (h : UnderT T w a n R) (hT : T ≤ w.heap.size) : IsRs w a n R := by
  rcases h with h | ⟨b, off, e, hl, hp⟩
  · exact .inl h
  · exact .inr ⟨b, off, e, by omega, hp⟩
theorem UnderT.below {T B : Nat} {w w' : World} {a : Option Addr} {n : Nat} {R : Rfs} (h : UnderT T w a n R) (hb : Below B w w') (hB : T ≤ B) : UnderT T w' a n R := by
  rcases h with h | ⟨b, off, e, hl, hp⟩
  · exact .inl h
  · exact .inr ⟨b, off, e, hl, hp.below hb (by omega)⟩
theorem bl_cellR {w w' : World} {p : Addr} {v : Value} (hb : Below w.heap.size w w') (h : w.cell? p = some v) : w'.cell? p = some v := (hb.cell (World.block_lt_of_cell? _ _ h)).trans h
theorem ro_cellR {w w' : World} {b o : Nat} {row : Option Nat} {v : Value} (hg : w.grownBy w' row) (h : w.cell? ⟨b, o, none⟩ = some v) (hs : ∀ s, row = some s → b ≠ s) : w'.cell? ⟨b, o, none⟩ = some v := hg.cell h (fun e => hs _ e.symm rfl)
theorem UnderT.row {T : Nat} {row : Option Nat} {w w' : World} {a : Option Addr} {n : Nat} {R : Rfs} (h : UnderT T w a n R) (hg : w.grownBy w' row) (hs : ∀ s, row = some s → T ≤ s) : UnderT T w' a n R := by
  rcases h with h | ⟨b, off, e, hl, hp⟩
  · exact .inl h
  · refine .inr ⟨b, off, e, hl, fun i hi => ?_⟩
    obtain ⟨h0, h1, h2⟩ := hp i hi
    have hne : ∀ s, row = some s → b ≠ s := fun s e => by have := hs s e; omega
    exact ⟨ro_cellR hg h0 hne, ro_cellR hg h1 hne, ro_cellR hg h2 hne⟩
theorem below_rowR {B : Nat} {row : Option Nat} {a b : World} (h : a.grownBy b row) (hs : ∀ s, row = some s → B ≤ s) (hl : B ≤ a.heap.size) : Below B a b :=
  ⟨h.os, h.tape, h.output, h.size, fun k hk => h.block k (by omega) (fun e => by have := hs k e.symm; omega)⟩
end Go.Proofs.Ytjkmjkfakolpfaa
