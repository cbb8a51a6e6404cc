/- Several texts in one. -/
import Derived.Test.YtiheemnjfihhfaaGreatVRasterTile5
import Derived.Test.YtiheemnjfihhfaaGreatVRasterTile36
import Derived.Test.YtiheemnjfihhfaaGreatVRasterTile1
import Derived.Test.YtiheemnjfihhfaaGreatRows
import Derived.WalkSpells
import Derived.WalkLawsBesides
import Derived.Outline
import Derived.Laws.IdiomStrings

/- Which blocks are written, and what stays. -/

namespace Go.Proofs.YtiheemnjfihhfaaGreat
open Go.RowKit
set_option linter.unusedSimpArgs false
set_option linter.unusedVariables false
set_option maxRecDepth 100000

/-- Only blocks from lo to hi are written. -/
structure MidB (lo hi : Nat) (w w' : World) : Prop where
  os : w'.os = w.os
  tape : w'.tape = w.tape
  output : w'.output = w.output
  size : w.heap.size ≤ w'.heap.size
  block : ∀ k, k < w.heap.size → (k < lo ∨ hi ≤ k) → w'.heap[k]? = w.heap[k]?
theorem MidB.refl (lo hi : Nat) (w : World) : MidB lo hi w w := ⟨rfl, rfl, rfl, Nat.le_refl _, fun _ _ _ => rfl⟩
theorem MidB.trans {lo hi : Nat} {a b c : World} (h : MidB lo hi a b) (k : MidB lo hi b c) : MidB lo hi a c :=
  ⟨k.os.trans h.os, k.tape.trans h.tape, k.output.trans h.output, Nat.le_trans h.size k.size, fun i hi ho => (k.block i (Nat.lt_of_lt_of_le hi h.size) ho).trans (h.block i hi ho)⟩
theorem MidB.of_below {lo hi : Nat} {a b : World} (h : Below a.heap.size a b) : MidB lo hi a b := ⟨h.os, h.tape, h.output, h.size, fun i hi _ => h.block i hi⟩
theorem MidB.of_grown {lo hi s : Nat} {a b : World} (h : a.grownBy b (some s)) (h1 : lo ≤ s) (h2 : s < hi) : MidB lo hi a b :=
  ⟨h.os, h.tape, h.output, h.size, fun j hj ho => h.block j hj (fun e => by injection e with e; omega)⟩
theorem MidB.set {lo hi s : Nat} {a b : World} (h : MidB lo hi a b) (h1 : lo ≤ s) (h2 : s < hi) (o : Nat) (v : Value) : MidB lo hi a (b.setCell ⟨s, o, none⟩ v) :=
  h.trans (MidB.of_grown (grown_set (grown_refl b (some s)) o v) h1 h2)
theorem MidB.below {lo hi : Nat} {a b : World} (h : MidB lo hi a b) (hl : lo ≤ a.heap.size) : Below lo a b := ⟨h.os, h.tape, h.output, h.size, fun k hk => h.block k (by omega) (.inl hk)⟩
theorem MidB.cell {lo hi : Nat} {a b : World} (h : MidB lo hi a b) {p o : Nat} {v : Value} (hc : a.cell? ⟨p, o, none⟩ = some v) (ho : p < lo ∨ hi ≤ p) : b.cell? ⟨p, o, none⟩ = some v := by
  have hp := World.block_lt_of_cell? _ _ hc
  have he := h.block p hp ho
  have hg : a.grownBy (b) none ∨ True := .inr trivial
  unfold World.cell? at hc ⊢
  simp only [he]
  exact hc
theorem MidB.there {lo hi : Nat} {a b : World} (h : MidB lo hi a b) {p n : Nat} (hT : There a p n) (ho : p < lo ∨ hi ≤ p) : There b p n := fun o hn => by
  obtain ⟨v, hv⟩ := (hT o hn).1
  refine ⟨⟨v, h.cell hv ho⟩, ?_⟩
  have he := h.block p (World.block_lt_of_cell? _ _ hv) ho
  have hz := (hT o hn).2
  unfold World.frozen? at hz ⊢
  simp only [he]
  exact hz
theorem There.grown {w w' : World} {p n s : Nat} (h : There w p n) (hg : w.grownBy w' (some s)) (hs : p ≠ s) : There w' p n := fun o hn => by
  obtain ⟨v, hv⟩ := (h o hn).1
  refine ⟨⟨v, gr_cell hg hv hs⟩, ?_⟩
  have he := hg.block p (World.block_lt_of_cell? _ _ hv) (fun e => hs (by injection e))
  have hz := (h o hn).2
  unfold World.frozen? at hz ⊢
  simp only [he]
  exact hz
end Go.Proofs.YtiheemnjfihhfaaGreat
/- Lists of features in memory of their own: which blocks are written, and what stays. -/

namespace Go.Proofs.YtiheemnjfihhfaaGreat
open Go.RowKit
set_option linter.unusedSimpArgs false
set_option linter.unusedVariables false
set_option maxRecDepth 100000

/-- A list of features whose blocks lie from lo to hi and may be written, no two alike. -/
def OwnQ (w : World) (lo hi b n : Nat) (N C q : Nat → Nat) : Prop :=
  (lo ≤ b ∧ b < hi ∧ hi ≤ w.heap.size) ∧ There w b (n * 7) ∧
  (∀ i, i < n → (lo ≤ q i ∧ q i < hi ∧ q i ≠ b) ∧ There w (q i) (N i * 2) ∧ w.cell? ⟨b, i * 7 + 4, none⟩ = some (.slice (some ⟨q i, 0, none⟩) (N i) (C i))) ∧
  (∀ i j, i < n → j < n → q i = q j → i = j)
theorem OwnQ.below {w w' : World} {lo hi b n : Nat} {N C q : Nat → Nat} (h : OwnQ w lo hi b n N C q) (hb : Below w.heap.size w w') : OwnQ w' lo hi b n N C q := by
  obtain ⟨⟨h1, h2, h3⟩, h4, h5, h6⟩ := h
  exact ⟨⟨h1, h2, Nat.le_trans h3 hb.size⟩, h4.below hb, fun i hi => ⟨(h5 i hi).1, (h5 i hi).2.1.below hb, bl_cell hb (h5 i hi).2.2⟩, h6⟩
theorem OwnQ.away {w w' : World} {lo hi lo' hi' b n : Nat} {N C q : Nat → Nat} (h : OwnQ w lo hi b n N C q) (hm : MidB lo' hi' w w') (ho : hi' ≤ lo ∨ hi ≤ lo') : OwnQ w' lo hi b n N C q := by
  obtain ⟨⟨h1, h2, h3⟩, h4, h5, h6⟩ := h
  exact ⟨⟨h1, h2, Nat.le_trans h3 hm.size⟩, hm.there h4 (by omega), fun i hi => ⟨(h5 i hi).1, hm.there (h5 i hi).2.1 (by have := (h5 i hi).1; omega), hm.cell (h5 i hi).2.2 (by omega)⟩, h6⟩

end Go.Proofs.YtiheemnjfihhfaaGreat
/- The text of a mark: the same for the same number. -/

namespace Go.Proofs.YtiheemnjfihhfaaGreat
open Go.RowKit
set_option linter.unusedSimpArgs false
set_option linter.unusedVariables false
set_option maxRecDepth 100000

def dgB (m : Nat) : UInt8 := UInt8.ofNat (48 + m % 10)
theorem dgB_nat (m : Nat) : (dgB m).toNat = 48 + m % 10 := by
  unfold dgB
  rw [UInt8.toNat_ofNat']
  omega
/-- The digits of k, ahead of s. -/
def mDg (k : Nat) (s : ByteArray) : ByteArray := if h : k = 0 then s else mDg (k / 10) (⟨#[dgB k]⟩ ++ s)
termination_by k
decreasing_by omega
def mTx (k : Nat) : ByteArray := ⟨#[109]⟩ ++ mDg k ⟨#[]⟩
set_option maxHeartbeats 2000000 in
theorem markText_any (k : Nat) (w : World) (h0 : 0 < k) (hk : k ≤ 1152921504606846976) :
    Calls Tryz.prog 55 #[.int .i64 (k : Int)] w fun e w' => e = .returned (.string (mTx k)) ∧ Below w.heap.size w w' := by
  have hneg : ¬ (k : Int) ≤ 0 := by omega
  go_enter Tryz.func55, Tryz.ntmps55
  go_wp2
  go_loopw [0, 3] (fun kk o wr => ∃ (m : Nat) (s : ByteArray) (j : Nat), kk = .int .i64 (m : Int) ∧ o = .string s ∧ m ≤ k ∧ mDg m s = mDg k ⟨#[]⟩ ∧ m < 10 ^ j ∧ s.size + j = 20 ∧ Below w.heap.size w wr) (fun kk _ _ => (intOf kk).toNat)
  case atStart => exact ⟨k, ⟨#[]⟩, 20, rfl, rfl, Nat.le_refl _, rfl, by omega, rfl, Below.refl _ _⟩
  case round =>
    obtain ⟨m, s, j, rfl, rfl, hm, hd, hj, hsj, hB⟩ := hrel
    by_cases hz : 0 < m
    · have hz' : (0 : Int) < (m : Int) := by omega
      have HD : Hid (mDg m s = mDg k ⟨#[]⟩) := hd
      have HJ : Hid (m < 10 ^ j) := hj
      clear hd hj
      have hcv : ∀ W B : World, W = B.alloc (.cells #[.int .u8 (48 + (m : Int) % 10)] 5) → (convert 120 9 (.slice (some ⟨B.heap.size, 0, none⟩) 1 1)).run Tryz.prog W = .ok (.string ⟨#[dgB m]⟩) W := fun W B e => by
        subst e
        have h := run_convert_bytes_back (P := Tryz.prog) (B.alloc (.cells #[.int .u8 (48 + (m : Int) % 10)] 5)) 120 9 5 ⟨B.heap.size, 0, none⟩ 1 [dgB m] Tryz.underlying120 Tryz.underlying5 Tryz.underlying9
        refine h (fun j hj => ?_)
        have hj0 : j = 0 := by simpa using hj
        subst hj0
        simp [Addr.add, go_sem, dgB_nat]
      have hcw := hcv _ wr rfl
      clear hcv
      go_wp2
      go_roundw
      case rel =>
        have hjp : 0 < j := by
          rcases Nat.eq_zero_or_pos j with h | h
          · have := HJ.out; rw [h] at this; simp at this; omega
          · exact h
        refine ⟨m / 10, _, j - 1, by simp, rfl, by omega, ?_, ?_, ?_, by (repeat (first | exact Below.refl _ _ | assumption | refine Below.drew ?_ | refine bl_alloc ?_ _ | refine bl_then ?_ (by assumption) | refine Below.setCell ?_ (by first | omega | (simp; done) | (simp; omega)) _ | refine bl_store ?_ ?_ _ _))⟩
        · rw [← HD.out]
          conv => rhs; rw [mDg]
          rw [dif_neg (by omega)]
        · have h1 := HJ.out
          have e : j = (j - 1) + 1 := by omega
          rw [e, Nat.pow_succ] at h1
          omega
        · have e1 : (⟨#[dgB m]⟩ : ByteArray).size = 1 := rfl
          rw [ByteArray.size_append, e1]
          omega
      case measure => simp [intOf]; omega
    · have hm0 : m = 0 := by omega
      subst hm0
      have HE : Hid (s = mDg k ⟨#[]⟩) := by
        show _ = _
        rw [← hd]
        rw [mDg]
        simp
      clear hd hj
      go_wp2
      go_ret
      refine ⟨?_, hB⟩
      have := HE.out
      rw [mTx, ← this]
      rfl
end Go.Proofs.YtiheemnjfihhfaaGreat
