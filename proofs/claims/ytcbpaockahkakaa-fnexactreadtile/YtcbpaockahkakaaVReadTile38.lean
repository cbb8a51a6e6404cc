/- Several texts in one. -/
import Derived.Test.YtcbpaockahkakaaVReadTile37
import Derived.Test.YtcbpaockahkakaaVReadTile24
import Derived.Test.YtcbpaockahkakaaVReadTile7
import Derived.Test.YtcbpaockahkakaaVReadTile18
import Derived.Test.YtcbpaockahkakaaVReadTile1
import Derived.Test.YtcbpaockahkakaaRows
import Derived.WalkSpells
import Derived.WalkLawsBesides
import Derived.Outline
import Derived.Laws.IdiomStrings

/- The model's UnpackList, of bytes that lie somewhere. -/

namespace Go.Proofs.Ytcbpaockahkakaa
open Go.RowKit
set_option linter.unusedSimpArgs false
set_option linter.unusedVariables false
set_option maxRecDepth 100000
set_option maxHeartbeats 4000000 in
theorem spec_UnpackList_some (b off n cap : Nat) (Z : Nat → Int) (w : World) (hb : b < w.heap.size) (hs : BsAt w b off n Z) (hc : n ≤ cap) (hz : ∀ i, 0 ≤ Z i ∧ Z i ≤ 255) (hn : n ≤ 1048576) :
    Calls Try.prog 9 #[.slice (some ⟨b, off, none⟩) n cap] w (UnP Z n w) := by
  have HZ : Hid (∀ i, 0 ≤ Z i ∧ Z i ≤ 255) := hz
  have HS : Hid (BsAt w b off n Z) := hs
  clear hs hz
  by_cases h9 : 900 < n
  · have h9' : (900 : Int) < (n : Int) := by omega
    have HE : Hid (∀ w', Below w.heap.size w w' → UnP Z n w (.returned (.agg #[.int .i64 2, .slice none 0 0])) w') := fun w' hb => by unfold UnP; rw [if_pos h9]; exact ⟨rfl, hb⟩
    go_enter Try.func9, Try.ntmps9
    go_wp2_with fail
    exact bodyPost_ret (v := .agg #[.int .i64 2, .slice none 0 0]) (by simp [results, Try.results9, go_sem]) rfl (HE.out _ (by (repeat (first | exact Below.refl _ _ | assumption | refine Below.drew ?_ | refine bl_alloc ?_ _ | refine bl_then ?_ (by assumption) | refine Below.setCell ?_ (by first | omega | (simp; done) | (simp; omega)) _ | refine bl_store ?_ ?_ _ _))))
  · have h9' : ¬ (900 : Int) < (n : Int) := by omega
    go_enter Try.func9, Try.ntmps9
    go_wp2_with fail
    generalize hW : (w.alloc _ : World) = W
    have hB0 : Below w.heap.size w W := by subst hW; (repeat (first | exact Below.refl _ _ | assumption | refine Below.drew ?_ | refine bl_alloc ?_ _ | refine bl_then ?_ (by assumption) | refine Below.setCell ?_ (by first | omega | (simp; done) | (simp; omega)) _ | refine bl_store ?_ ?_ _ _))
    have hT0 : There W w.heap.size 2 := fun o ho => by
      subst hW
      match o, ho with
      | 0, _ => exact ⟨⟨_, by simp [go_sem]; rfl⟩, by simp [go_sem]⟩
      | 1, _ => exact ⟨⟨_, by simp [go_sem]; rfl⟩, by simp [go_sem]⟩
    have hlW : w.heap.size < W.heap.size := by subst hW; simp [go_sem]
    clear hW
    refine Calls.mono (l6Unpack_any b off n cap Z W (by omega) (fun i hi => (hB0.cell (p := ⟨b, off + i, none⟩) hb).trans (HS.out i hi)) hc HZ.out hn) ?_
    rintro e w1 ⟨hu, hb1⟩
    have hT1 : There w1 w.heap.size 2 := hT0.belowY hb1 hlW
    have HB1 : Hid (Below w.heap.size w w1) := hB0.trans (hb1.mono (Nat.le_of_lt hlW))
    have t0 := hT1.cell 0 (by omega)
    have t1 := hT1.cell 1 (by omega)
    have f0 := (hT1 0 (by omega)).2
    have f1 := (hT1 1 (by omega)).2
    rw [up_same HZ.out] at hu
    cases hg : upG Z n with
    | none =>
      rw [hg] at hu
      obtain ⟨v, rfl⟩ := hu
      obtain ⟨s0, s1⟩ := set2_at (r := w.heap.size) (W := w1) (i := 0) (j := 1) (u := .int .i64 5) (v := .slice none 0 0) (by omega) (by rw [t0]; rfl) (by rw [t1]; rfl)
      have HBf : Below w.heap.size w ((w1.setCell ⟨w.heap.size, 0, none⟩ (.int .i64 5)).setCell ⟨w.heap.size, 1, none⟩ (.slice none 0 0)) := (HB1.out.setCell (p := ⟨w.heap.size, 0, none⟩) (Nat.le_refl _) _).setCell (p := ⟨w.heap.size, 1, none⟩) (Nat.le_refl _) _
      have HE : Hid (UnP Z n w (.returned (.agg #[.int .i64 5, .slice none 0 0])) ((w1.setCell ⟨w.heap.size, 0, none⟩ (.int .i64 5)).setCell ⟨w.heap.size, 1, none⟩ (.slice none 0 0))) := UnP.none h9 hg HBf
      clear HBf hb1 hT1 hT0
      go_wp2_with fail
      exact bodyPost_ret (v := .agg #[.int .i64 5, .slice none 0 0]) (by simp [results, Try.results9, go_sem, s0, s1]) rfl HE.out
    | some fs =>
      rw [hg] at hu
      obtain ⟨v, H, rfl, hX⟩ := hu
      obtain ⟨s0, s1⟩ := set2_at (r := w.heap.size) (W := w1) (i := 0) (j := 1) (u := .int .i64 0) (v := v) (by omega) (by rw [t0]; rfl) (by rw [t1]; rfl)
      have HBf : Below w.heap.size w ((w1.setCell ⟨w.heap.size, 0, none⟩ (.int .i64 0)).setCell ⟨w.heap.size, 1, none⟩ v) := (HB1.out.setCell (p := ⟨w.heap.size, 0, none⟩) (Nat.le_refl _) _).setCell (p := ⟨w.heap.size, 1, none⟩) (Nat.le_refl _) _
      have HE : Hid (UnP Z n w (.returned (.agg #[.int .i64 0, v])) ((w1.setCell ⟨w.heap.size, 0, none⟩ (.int .i64 0)).setCell ⟨w.heap.size, 1, none⟩ v)) := UnP.some h9 hg (((hX.setLow hlW).setLow hlW).wide (Nat.le_of_lt hlW)) HBf
      obtain ⟨va, vc, hv, _⟩ := hX.is
      subst hv
      clear HBf hb1 hT1 hT0 hX
      go_wp2_with fail
      exact bodyPost_ret (v := .agg #[.int .i64 0, .slice va fs.length vc]) (by simp [results, Try.results9, go_sem, s0, s1]) rfl HE.out
end Go.Proofs.Ytcbpaockahkakaa
/- Which blocks are written, and what stays. -/

namespace Go.Proofs.Ytcbpaockahkakaa
open Go.RowKit
set_option linter.unusedSimpArgs false
set_option linter.unusedVariables false
set_option maxRecDepth 100000

/-- Only blocks from lo to hi are written. -/
structure MidB (lo hi : Nat) (w w' : World) : Prop where
  os : w'.os = w.os
  tape : w'.tape = w.tape
  output : w'.output = w.output
  size : w.heap.size ≤ w'.heap.size
  block : ∀ k, k < w.heap.size → (k < lo ∨ hi ≤ k) → w'.heap[k]? = w.heap[k]?
theorem MidB.refl (lo hi : Nat) (w : World) : MidB lo hi w w := ⟨rfl, rfl, rfl, Nat.le_refl _, fun _ _ _ => rfl⟩
theorem MidB.trans {lo hi : Nat} {a b c : World} (h : MidB lo hi a b) (k : MidB lo hi b c) : MidB lo hi a c :=
  ⟨k.os.trans h.os, k.tape.trans h.tape, k.output.trans h.output, Nat.le_trans h.size k.size, fun i hi ho => (k.block i (Nat.lt_of_lt_of_le hi h.size) ho).trans (h.block i hi ho)⟩
theorem MidB.of_below {lo hi : Nat} {a b : World} (h : Below a.heap.size a b) : MidB lo hi a b := ⟨h.os, h.tape, h.output, h.size, fun i hi _ => h.block i hi⟩
theorem MidB.of_grown {lo hi s : Nat} {a b : World} (h : a.grownBy b (some s)) (h1 : lo ≤ s) (h2 : s < hi) : MidB lo hi a b :=
  ⟨h.os, h.tape, h.output, h.size, fun j hj ho => h.block j hj (fun e => by injection e with e; omega)⟩
theorem MidB.set {lo hi s : Nat} {a b : World} (h : MidB lo hi a b) (h1 : lo ≤ s) (h2 : s < hi) (o : Nat) (v : Value) : MidB lo hi a (b.setCell ⟨s, o, none⟩ v) :=
  h.trans (MidB.of_grown (grown_set (grown_refl b (some s)) o v) h1 h2)
theorem MidB.below {lo hi : Nat} {a b : World} (h : MidB lo hi a b) (hl : lo ≤ a.heap.size) : Below lo a b := ⟨h.os, h.tape, h.output, h.size, fun k hk => h.block k (by omega) (.inl hk)⟩
theorem MidB.cell {lo hi : Nat} {a b : World} (h : MidB lo hi a b) {p o : Nat} {v : Value} (hc : a.cell? ⟨p, o, none⟩ = some v) (ho : p < lo ∨ hi ≤ p) : b.cell? ⟨p, o, none⟩ = some v := by
  have hp := World.block_lt_of_cell? _ _ hc
  have he := h.block p hp ho
  have hg : a.grownBy (b) none ∨ True := .inr trivial
  unfold World.cell? at hc ⊢
  simp only [he]
  exact hc
theorem MidB.there {lo hi : Nat} {a b : World} (h : MidB lo hi a b) {p n : Nat} (hT : There a p n) (ho : p < lo ∨ hi ≤ p) : There b p n := fun o hn => by
  obtain ⟨v, hv⟩ := (hT o hn).1
  refine ⟨⟨v, h.cell hv ho⟩, ?_⟩
  have he := h.block p (World.block_lt_of_cell? _ _ hv) ho
  have hz := (hT o hn).2
  unfold World.frozen? at hz ⊢
  simp only [he]
  exact hz
theorem There.grown {w w' : World} {p n s : Nat} (h : There w p n) (hg : w.grownBy w' (some s)) (hs : p ≠ s) : There w' p n := fun o hn => by
  obtain ⟨v, hv⟩ := (h o hn).1
  refine ⟨⟨v, gr_cell hg hv hs⟩, ?_⟩
  have he := hg.block p (World.block_lt_of_cell? _ _ hv) (fun e => hs (by injection e))
  have hz := (h o hn).2
  unfold World.frozen? at hz ⊢
  simp only [he]
  exact hz
end Go.Proofs.Ytcbpaockahkakaa
/- Lists of features in memory of their own: which blocks are written, and what stays. -/

namespace Go.Proofs.Ytcbpaockahkakaa
open Go.RowKit
set_option linter.unusedSimpArgs false
set_option linter.unusedVariables false
set_option maxRecDepth 100000

/-- A list of features whose blocks lie from lo to hi and may be written, no two alike. -/
def OwnQ (w : World) (lo hi b n : Nat) (N C q : Nat → Nat) : Prop :=
  (lo ≤ b ∧ b < hi ∧ hi ≤ w.heap.size) ∧ There w b (n * 7) ∧
  (∀ i, i < n → (lo ≤ q i ∧ q i < hi ∧ q i ≠ b) ∧ There w (q i) (N i * 2) ∧ w.cell? ⟨b, i * 7 + 4, none⟩ = some (.slice (some ⟨q i, 0, none⟩) (N i) (C i))) ∧
  (∀ i j, i < n → j < n → q i = q j → i = j)
theorem OwnQ.below {w w' : World} {lo hi b n : Nat} {N C q : Nat → Nat} (h : OwnQ w lo hi b n N C q) (hb : Below w.heap.size w w') : OwnQ w' lo hi b n N C q := by
  obtain ⟨⟨h1, h2, h3⟩, h4, h5, h6⟩ := h
  exact ⟨⟨h1, h2, Nat.le_trans h3 hb.size⟩, h4.below hb, fun i hi => ⟨(h5 i hi).1, (h5 i hi).2.1.below hb, bl_cell hb (h5 i hi).2.2⟩, h6⟩
theorem OwnQ.away {w w' : World} {lo hi lo' hi' b n : Nat} {N C q : Nat → Nat} (h : OwnQ w lo hi b n N C q) (hm : MidB lo' hi' w w') (ho : hi' ≤ lo ∨ hi ≤ lo') : OwnQ w' lo hi b n N C q := by
  obtain ⟨⟨h1, h2, h3⟩, h4, h5, h6⟩ := h
  exact ⟨⟨h1, h2, Nat.le_trans h3 hm.size⟩, hm.there h4 (by omega), fun i hi => ⟨(h5 i hi).1, hm.there (h5 i hi).2.1 (by have := (h5 i hi).1; omega), hm.cell (h5 i hi).2.2 (by omega)⟩, h6⟩

end Go.Proofs.Ytcbpaockahkakaa
/- The text of a mark: the same for the same number. -/

namespace Go.Proofs.Ytcbpaockahkakaa
open Go.RowKit
set_option linter.unusedSimpArgs false
set_option linter.unusedVariables false
set_option maxRecDepth 100000

def dgB (m : Nat) : UInt8 := UInt8.ofNat (48 + m % 10)
theorem dgB_nat (m : Nat) : (dgB m).toNat = 48 + m % 10 := by
  unfold dgB
  rw [UInt8.toNat_ofNat']
  omega
/-- The digits of k, ahead of s. -/
def mDg (k : Nat) (s : ByteArray) : ByteArray := if h : k = 0 then s else mDg (k / 10) (⟨#[dgB k]⟩ ++ s)
termination_by k
decreasing_by omega
def mTx (k : Nat) : ByteArray := ⟨#[109]⟩ ++ mDg k ⟨#[]⟩
set_option maxHeartbeats 2000000 in
theorem markText_any (k : Nat) (w : World) (h0 : 0 < k) (hk : k ≤ 1152921504606846976) :
    Calls Try.prog 79 #[.int .i64 (k : Int)] w fun e w' => e = .returned (.string (mTx k)) ∧ Below w.heap.size w w' := by
  have hneg : ¬ (k : Int) ≤ 0 := by omega
  go_enter Try.func79, Try.ntmps79
  go_wp2
  go_loopw [0, 3] (fun kk o wr => ∃ (m : Nat) (s : ByteArray) (j : Nat), kk = .int .i64 (m : Int) ∧ o = .string s ∧ m ≤ k ∧ mDg m s = mDg k ⟨#[]⟩ ∧ m < 10 ^ j ∧ s.size + j = 20 ∧ Below w.heap.size w wr) (fun kk _ _ => (intOf kk).toNat)
  case atStart => exact ⟨k, ⟨#[]⟩, 20, rfl, rfl, Nat.le_refl _, rfl, by omega, rfl, Below.refl _ _⟩
  case round =>
    obtain ⟨m, s, j, rfl, rfl, hm, hd, hj, hsj, hB⟩ := hrel
    by_cases hz : 0 < m
    · have hz' : (0 : Int) < (m : Int) := by omega
      have HD : Hid (mDg m s = mDg k ⟨#[]⟩) := hd
      have HJ : Hid (m < 10 ^ j) := hj
      clear hd hj
      have hcv : ∀ W B : World, W = B.alloc (.cells #[.int .u8 (48 + (m : Int) % 10)] 5) → (convert 22 9 (.slice (some ⟨B.heap.size, 0, none⟩) 1 1)).run Try.prog W = .ok (.string ⟨#[dgB m]⟩) W := fun W B e => by
        subst e
        have h := run_convert_bytes_back (P := Try.prog) (B.alloc (.cells #[.int .u8 (48 + (m : Int) % 10)] 5)) 22 9 5 ⟨B.heap.size, 0, none⟩ 1 [dgB m] Try.underlying22 Try.underlying5 Try.underlying9
        refine h (fun j hj => ?_)
        have hj0 : j = 0 := by simpa using hj
        subst hj0
        simp [Addr.add, go_sem, dgB_nat]
      have hcw := hcv _ wr rfl
      clear hcv
      go_wp2
      go_roundw
      case rel =>
        have hjp : 0 < j := by
          rcases Nat.eq_zero_or_pos j with h | h
          · have := HJ.out; rw [h] at this; simp at this; omega
          · exact h
        refine ⟨m / 10, _, j - 1, by simp, rfl, by omega, ?_, ?_, ?_, by (repeat (first | exact Below.refl _ _ | assumption | refine Below.drew ?_ | refine bl_alloc ?_ _ | refine bl_then ?_ (by assumption) | refine Below.setCell ?_ (by first | omega | (simp; done) | (simp; omega)) _ | refine bl_store ?_ ?_ _ _))⟩
        · rw [← HD.out]
          conv => rhs; rw [mDg]
          rw [dif_neg (by omega)]
        · have h1 := HJ.out
          have e : j = (j - 1) + 1 := by omega
          rw [e, Nat.pow_succ] at h1
          omega
        · have e1 : (⟨#[dgB m]⟩ : ByteArray).size = 1 := rfl
          rw [ByteArray.size_append, e1]
          omega
      case measure => simp [intOf]; omega
    · have hm0 : m = 0 := by omega
      subst hm0
      have HE : Hid (s = mDg k ⟨#[]⟩) := by
        show _ = _
        rw [← hd]
        rw [mDg]
        simp
      clear hd hj
      go_wp2
      go_ret
      refine ⟨?_, hB⟩
      have := HE.out
      rw [mTx, ← this]
      rfl
end Go.Proofs.Ytcbpaockahkakaa
