/- Several texts in one. -/
import Derived.Test.YtjnglencgkhhaaaVSimples1
import Derived.Test.YtjnglencgkhhaaaVSimples3
import Derived.ProofKit
import Derived.OpenShut
import Derived.ChangeOld
import Derived.Deep.Slices

/- Two stores, read back. -/

namespace Go.Proofs.Ytjnglencgkhhaaa
open Go.RowKit
theorem set1_other {W : World} {a p : Addr} {u : Value} (h : a ≠ p) : (W.setCell a u).cell? p = W.cell? p := World.cell?_setCell_other _ _ _ _ h
theorem set1_same {W : World} {a : Addr} {u x : Value} (h : W.cell? a = some x) : (W.setCell a u).cell? a = some u := World.cell?_setCell_same _ _ _ h
theorem set2_other {W : World} {a a' p : Addr} {u v : Value} (h : a ≠ p) (h' : a' ≠ p) : ((W.setCell a u).setCell a' v).cell? p = W.cell? p := by
  rw [set1_other h', set1_other h]
theorem set2_at {W : World} {r i j : Nat} {u v : Value} (hij : i ≠ j) (h0 : (W.cell? ⟨r, i, none⟩).isSome = true) (h1 : (W.cell? ⟨r, j, none⟩).isSome = true) :
    ((W.setCell ⟨r, i, none⟩ u).setCell ⟨r, j, none⟩ v).cell? ⟨r, i, none⟩ = some u ∧ ((W.setCell ⟨r, i, none⟩ u).setCell ⟨r, j, none⟩ v).cell? ⟨r, j, none⟩ = some v := by
  obtain ⟨x, hx⟩ := Option.isSome_iff_exists.1 h0
  obtain ⟨y, hy⟩ := Option.isSome_iff_exists.1 h1
  have n1 : (⟨r, i, none⟩ : Addr) ≠ ⟨r, j, none⟩ := fun h => hij (by injection h)
  have n2 : (⟨r, j, none⟩ : Addr) ≠ ⟨r, i, none⟩ := fun h => n1 h.symm
  refine ⟨?_, ?_⟩
  · rw [set1_other n2]; exact set1_same hx
  · exact set1_same (by rw [set1_other n1]; exact hy)
/-- Four stores into one block, read back. -/
theorem set4_at {W : World} {r : Nat} {a b c d : Value} (hT : There W r 4) :
    ((((W.setCell ⟨r, 0, none⟩ a).setCell ⟨r, 1, none⟩ b).setCell ⟨r, 2, none⟩ c).setCell ⟨r, 3, none⟩ d).cell? ⟨r, 0, none⟩ = some a ∧
    ((((W.setCell ⟨r, 0, none⟩ a).setCell ⟨r, 1, none⟩ b).setCell ⟨r, 2, none⟩ c).setCell ⟨r, 3, none⟩ d).cell? ⟨r, 1, none⟩ = some b ∧
    ((((W.setCell ⟨r, 0, none⟩ a).setCell ⟨r, 1, none⟩ b).setCell ⟨r, 2, none⟩ c).setCell ⟨r, 3, none⟩ d).cell? ⟨r, 2, none⟩ = some c ∧
    ((((W.setCell ⟨r, 0, none⟩ a).setCell ⟨r, 1, none⟩ b).setCell ⟨r, 2, none⟩ c).setCell ⟨r, 3, none⟩ d).cell? ⟨r, 3, none⟩ = some d := by
  obtain ⟨x0, h0⟩ := (hT 0 (by omega)).1
  obtain ⟨x1, h1⟩ := (hT 1 (by omega)).1
  obtain ⟨x2, h2⟩ := (hT 2 (by omega)).1
  obtain ⟨x3, h3⟩ := (hT 3 (by omega)).1
  have ne : ∀ i j : Nat, i ≠ j → (⟨r, i, none⟩ : Addr) ≠ ⟨r, j, none⟩ := fun i j hij h => hij (by injection h)
  refine ⟨?_, ?_, ?_, ?_⟩
  · rw [set1_other (ne 3 0 (by omega)), set1_other (ne 2 0 (by omega)), set1_other (ne 1 0 (by omega))]; exact set1_same h0
  · rw [set1_other (ne 3 1 (by omega)), set1_other (ne 2 1 (by omega))]; exact set1_same (by rw [set1_other (ne 0 1 (by omega))]; exact h1)
  · rw [set1_other (ne 3 2 (by omega))]; exact set1_same (by rw [set1_other (ne 1 2 (by omega)), set1_other (ne 0 2 (by omega))]; exact h2)
  · exact set1_same (by rw [set1_other (ne 2 3 (by omega)), set1_other (ne 1 3 (by omega)), set1_other (ne 0 3 (by omega))]; exact h3)
end Go.Proofs.Ytjnglencgkhhaaa
/- Six stores into three blocks, read back. -/

namespace Go.Proofs.Ytjnglencgkhhaaa
open Go.RowKit
theorem set6_at {W : World} {r : Nat} {a b c d e f : Value} (hT0 : There W r 2) (hT1 : There W (r + 1) 2) (hT2 : There W (r + 1 + 1) 2) :
    ((((((W.setCell ⟨r, 0, none⟩ a).setCell ⟨r, 1, none⟩ b).setCell ⟨r + 1, 0, none⟩ c).setCell ⟨r + 1, 1, none⟩ d).setCell ⟨r + 1 + 1, 0, none⟩ e).setCell ⟨r + 1 + 1, 1, none⟩ f).cell? ⟨r, 0, none⟩ = some a ∧
    ((((((W.setCell ⟨r, 0, none⟩ a).setCell ⟨r, 1, none⟩ b).setCell ⟨r + 1, 0, none⟩ c).setCell ⟨r + 1, 1, none⟩ d).setCell ⟨r + 1 + 1, 0, none⟩ e).setCell ⟨r + 1 + 1, 1, none⟩ f).cell? ⟨r, 1, none⟩ = some b ∧
    ((((((W.setCell ⟨r, 0, none⟩ a).setCell ⟨r, 1, none⟩ b).setCell ⟨r + 1, 0, none⟩ c).setCell ⟨r + 1, 1, none⟩ d).setCell ⟨r + 1 + 1, 0, none⟩ e).setCell ⟨r + 1 + 1, 1, none⟩ f).cell? ⟨r + 1, 0, none⟩ = some c ∧
    ((((((W.setCell ⟨r, 0, none⟩ a).setCell ⟨r, 1, none⟩ b).setCell ⟨r + 1, 0, none⟩ c).setCell ⟨r + 1, 1, none⟩ d).setCell ⟨r + 1 + 1, 0, none⟩ e).setCell ⟨r + 1 + 1, 1, none⟩ f).cell? ⟨r + 1, 1, none⟩ = some d ∧
    ((((((W.setCell ⟨r, 0, none⟩ a).setCell ⟨r, 1, none⟩ b).setCell ⟨r + 1, 0, none⟩ c).setCell ⟨r + 1, 1, none⟩ d).setCell ⟨r + 1 + 1, 0, none⟩ e).setCell ⟨r + 1 + 1, 1, none⟩ f).cell? ⟨r + 1 + 1, 0, none⟩ = some e ∧
    ((((((W.setCell ⟨r, 0, none⟩ a).setCell ⟨r, 1, none⟩ b).setCell ⟨r + 1, 0, none⟩ c).setCell ⟨r + 1, 1, none⟩ d).setCell ⟨r + 1 + 1, 0, none⟩ e).setCell ⟨r + 1 + 1, 1, none⟩ f).cell? ⟨r + 1 + 1, 1, none⟩ = some f := by
  have nb : ∀ i j o o' : Nat, i ≠ j → (⟨i, o, none⟩ : Addr) ≠ ⟨j, o', none⟩ := fun i j o o' h e => h (by injection e)
  have no : ∀ i o o' : Nat, o ≠ o' → (⟨i, o, none⟩ : Addr) ≠ ⟨i, o', none⟩ := fun i o o' h e => h (by injection e)
  obtain ⟨u0, h0⟩ := (hT0 0 (by omega)).1
  obtain ⟨u1, h1⟩ := (hT0 1 (by omega)).1
  obtain ⟨u2, h2⟩ := (hT1 0 (by omega)).1
  obtain ⟨u3, h3⟩ := (hT1 1 (by omega)).1
  obtain ⟨u4, h4⟩ := (hT2 0 (by omega)).1
  obtain ⟨u5, h5⟩ := (hT2 1 (by omega)).1
  refine ⟨?_, ?_, ?_, ?_, ?_, ?_⟩
  · rw [set1_other (nb _ _ _ _ (by omega)), set1_other (nb _ _ _ _ (by omega)), set1_other (nb _ _ _ _ (by omega)), set1_other (nb _ _ _ _ (by omega)), set1_other (no _ _ _ (by omega))]; exact set1_same (u := a) (x := u0) (by exact h0)
  · rw [set1_other (nb _ _ _ _ (by omega)), set1_other (nb _ _ _ _ (by omega)), set1_other (nb _ _ _ _ (by omega)), set1_other (nb _ _ _ _ (by omega))]; exact set1_same (u := b) (x := u1) (by rw [set1_other (no _ _ _ (by omega))]; exact h1)
  · rw [set1_other (nb _ _ _ _ (by omega)), set1_other (nb _ _ _ _ (by omega)), set1_other (no _ _ _ (by omega))]; exact set1_same (u := c) (x := u2) (by rw [set1_other (nb _ _ _ _ (by omega)), set1_other (nb _ _ _ _ (by omega))]; exact h2)
  · rw [set1_other (nb _ _ _ _ (by omega)), set1_other (nb _ _ _ _ (by omega))]; exact set1_same (u := d) (x := u3) (by rw [set1_other (no _ _ _ (by omega)), set1_other (nb _ _ _ _ (by omega)), set1_other (nb _ _ _ _ (by omega))]; exact h3)
  · rw [set1_other (no _ _ _ (by omega))]; exact set1_same (u := e) (x := u4) (by rw [set1_other (nb _ _ _ _ (by omega)), set1_other (nb _ _ _ _ (by omega)), set1_other (nb _ _ _ _ (by omega)), set1_other (nb _ _ _ _ (by omega))]; exact h4)
  · exact set1_same (u := f) (x := u5) (by rw [set1_other (no _ _ _ (by omega)), set1_other (nb _ _ _ _ (by omega)), set1_other (nb _ _ _ _ (by omega)), set1_other (nb _ _ _ _ (by omega)), set1_other (nb _ _ _ _ (by omega))]; exact h5)
end Go.Proofs.Ytjnglencgkhhaaa
/- Drawn arguments of CrossOf and of IsNear: whatever they are, nothing that was there is written. -/

namespace Go.Proofs.Ytjnglencgkhhaaa
open Go.RowKit
set_option linter.unusedSimpArgs false
set_option linter.unusedVariables false

/-- The bytes of a code that came in. -/
def IsBytes (w : World) (a : Option Addr) (n : Nat) (Z : Nat → Int) : Prop :=
  n = 0 ∨ ∃ b off, a = some ⟨b, off, none⟩ ∧ b < w.heap.size ∧ ∀ i, i < n → w.cell? ⟨b, off + i, none⟩ = some (.int .u8 (Z i))
theorem IsBytes.below {w w' : World} {a : Option Addr} {n : Nat} {Z : Nat → Int} (h : IsBytes w a n Z) (hb : Below w.heap.size w w') : IsBytes w' a n Z := by
  rcases h with h | ⟨b, off, e, hl, hz⟩
  · exact .inl h
  · exact .inr ⟨b, off, e, Nat.lt_of_lt_of_le hl hb.size, fun i hi => (hb.cell (p := ⟨b, off + i, none⟩) hl).trans (hz i hi)⟩

abbrev srcW (a : Option Addr) (n cap : Nat) (w : World) : World := w.alloc (.cells #[.slice a n cap, .int .i64 0] 80)
theorem l1Source_ex (a : Option Addr) (n cap : Nat) (w : World) : Calls Try.prog 17 #[.slice a n cap] w fun e w' => e = .returned (.pointer (some ⟨w.heap.size, 0, none⟩)) ∧ srcW a n cap w = w' := by
  go_enter Try.func17, Try.ntmps17
  go_wp2
  go_ret
  exact ⟨rfl, rfl⟩
theorem src_start (a : Option Addr) (n cap : Nat) (Z : Nat → Int) (w : World) (h : IsBytes w a n Z) (hr : ∀ i, 0 ≤ Z i ∧ Z i ≤ 255) (hn : n ≤ 1048576) : Src a n cap Z w.heap.size 0 (srcW a n cap w) := by
  have hb : Below w.heap.size w (srcW a n cap w) := by unfold srcW; (repeat (first | exact Below.refl _ _ | assumption | refine Below.drew ?_ | refine bl_alloc ?_ _ | refine bl_then ?_ (by assumption) | refine Below.setCell ?_ (by first | omega | (simp; done) | (simp; omega)) _ | refine bl_store ?_ ?_ _ _))
  refine ⟨by simp [go_sem], by simp [go_sem], by simp [go_sem], ?_, hr, hn⟩
  rcases h with h | ⟨b, off, e, hl, hz⟩
  · exact .inl h
  · exact .inr ⟨b, off, e, hl, fun i hi => (hb.cell (p := ⟨b, off + i, none⟩) hl).trans (hz i hi)⟩

end Go.Proofs.Ytjnglencgkhhaaa
/- How a list of bytes that came in is read. -/

namespace Go.Proofs.Ytjnglencgkhhaaa
open Go.ChangeShapes Go.WideShapes Go.ChangeAt Go.RowKit
set_option linter.unusedVariables false

theorem own : ownKnob Try.prog.godebug = none := by kernel_rfl
theorem laidOut : laidOutB Try.prog = true := by kernel_rfl

set_option maxRecDepth 100000 in
theorem open_bytes {H : Type} {enc : TypeId × Value → H} {w : World} {base b0 : Nat} {held : Bool} {r : Reach} {v : Value} {d : DataW H} {p : List MemPlace}
    (hv : Value.okWide Try.prog w r b0 22 v) (h : DataW.Trod enc Try.prog w base (fun _ => true) held 22 v d p) :
    ∃ (a : Option Addr) (n cap : Nat) (Z : Nat → Int), v = .slice a n cap ∧ IsBytes w a n Z ∧ (∀ i, 0 ≤ Z i ∧ Z i ≤ 255) ∧ n ≤ cap := by
  obtain ⟨a, len, cap, rfl⟩ := okWide_slice Try.underlying22 hv
  obtain ⟨fuel, hf⟩ := h
  rcases open_ints Try.underlying22 Try.underlying5 (by kernel_rfl) hf with ⟨hcs, _⟩ | ⟨x, l, c, zs, hcs, _, hl, hm, hz, _, hcell, hwz⟩
  · simp [Value.cells] at hcs
    obtain ⟨rfl, rfl, rfl⟩ := hcs
    exact ⟨none, 0, 0, fun _ => 0, rfl, .inl rfl, fun _ => ⟨Int.le_refl _, by show (0 : Int) ≤ 255; omega⟩, Nat.le_refl _⟩
  · simp [Value.cells] at hcs
    obtain ⟨rfl, rfl, rfl⟩ := hcs
    have hz' : zs.length = cap := by simpa using hz
    refine ⟨some x, len, cap, fun i => zs.getD i 0, rfl, ?_, fun i => ?_, hl⟩
    · by_cases h0 : len = 0
      · exact .inl h0
      · right
        obtain ⟨b, off, spot⟩ := x
        have e0 := hcell 0 (by omega)
        have hspot : spot = none := by simpa [Addr.add] using World.cell?_spot e0
        subst hspot
        refine ⟨b, off, rfl, ?_, fun i hi => ?_⟩
        · have := World.block_lt_of_cell? _ _ e0
          simpa [Addr.add] using this
        · have := hcell i (by omega)
          have e : (⟨b, off, none⟩ : Addr).add i = ⟨b, off + i, none⟩ := by
            unfold Addr.add
            by_cases h : i = 0 <;> simp [h]
          rw [e] at this
          exact this
    · by_cases hi : i < zs.length
      · have hw := hwz zs[i] (List.getElem_mem hi)
        simp [Lit.wf, IntKind.min, IntKind.max, IntKind.signed, IntKind.bits] at hw
        simp [List.getD, hi]
        omega
      · simp [List.getD, hi]
end Go.Proofs.Ytjnglencgkhhaaa
