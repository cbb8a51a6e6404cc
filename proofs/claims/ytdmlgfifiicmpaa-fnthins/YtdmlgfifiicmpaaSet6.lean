/- Six stores into three blocks, read back. -/
import Derived.Test.YtdmlgfifiicmpaaSet2
namespace Go.Proofs.Ytdmlgfifiicmpaa
open Go.RowKit
theorem set6_at {W : World} {r : Nat} {a b c d e f : Value} (hT0 : There W r 2) (hT1 : There W (r + 1) 2) (hT2 : There W (r + 1 + 1) 2) :
    ((((((W.setCell ⟨r, 0, none⟩ a).setCell ⟨r, 1, none⟩ b).setCell ⟨r + 1, 0, none⟩ c).setCell ⟨r + 1, 1, none⟩ d).setCell ⟨r + 1 + 1, 0, none⟩ e).setCell ⟨r + 1 + 1, 1, none⟩ f).cell? ⟨r, 0, none⟩ = some a ∧
    ((((((W.setCell ⟨r, 0, none⟩ a).setCell ⟨r, 1, none⟩ b).setCell ⟨r + 1, 0, none⟩ c).setCell ⟨r + 1, 1, none⟩ d).setCell ⟨r + 1 + 1, 0, none⟩ e).setCell ⟨r + 1 + 1, 1, none⟩ f).cell? ⟨r, 1, none⟩ = some b ∧
    ((((((W.setCell ⟨r, 0, none⟩ a).setCell ⟨r, 1, none⟩ b).setCell ⟨r + 1, 0, none⟩ c).setCell ⟨r + 1, 1, none⟩ d).setCell ⟨r + 1 + 1, 0, none⟩ e).setCell ⟨r + 1 + 1, 1, none⟩ f).cell? ⟨r + 1, 0, none⟩ = some c ∧
    ((((((W.setCell ⟨r, 0, none⟩ a).setCell ⟨r, 1, none⟩ b).setCell ⟨r + 1, 0, none⟩ c).setCell ⟨r + 1, 1, none⟩ d).setCell ⟨r + 1 + 1, 0, none⟩ e).setCell ⟨r + 1 + 1, 1, none⟩ f).cell? ⟨r + 1, 1, none⟩ = some d ∧
    ((((((W.setCell ⟨r, 0, none⟩ a).setCell ⟨r, 1, none⟩ b).setCell ⟨r + 1, 0, none⟩ c).setCell ⟨r + 1, 1, none⟩ d).setCell ⟨r + 1 + 1, 0, none⟩ e).setCell ⟨r + 1 + 1, 1, none⟩ f).cell? ⟨r + 1 + 1, 0, none⟩ = some e ∧
    ((((((W.setCell ⟨r, 0, none⟩ a).setCell ⟨r, 1, none⟩ b).setCell ⟨r + 1, 0, none⟩ c).setCell ⟨r + 1, 1, none⟩ d).setCell ⟨r + 1 + 1, 0, none⟩ e).setCell ⟨r + 1 + 1, 1, none⟩ f).cell? ⟨r + 1 + 1, 1, none⟩ = some f := by
  have nb : ∀ i j o o' : Nat, i ≠ j → (⟨i, o, none⟩ : Addr) ≠ ⟨j, o', none⟩ := fun i j o o' h e => h (by injection e)
  have no : ∀ i o o' : Nat, o ≠ o' → (⟨i, o, none⟩ : Addr) ≠ ⟨i, o', none⟩ := fun i o o' h e => h (by injection e)
  obtain ⟨u0, h0⟩ := (hT0 0 (by omega)).1
  obtain ⟨u1, h1⟩ := (hT0 1 (by omega)).1
  obtain ⟨u2, h2⟩ := (hT1 0 (by omega)).1
  obtain ⟨u3, h3⟩ := (hT1 1 (by omega)).1
  obtain ⟨u4, h4⟩ := (hT2 0 (by omega)).1
  obtain ⟨u5, h5⟩ := (hT2 1 (by omega)).1
  refine ⟨?_, ?_, ?_, ?_, ?_, ?_⟩
  · rw [set1_other (nb _ _ _ _ (by omega)), set1_other (nb _ _ _ _ (by omega)), set1_other (nb _ _ _ _ (by omega)), set1_other (nb _ _ _ _ (by omega)), set1_other (no _ _ _ (by omega))]; exact set1_same (u := a) (x := u0) (by exact h0)
  · rw [set1_other (nb _ _ _ _ (by omega)), set1_other (nb _ _ _ _ (by omega)), set1_other (nb _ _ _ _ (by omega)), set1_other (nb _ _ _ _ (by omega))]; exact set1_same (u := b) (x := u1) (by rw [set1_other (no _ _ _ (by omega))]; exact h1)
  · rw [set1_other (nb _ _ _ _ (by omega)), set1_other (nb _ _ _ _ (by omega)), set1_other (no _ _ _ (by omega))]; exact set1_same (u := c) (x := u2) (by rw [set1_other (nb _ _ _ _ (by omega)), set1_other (nb _ _ _ _ (by omega))]; exact h2)
  · rw [set1_other (nb _ _ _ _ (by omega)), set1_other (nb _ _ _ _ (by omega))]; exact set1_same (u := d) (x := u3) (by rw [set1_other (no _ _ _ (by omega)), set1_other (nb _ _ _ _ (by omega)), set1_other (nb _ _ _ _ (by omega))]; exact h3)
  · rw [set1_other (no _ _ _ (by omega))]; exact set1_same (u := e) (x := u4) (by rw [set1_other (nb _ _ _ _ (by omega)), set1_other (nb _ _ _ _ (by omega)), set1_other (nb _ _ _ _ (by omega)), set1_other (nb _ _ _ _ (by omega))]; exact h4)
  · exact set1_same (u := f) (x := u5) (by rw [set1_other (no _ _ _ (by omega)), set1_other (nb _ _ _ _ (by omega)), set1_other (nb _ _ _ _ (by omega)), set1_other (nb _ _ _ _ (by omega)), set1_other (nb _ _ _ _ (by omega))]; exact h5)
end Go.Proofs.Ytdmlgfifiicmpaa
