/- Several texts in one. -/
import Derived.Test.YtjnhaigmfjndhaaRows
import Derived.Test.YtjnhaigmfjndhaaVEntriesIn1
import Derived.WalkKit
import Derived.WalkSpells
import Derived.WalkLawsBesides
import Derived.Outline
import Derived.Sort.Grow
import Derived.Shelf.SlSortCmp.NoneTotal

/- Numbers are compared; only new blocks are laid. -/

namespace Go.Proofs.Ytjnhaigmfjndhaa
open Go.RowKit
set_option linter.unusedSimpArgs false
set_option linter.unusedVariables false
set_option maxRecDepth 100000

def cmpI (x y : Int) : Int := if x < y then -1 else if y < x then 1 else 0
theorem cmpCompare_any (x y : Int) (w : World) : Calls Try.prog 60 #[.int .i64 x, .int .i64 y] w fun e w' => e = .returned (.int .i64 (cmpI x y)) ∧ w' = w := by
  unfold cmpI
  by_cases h1 : x < y
  · rw [if_pos h1]
    go_enter Try.func60, Try.ntmps60
    go_wp2
    go_ret
    exact ⟨rfl, rfl⟩
  · rw [if_neg h1]
    by_cases h2 : y < x
    · rw [if_pos h2]
      go_enter Try.func60, Try.ntmps60
      go_wp2
      go_ret
      exact ⟨rfl, rfl⟩
    · rw [if_neg h2]
      go_enter Try.func60, Try.ntmps60
      go_wp2
      go_ret
      exact ⟨rfl, rfl⟩
/-- Only new blocks, and draws. -/
def Gro (V W' : World) : Prop := Below V.heap.size V W' ∧ V.drawn ≤ W'.drawn
theorem Gro.refl (V : World) : Gro V V := ⟨Below.refl _ _, Nat.le_refl _⟩
theorem Gro.trans {a b c : World} (h : Gro a b) (k : Gro b c) : Gro a c := ⟨bl_then h.1 k.1, Nat.le_trans h.2 k.2⟩
theorem Gro.alloc {a b : World} (h : Gro a b) (o : Obj) : Gro a (b.alloc o) := ⟨bl_alloc h.1 o, h.2⟩
theorem Gro.drew {a b : World} (h : Gro a b) : Gro a b.drew := ⟨h.1.drew, Nat.le_trans h.2 (Nat.le_succ _)⟩
end Go.Proofs.Ytjnhaigmfjndhaa
/- What a sort of the library lays; how numbers are compared. -/

namespace Go.Proofs.Ytjnhaigmfjndhaa
open Go.RowKit Go.Sort Go.Shelf
set_option linter.unusedSimpArgs false
set_option linter.unusedVariables false
set_option maxRecDepth 100000

theorem Gro.grow {V W' : World} (h : Gro V W') : ∃ q os', W' = Go.Sort.grow (V.drewN q) os' := by
  obtain ⟨hb, hd⟩ := h
  refine ⟨W'.drawn - V.drawn, W'.heap.extract V.heap.size W'.heap.size, ?_⟩
  obtain ⟨hp, tp, dr, os, ou⟩ := W'
  obtain ⟨h1, h2, h3, h4, h5⟩ := hb
  simp only at h1 h2 h3 h4 h5 hd
  subst h1 h2 h3
  have e1 : V.drawn + (dr - V.drawn) = dr := by omega
  have e2 : V.heap ++ hp.extract V.heap.size hp.size = hp := by
    apply Array.ext
    · simp; omega
    · intro i hi hi'
      by_cases h : i < V.heap.size
      · rw [Array.getElem_append_left h]
        have := h5 i h
        rw [Array.getElem?_eq_getElem hi', Array.getElem?_eq_getElem h] at this
        injection this with this
        exact this.symm
      · rw [Array.getElem_append_right (by omega)]
        simp only [Array.getElem_extract]
        congr 1
        omega
  simp only [Go.Sort.grow, World.drewN, e1, e2]
theorem cmpI_lt (x y : Int) : cmpI x y < 0 ↔ x < y := by
  unfold cmpI
  by_cases h1 : x < y
  · rw [if_pos h1]; simp [h1]
  · rw [if_neg h1]
    by_cases h2 : y < x
    · rw [if_pos h2]; simp [h1]
    · rw [if_neg h2]; simp [h1]
theorem cmpI_zero (x y : Int) : cmpI x y = 0 ↔ x = y := by
  unfold cmpI
  by_cases h1 : x < y
  · rw [if_pos h1]; simp; omega
  · rw [if_neg h1]
    by_cases h2 : y < x
    · rw [if_pos h2]; simp; omega
    · rw [if_neg h2]; simp; omega
theorem grown_sortF (enc : Nat → List Value) (k : Nat) (w : World) (g off m : Nat) (d : Array Nat) (os : Array Obj) : w.grownBy (sortWorldK enc k w g off m d os) (some g) := by
  refine ⟨rfl, rfl, rfl, size_sortWorldK_c _ _ _ _ _ _ _ _, fun j hj hne => ?_⟩
  have hne' : g ≠ j := fun e => hne (by rw [e])
  show ((putRowK enc k (Sort.ahead w m) g off d).heap ++ os)[j]? = _
  have hs : (putRowK enc k (Sort.ahead w m) g off d).heap.size = w.heap.size := by
    show (putRow id (Sort.ahead w m) g off (flatK enc k d)).heap.size = _
    rw [size_putRow]; rfl
  rw [Array.getElem?_append_left (by rw [hs]; exact hj)]
  show (w.heap.modify g _)[j]? = _
  rw [Array.getElem?_modify, if_neg hne']
end Go.Proofs.Ytjnhaigmfjndhaa
