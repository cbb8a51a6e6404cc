/- Lists of features that may be empty: their fault, whether they are the same; sorted lists and what they tell. -/
import Derived.Test.YtijegoheilmmpaaVSorts43
import Derived.Test.YtijegoheilmmpaaVSorts46
import Derived.Test.YtijegoheilmmpaaVSorts38
namespace Go.Proofs.Ytijegoheilmmpaa
open Go.RowKit
set_option linter.unusedSimpArgs false
set_option linter.unusedVariables false
set_option maxRecDepth 100000

theorem FeaturesFault_none (a : Option Addr) (cap : Nat) (w : World) : Calls Try.prog 10 #[.slice a 0 cap] w fun e w' => e = .returned (.int .i64 0) ∧ Below w.heap.size w w' := by
  go_enter Try.func10, Try.ntmps10
  go_wp2
  go_loopw [11] (fun v wr => v = .int .i64 0 ∧ Below w.heap.size w wr) (fun _ _ => 0)
  case atStart => exact ⟨rfl, Below.refl _ _⟩
  case round =>
    obtain ⟨rfl, hB⟩ := hrel
    go_wp2
    go_ret
    exact ⟨rfl, hB⟩
theorem SameFeatures_none (a a' : Option Addr) (cap cap' : Nat) (w : World) : Calls Try.prog 11 #[.slice a 0 cap, .slice a' 0 cap'] w fun e w' => e = .returned (.bool true) ∧ Below w.heap.size w w' := by
  have HX : Hid (Calls Try.prog 34 #[.slice a 0 cap, .slice a' 0 cap', .func (.func 35) #[] #[]] w fun e w' => e = .returned (.bool true) ∧ Below w.heap.size w w') := by
    show Calls _ _ _ _ _
    go_enter Try.func34, Try.ntmps34
    go_wp2
    go_loopw [17] (fun v wr => v = .int .i64 0 ∧ Below w.heap.size w wr) (fun _ _ => 0)
    case atStart => exact ⟨rfl, Below.refl _ _⟩
    case round =>
      obtain ⟨rfl, hB⟩ := hrel
      go_wp2
      go_ret
      exact ⟨rfl, hB⟩
  go_enter Try.func11, Try.ntmps11
  go_wp2_with (go_at_call 34; refine (HX.out).mono ?_; rintro e w' ⟨rfl, hb⟩)
  go_ret
  exact ⟨rfl, by (repeat (first | exact Below.refl _ _ | assumption | refine Below.drew ?_ | refine bl_alloc ?_ _ | refine bl_then ?_ (by assumption) | refine Below.setCell ?_ (by first | omega | (simp; done) | (simp; omega)) _ | refine bl_store ?_ ?_ _ _))⟩
/-- A list of features whose points lie from the beginning of a block on. -/
def FsZ (w : World) (a : Option Addr) (n : Nat) (T : Nat → Feat) : Prop := IsFs w a n T ∧ (n = 0 ∨ ∃ g, a = some ⟨g, 0, none⟩) ∧ Pts0 w n T
theorem FsZ.below {w w' : World} {a : Option Addr} {n : Nat} {T : Nat → Feat} (h : FsZ w a n T) (hb : Below w.heap.size w w') : FsZ w' a n T := ⟨h.1.below hb, h.2.1, h.2.2.below hb⟩
theorem sameFs_any (a a' : Option Addr) (n c c' : Nat) (G H : Nat → Feat) (w : World) (hg : FsZ w a n G) (hh : FsZ w a' n H) (hs : ∀ i, i < n → (G i).same (H i)) (hsh : SmallFs n H) :
    Calls Try.prog 11 #[.slice a n c, .slice a' n c'] w fun e w' => e = .returned (.bool true) ∧ Below w.heap.size w w' := by
  obtain ⟨h1, h2, h3⟩ := hg
  obtain ⟨k1, k2, k3⟩ := hh
  by_cases h0 : n = 0
  · subst h0
    exact SameFeatures_none a a' c c' w
  · obtain ⟨g, rfl⟩ := h2.resolve_left h0
    obtain ⟨g', rfl⟩ := k2.resolve_left h0
    obtain ⟨b, off, e1, hb, hF⟩ := h1.resolve_left h0
    obtain ⟨b', off', e2, hb', hF'⟩ := k1.resolve_left h0
    injection e1 with e1
    injection e1 with x1 x2
    injection e2 with e2
    injection e2 with y1 y2
    subst x1 x2 y1 y2
    have hsg : SmallFs n G := ⟨hsh.1, fun i hi => by obtain ⟨_, _, _, _, s5, _, _, s8, _⟩ := hs i hi; rw [s5, s8]; exact hsh.2 i hi⟩
    have hL : sameL n G n H = true := sameL_ok (fun i hi => by
      rw [sameF_same (hs i hi) (f' := H i) (g' := H i) ⟨rfl, rfl, rfl, rfl, rfl, rfl, rfl, rfl, rfl⟩]
      simp [sameF, ptsEq, sameB])
    have := impl_SameFeatures_any g g' n n c c' G H w hF hF' hb hb' h3 k3 hsg hsh
    rw [hL] at this
    exact this
/-- What has no fault: few enough, each without a fault, no two of the same Id. -/
theorem featsC_zero {n : Nat} {G : Nat → Feat} (h1 : n ≤ 12) (h2 : apartK (fun i => (G i).id) n) (h3 : ∀ i, i < n → featC (G i).id (G i).la (G i).ki (G i).wi (G i).n (G i).X (G i).Y (G i).lab (G i).pr = 0) : featsC n G = 0 := by
  unfold featsC
  rw [if_neg (by omega)]
  refine scan_none _ _ _ (fun j _ hj => codeAt_ok (h3 j (by omega)) ?_)
  rintro ⟨i, hi, e⟩
  have := h2 i j (by omega) (by omega) e
  omega
theorem featC_same {f g : Feat} (h : f.same g) : featC f.id f.la f.ki f.wi f.n f.X f.Y f.lab f.pr = featC g.id g.la g.ki g.wi g.n g.X g.Y g.lab g.pr := by
  obtain ⟨h1, h2, h3, h4, h5, h6, h7, h8, h9⟩ := h
  rw [h1, h2, h3, h4, h5, h6, h7, h8, h9]
/-- A list that is another one, its places told otherwise, has no fault where that one has none. -/
theorem featsC_perm {n : Nat} {G T : Nat → Feat} {p : Nat → Nat} (h : featsC n G = 0) (hp : ∀ i, i < n → p i < n) (hi : ∀ i j, i < n → j < n → p i = p j → i = j) (hT : ∀ i, i < n → (T i).same (G (p i))) : featsC n T = 0 := by
  obtain ⟨h1, h2, h3⟩ := featsC_ok h
  refine featsC_zero h1 (fun i j hi' hj' e => hi i j hi' hj' (h2 _ _ (hp i hi') (hp j hj') ?_)) (fun i hi' => by rw [featC_same (hT i hi')]; exact h3 _ (hp i hi'))
  show (G (p i)).id = (G (p j)).id
  rw [← (hT i hi').1, ← (hT j hj').1]
  exact e
/-- Told the other way round, a list is sorted the same. -/
theorem srtF_rev (n : Nat) (G : Nat → Feat) (h : featsC n G = 0) : ∀ i, i < n → n - 1 - (srtF n (fun i => G (n - 1 - i))).getD i 0 = (srtF n G).getD i 0 := by
  obtain ⟨h1, h2, h3⟩ := featsC_ok h
  have hap : apartK (fun i => (G (n - 1 - i)).id) n := fun i j hi hj e => by
    have := h2 (n - 1 - i) (n - 1 - j) (by omega) (by omega) e
    omega
  have hs := srtK_sorted (fun i => (G (n - 1 - i)).la) (fun i => (G (n - 1 - i)).id) n hap
  have hl : (srtF n (fun i => G (n - 1 - i))).length = n := srtK_len _ _ _
  have hmem : ∀ j, j ∈ srtF n (fun i => G (n - 1 - i)) → j < n := fun j hj => (srtK_mem _ _ n j).1 hj
  have hperm : ((srtF n (fun i => G (n - 1 - i))).map (fun j => n - 1 - j)).Perm (List.range n) := by
    refine ((srtK_perm (fun i => (G (n - 1 - i)).la) (fun i => (G (n - 1 - i)).id) n).map _).trans ?_
    have e : (List.range n).map (fun j => n - 1 - j) = (List.range n).reverse := by
      apply List.ext_getElem
      · simp
      · intro i h1 h2
        simp
    rw [e]
    exact List.reverse_perm _
  have hsort : ((srtF n (fun i => G (n - 1 - i))).map (fun j => n - 1 - j)).Pairwise (fun a b => ltK (fun i => (G i).la) (fun i => (G i).id) b a = false) := by
    rw [List.pairwise_map]
    refine List.Pairwise.imp (fun {a b} hab => ?_) hs
    rw [ltK_iff] at hab
    rw [ltK_no]
    omega
  have := srtK_unique (fun i => (G i).la) (fun i => (G i).id) n h2 _ hperm hsort
  intro i hi
  show _ = (srtK _ _ n).getD i 0
  rw [← this, List.getD_eq_getElem?_getD, List.getD_eq_getElem?_getD, List.getElem?_map, List.getElem?_eq_getElem (by rw [hl]; exact hi)]
  rfl
/-- Sorted: each is ahead of the next one. -/
theorem srtF_ahead (n : Nat) (G : Nat → Feat) (h : featsC n G = 0) (i : Nat) (hi : i + 1 < n) : ltK (fun i => (G i).la) (fun i => (G i).id) ((srtF n G).getD i 0) ((srtF n G).getD (i + 1) 0) = true := by
  obtain ⟨h1, h2, h3⟩ := featsC_ok h
  have hs := srtK_sorted (fun i => (G i).la) (fun i => (G i).id) n h2
  have hl : (srtF n G).length = n := srtK_len _ _ _
  rw [List.pairwise_iff_getElem] at hs
  have := hs i (i + 1) (by rw [srtK_len]; omega) (by rw [srtK_len]; exact hi) (by omega)
  rw [List.getD_eq_getElem?_getD, List.getD_eq_getElem?_getD, List.getElem?_eq_getElem (by rw [hl]; omega), List.getElem?_eq_getElem (by rw [hl]; exact hi)]
  exact this
theorem SortRes.z {base : Nat} {w : World} {a : Option Addr} {n : Nat} {G T : Nat → Feat} (h : SortRes base w a n G T) : FsZ w a (srtM n G) T := by
  obtain ⟨h1, h2, h3⟩ := h
  refine ⟨h1, h3.imp id (fun ⟨g, q, e, _⟩ => ⟨g, e⟩), fun i hi => ?_⟩
  obtain ⟨g, q, e, ⟨a1, a2, a3⟩, hT, hq, _⟩ := h3.resolve_left (by omega)
  obtain ⟨b, off, e', hb, hF⟩ := h1.resolve_left (by omega)
  rw [e] at e'
  injection e' with e'
  injection e' with x1 x2
  subst x1 x2
  obtain ⟨⟨_, _, _, _, c4, _, _⟩, hp⟩ := hF i hi
  obtain ⟨⟨q1, q2, q3⟩, q4, q5⟩ := hq i hi
  rw [Nat.zero_add, q5] at c4
  injection c4 with c4
  injection c4 with c4 _ _
  refine ⟨q i, c4.symm, by omega, ?_⟩
  rcases hp with hp | ⟨b', off', e2, hb', hpt⟩
  · intro j hj; omega
  · rw [← c4] at e2
    injection e2 with e2
    injection e2 with y1 y2
    rw [y1, y2]
    exact hpt
end Go.Proofs.Ytijegoheilmmpaa
