/- The program's SortFeatures: what it answers, and that the answer is its own. -/
import Derived.Test.YtijegoheilmmpaaVSorts33
import Derived.Test.YtijegoheilmmpaaVSorts37
import Derived.Test.YtijegoheilmmpaaVSorts38
import Derived.Test.YtijegoheilmmpaaVSorts39
namespace Go.Proofs.Ytijegoheilmmpaa
open Go.RowKit Go.Sort Go.Shelf
set_option linter.unusedSimpArgs false
set_option linter.unusedVariables false
set_option maxRecDepth 100000

theorem cmpI_lt (x y : Int) : cmpI x y < 0 ↔ x < y := by
  unfold cmpI
  by_cases h1 : x < y
  · rw [if_pos h1]; simp [h1]
  · rw [if_neg h1]
    by_cases h2 : y < x
    · rw [if_pos h2]; simp [h1]
    · rw [if_neg h2]; simp [h1]
theorem cmpI_zero (x y : Int) : cmpI x y = 0 ↔ x = y := by
  unfold cmpI
  by_cases h1 : x < y
  · rw [if_pos h1]; simp; omega
  · rw [if_neg h1]
    by_cases h2 : y < x
    · rw [if_pos h2]; simp; omega
    · rw [if_neg h2]; simp; omega
theorem lt_cmpF (H : Nat → Feat) (i j : Nat) : ltOf (fun i j => cmpF (H i) (H j)) i j = ltK (fun i => (H i).la) (fun i => (H i).id) i j := by
  show decide (orI (cmpI (H i).la (H j).la) (cmpI (H i).id (H j).id) < 0) = (decide ((H i).la < (H j).la) || (decide ((H i).la = (H j).la) && decide ((H i).id < (H j).id)))
  unfold orI
  by_cases h : cmpI (H i).la (H j).la = 0
  · rw [if_pos h]
    have h' := (cmpI_zero _ _).1 h
    simp [cmpI_lt, h']
  · rw [if_neg h]
    have h' : (H i).la ≠ (H j).la := fun e => h ((cmpI_zero _ _).2 e)
    simp [cmpI_lt, h']
theorem swo_cmpF (H : Nat → Feat) : SWO (ltOf (fun i j => cmpF (H i) (H j))) where
  irrefl x := by rw [lt_cmpF, ltK_no]; omega
  trans x y z h1 h2 := by rw [lt_cmpF, ltK_iff] at *; omega
  ntrans x y z h1 h2 := by rw [lt_cmpF, ltK_no] at *; omega
theorem cmpLays_F (H : Nat → Feat) (blk off size : Nat) (w : World) : CmpLays Try.prog 29 #[] (fun i => fcell (H i)) 7 (fun i j => cmpF (H i) (H j)) blk off size w :=
  fun _ _ _ _ x y => compareFeatures_any (H x) (H y) _
theorem grown_sortF (enc : Nat → List Value) (k : Nat) (w : World) (g off m : Nat) (d : Array Nat) (os : Array Obj) : w.grownBy (sortWorldK enc k w g off m d os) (some g) := by
  refine ⟨rfl, rfl, rfl, size_sortWorldK_c _ _ _ _ _ _ _ _, fun j hj hne => ?_⟩
  have hne' : g ≠ j := fun e => hne (by rw [e])
  show ((putRowK enc k (Sort.ahead w m) g off d).heap ++ os)[j]? = _
  have hs : (putRowK enc k (Sort.ahead w m) g off d).heap.size = w.heap.size := by
    show (putRow id (Sort.ahead w m) g off (flatK enc k d)).heap.size = _
    rw [size_putRow]; rfl
  rw [Array.getElem?_append_left (by rw [hs]; exact hj)]
  show (w.heap.modify g _)[j]? = _
  rw [Array.getElem?_modify, if_neg hne']
theorem holds_F {base : Nat} {w : World} {v : Value} {H : Nat → Feat} {n g c : Nat} (h : FRow base w v H (List.range n)) (hv : v = .slice (some ⟨g, 0, none⟩) n c) : HoldsK (fun i => fcell (H i)) 7 w g 0 (Array.range n) := by
  subst hv
  have hrow : w.ownsRow base 32 7 (.slice (some ⟨g, 0, none⟩) n c) n (cellsF H (List.range n)) := by
    have := h
    unfold FRow at this
    rw [List.length_range] at this
    exact this
  intro t ht
  rw [size_flatK, Array.size_range] at ht
  rw [get_flatK _ _ _ _ (by rw [Array.size_range]; exact ht), Nat.zero_add]
  refine ⟨?_, hrow.frozenAt t⟩
  have hi : t / 7 < n := by omega
  have hk : t % 7 < 7 := by omega
  have e := cellsF_at H (List.range n) (t / 7) (t % 7) (by simpa using hi) hk
  have et : t / 7 * 7 + t % 7 = t := by omega
  rw [et] at e
  rw [hrow.cellAt t ht, e]
  have eg : (List.range n).getD (t / 7) 0 = t / 7 := by simp [List.getD_eq_getElem?_getD, hi]
  have ea : (Array.range n)[t / 7]! = t / 7 := by simp [hi]
  rw [eg, ea]
  show (fcell (H (t / 7)))[t % 7]? = some (fcell (H (t / 7)))[t % 7]!
  have hl : t % 7 < (fcell (H (t / 7))).length := by rw [fcell_len]; exact hk
  rw [List.getElem?_eq_getElem hl, getElem!_pos (fcell (H (t / 7))) (t % 7) hl]
theorem at_F {w : World} {H : Nat → Feat} {g : Nat} {d : Array Nat} (h : HoldsK (fun i => fcell (H i)) 7 w g 0 d) {i : Nat} (hi : i < d.size) :
    FeatAt w g (i * 7) (H d[i]!).id (H d[i]!).la (H d[i]!).ki (H d[i]!).wi (.slice (H d[i]!).a (H d[i]!).n (H d[i]!).cap) (H d[i]!).lab (H d[i]!).pr := by
  have c := fun k (hk : k < 7) => (h.cell hi hk).1
  simp only [Nat.zero_add] at c
  exact ⟨c 0 (by omega), c 1 (by omega), c 2 (by omega), c 3 (by omega), c 4 (by omega), c 5 (by omega), c 6 (by omega)⟩
theorem there_F {w : World} {H : Nat → Feat} {g : Nat} {d : Array Nat} (h : HoldsK (fun i => fcell (H i)) 7 w g 0 d) : There w g (d.size * 7) := fun o ho => by
  have := h.cell (i := o / 7) (c := o % 7) (by omega) (by omega)
  have e : 0 + o / 7 * 7 + o % 7 = o := by omega
  rw [e] at this
  exact ⟨⟨_, this.1⟩, this.2⟩
set_option maxHeartbeats 1000000 in
theorem sortF_any (n base : Nat) (v : Value) (H : Nat → Feat) (w : World) (hR : FRow base w v H (List.range n)) (hn : n ≤ 1048576) :
    Calls Try.prog 28 #[v, .func (.func 29) #[] #[]] w fun e w' => e = .returned (.tuple #[]) ∧
      ((n = 0 ∧ w' = w) ∨ ∃ (g c : Nat) (l : List Nat), v = .slice (some ⟨g, 0, none⟩) n c ∧ base ≤ g ∧ g < w.heap.size ∧ l.Perm (List.range n) ∧ l.Pairwise (fun a b => ltK (fun i => (H i).la) (fun i => (H i).id) b a = false) ∧ w.grownBy w' (some g) ∧ There w' g (n * 7) ∧
        ∀ i, i < n → FeatAt w' g (i * 7) (H (l.getD i 0)).id (H (l.getD i 0)).la (H (l.getD i 0)).ki (H (l.getD i 0)).wi (.slice (H (l.getD i 0)).a (H (l.getD i 0)).n (H (l.getD i 0)).cap) (H (l.getD i 0)).lab (H (l.getD i 0)).pr) := by
  rcases hR.at with ⟨hv, hl⟩ | ⟨g, c, hv, hg, hgl, hc, hT, hF⟩
  · have hn0 : n = 0 := by simpa using congrArg List.length hl
    subst hv
    have hcon := AnyF.slices_SortFunc_none Try.sortF none 0 (.func (.func 29) #[] #[]) w
    exact hcon.mono fun e w' ⟨he, hw⟩ => ⟨he, .inl ⟨hn0, hw⟩⟩
  · rw [List.length_range] at hv hc hT
    have eg : ∀ args w, (callFunc 29 args).run Try.prog w = .ok (.enter 29 args) w := enters_of Try.func29 (by kernel_rfl) rfl
    have hH := holds_F hR hv
    have hcon := AnyQ.slices_SortFunc Try.sortF 7 Try.isAgg32 Try.sizeOf32 (fun i => fcell (H i)) (fun _ => rfl) (fun i => fcell_one (H i)) (fun i j => cmpF (H i) (H j)) (swo_cmpF H) 29 #[] g 0 c (Array.range n) w eg (cmpLays_F H g 0 _ w) hH hgl (by rw [Array.size_range]; omega)
    rw [Array.size_range] at hcon
    subst hv
    refine Calls.mono (show Calls Try.prog 28 _ _ _ from hcon) ?_
    rintro e w' ⟨he, d', m, os, hp, hs, rfl⟩
    obtain ⟨hp1, hp2, hp3⟩ := hp
    rw [Array.size_range] at hp1
    have hH' := holdsK_sortWorldK_c (fun i => fcell (H i)) 7 w g 0 (Array.range n) d' m os hH hgl (by rw [hp1, Array.size_range])
    have hget : ∀ i, i < n → d'[i]! = d'.toList.getD i 0 := fun i hi => by
      rw [List.getD_eq_getElem?_getD, Array.getElem?_toList, getElem!_pos d' i (by omega), Array.getElem?_eq_getElem (by omega)]
      rfl
    refine ⟨he, .inr ⟨g, c, d'.toList, rfl, hg, hgl, ?_, ?_, grown_sortF _ _ _ _ _ _ _ _, ?_, fun i hi => ?_⟩⟩
    · have h3 : d'.extract 0 n = d' := by rw [← hp1]; exact Array.extract_size
      have h4 : (Array.range n).extract 0 n = Array.range n := by
        have := Array.extract_size (xs := Array.range n)
        rw [Array.size_range] at this
        exact this
      rw [h3, h4] at hp3
      simpa using hp3
    · rw [List.pairwise_iff_getElem]
      intro i j hi hj hij
      have hi' : i < d'.size := by simpa using hi
      have hj' : j < d'.size := by simpa using hj
      have := hs i j (Nat.zero_le _) hij (by omega)
      rw [lt_cmpF, getElem!_pos d' i hi', getElem!_pos d' j hj'] at this
      simpa using this
    · have := there_F hH'
      rw [hp1] at this
      exact this
    · have := at_F hH' (i := i) (by omega)
      rw [hget i hi] at this
      exact this
end Go.Proofs.Ytijegoheilmmpaa
