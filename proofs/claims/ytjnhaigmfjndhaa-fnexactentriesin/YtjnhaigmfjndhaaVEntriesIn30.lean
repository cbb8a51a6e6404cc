/- Entries are sorted by their Ids: what the library's sort leaves. -/
import Derived.Test.YtjnhaigmfjndhaaVEntriesIn2
import Derived.Test.YtjnhaigmfjndhaaVEntriesIn3
import Derived.Test.YtjnhaigmfjndhaaVEntriesIn8
import Derived.Test.YtjnhaigmfjndhaaVEntriesIn17
import Derived.Test.YtjnhaigmfjndhaaVEntriesIn28
import Derived.Test.YtjnhaigmfjndhaaVEntriesIn29
namespace Go.Proofs.Ytjnhaigmfjndhaa
open Go.RowKit Go.Sort Go.Shelf
set_option linter.unusedSimpArgs false
set_option linter.unusedVariables false
set_option maxRecDepth 100000

def cmpE (f g : Ent) : Int := cmpI f.id g.id
abbrev ecell (e : Ent) : List Value := entCs e
theorem ecell_len (e : Ent) : (ecell e).length = 5 := rfl
theorem ecell_one (e : Ent) : ∀ v ∈ ecell e, v.oneCell' = true := by simp [ecell, entCs, Value.oneCell']
set_option maxHeartbeats 2000000 in
theorem compareEntries_gro (f g : Ent) (w : World) : Calls Try.prog 39 #[.agg (ecell f).toArray, .agg (ecell g).toArray] w fun e w' => e = .returned (.int .i64 (cmpE f g)) ∧ Gro w w' := by
  have H1 : Hid (∀ W, Calls Try.prog 60 #[.int .i64 f.id, .int .i64 g.id] W fun e w' => e = .returned (.int .i64 (cmpE f g)) ∧ w' = W) := fun W => cmpCompare_any _ _ _
  generalize cmpE f g = A at *
  unfold ecell entCs
  go_enter Try.func39, Try.ntmps39
  go_wp2_with fail
  generalize hV : ((w.alloc _).alloc _ : World) = V
  have hB0 : Gro w V := by subst hV; exact ((Gro.refl _).alloc _).alloc _
  clear hV
  refine (H1.out _).mono ?_
  rintro e w1 ⟨rfl, rfl⟩
  go_wp2
  go_ret
  exact ⟨rfl, hB0⟩
theorem compareEntries_any (f g : Ent) (w : World) : Calls Try.prog 39 #[.agg (ecell f).toArray, .agg (ecell g).toArray] w fun e w' => e = .returned (.int .i64 (cmpE f g)) ∧ ∃ q os', w' = grow (w.drewN q) os' :=
  (compareEntries_gro f g w).mono fun e w' ⟨he, hg⟩ => ⟨he, hg.grow⟩
/-- v is a row of its own with n entries. -/
def ERow (base : Nat) (w : World) (v : Value) (E : Nat → Ent) (n : Nat) : Prop := w.ownsRow base 69 5 v n (entsCs ((List.range n).map E))
theorem entsCs_cell (E : Nat → Ent) (n i k : Nat) (hi : i < n) (hk : k < 5) : (entsCs ((List.range n).map E))[i * 5 + k]? = (ecell (E i))[k]? := by
  have hl : i < ((List.range n).map E).length := by simpa using hi
  obtain ⟨h0, h1, h2, h3, h4⟩ := entsCs_at ((List.range n).map E) i hl
  have he : entAt ((List.range n).map E) i = E i := by simp [entAt, hi]
  rw [he] at h0 h1 h2 h3 h4
  match k, hk with
  | 0, _ => exact h0
  | 1, _ => exact h1
  | 2, _ => exact h2
  | 3, _ => exact h3
  | 4, _ => exact h4
theorem lt_cmpE (H : Nat → Ent) (i j : Nat) : ltOf (fun i j => cmpE (H i) (H j)) i j = ltK (fun _ => 0) (fun i => (H i).id) i j := by
  show decide (cmpI (H i).id (H j).id < 0) = (decide ((0 : Int) < 0) || (decide ((0 : Int) = 0) && decide ((H i).id < (H j).id)))
  simp [cmpI_lt]
theorem swo_cmpE (H : Nat → Ent) : SWO (ltOf (fun i j => cmpE (H i) (H j))) where
  irrefl x := by rw [lt_cmpE, ltK_no]; omega
  trans x y z h1 h2 := by rw [lt_cmpE, ltK_iff] at *; omega
  ntrans x y z h1 h2 := by rw [lt_cmpE, ltK_no] at *; omega
theorem cmpLays_E (H : Nat → Ent) (blk off size : Nat) (w : World) : CmpLays Try.prog 39 #[] (fun i => ecell (H i)) 5 (fun i j => cmpE (H i) (H j)) blk off size w :=
  fun _ _ _ _ x y => compareEntries_any (H x) (H y) _
theorem holds_E {base : Nat} {w : World} {v : Value} {H : Nat → Ent} {n g c : Nat} (h : ERow base w v H n) (hv : v = .slice (some ⟨g, 0, none⟩) n c) : HoldsK (fun i => ecell (H i)) 5 w g 0 (Array.range n) := by
  subst hv
  have hrow : w.ownsRow base 69 5 (.slice (some ⟨g, 0, none⟩) n c) n (entsCs ((List.range n).map H)) := h
  intro t ht
  rw [size_flatK, Array.size_range] at ht
  rw [get_flatK _ _ _ _ (by rw [Array.size_range]; exact ht), Nat.zero_add]
  refine ⟨?_, hrow.frozenAt t⟩
  have hi : t / 5 < n := by omega
  have hk : t % 5 < 5 := by omega
  have e := entsCs_cell H n (t / 5) (t % 5) hi hk
  have et : t / 5 * 5 + t % 5 = t := by omega
  rw [et] at e
  rw [hrow.cellAt t ht, e]
  have ea : (Array.range n)[t / 5]! = t / 5 := by simp [hi]
  rw [ea]
  show (ecell (H (t / 5)))[t % 5]? = some (ecell (H (t / 5)))[t % 5]!
  have hl : t % 5 < (ecell (H (t / 5))).length := by rw [ecell_len]; exact hk
  rw [List.getElem?_eq_getElem hl, getElem!_pos (ecell (H (t / 5))) (t % 5) hl]
theorem at_E {w : World} {H : Nat → Ent} {g : Nat} {d : Array Nat} (h : HoldsK (fun i => ecell (H i)) 5 w g 0 d) {i : Nat} (hi : i < d.size) : EntAt w g (i * 5) (H d[i]!) := by
  have c := fun k (hk : k < 5) => (h.cell hi hk).1
  simp only [Nat.zero_add] at c
  exact ⟨c 0 (by omega), c 1 (by omega), c 2 (by omega), c 3 (by omega), c 4 (by omega)⟩
theorem there_E {w : World} {H : Nat → Ent} {g : Nat} {d : Array Nat} (h : HoldsK (fun i => ecell (H i)) 5 w g 0 d) : There w g (d.size * 5) := fun o ho => by
  have := h.cell (i := o / 5) (c := o % 5) (by omega) (by omega)
  have e : 0 + o / 5 * 5 + o % 5 = o := by omega
  rw [e] at this
  exact ⟨⟨_, this.1⟩, this.2⟩
set_option maxHeartbeats 1000000 in
theorem sortE_any (n base : Nat) (v : Value) (H : Nat → Ent) (w : World) (hR : ERow base w v H n) (hn : n ≤ 1048576) :
    Calls Try.prog 38 #[v, .func (.func 39) #[] #[]] w fun e w' => e = .returned (.tuple #[]) ∧
      ((n = 0 ∧ w' = w) ∨ ∃ (g c : Nat) (l : List Nat), v = .slice (some ⟨g, 0, none⟩) n c ∧ base ≤ g ∧ g < w.heap.size ∧ l.Perm (List.range n) ∧ l.Pairwise (fun a b => ltK (fun _ => 0) (fun i => (H i).id) b a = false) ∧ w.grownBy w' (some g) ∧ There w' g (n * 5) ∧ n ≤ c ∧
        ∀ i, i < n → EntAt w' g (i * 5) (H (l.getD i 0))) := by
  obtain ⟨h1, h2 | ⟨g, c, cur, hv, hg, hh, hkc, hcm, hcs, htk⟩⟩ := id hR
  · obtain ⟨hv, hn0⟩ := h2
    subst hv
    have hcon := AnyF.slices_SortFunc_none Try.sortE none 0 (.func (.func 39) #[] #[]) w
    exact hcon.mono fun e w' ⟨he, hw⟩ => ⟨he, .inl ⟨hn0, hw⟩⟩
  · have hgl : g < w.heap.size := by
      rcases Nat.lt_or_ge g w.heap.size with h' | h'
      · exact h'
      · rw [Array.getElem?_eq_none h'] at hh; cases hh
    have eg : ∀ args w, (callFunc 39 args).run Try.prog w = .ok (.enter 39 args) w := enters_of Try.func39 (by kernel_rfl) rfl
    have hH := holds_E hR hv
    have hcon := AnyQ.slices_SortFunc Try.sortE 5 Try.isAgg69 Try.sizeOf69 (fun i => ecell (H i)) (fun _ => rfl) (fun i => ecell_one (H i)) (fun i j => cmpE (H i) (H j)) (swo_cmpE H) 39 #[] g 0 c (Array.range n) w eg (cmpLays_E H g 0 _ w) hH hgl (by rw [Array.size_range]; omega)
    rw [Array.size_range] at hcon
    subst hv
    refine Calls.mono (show Calls Try.prog 38 _ _ _ from hcon) ?_
    rintro e w' ⟨he, d', m, os, hp, hs, rfl⟩
    obtain ⟨hp1, hp2, hp3⟩ := hp
    rw [Array.size_range] at hp1
    have hH' := holdsK_sortWorldK_c (fun i => ecell (H i)) 5 w g 0 (Array.range n) d' m os hH hgl (by rw [hp1, Array.size_range])
    have hget : ∀ i, i < n → d'[i]! = d'.toList.getD i 0 := fun i hi => by
      rw [List.getD_eq_getElem?_getD, Array.getElem?_toList, getElem!_pos d' i (by omega), Array.getElem?_eq_getElem (by omega)]
      rfl
    refine ⟨he, .inr ⟨g, c, d'.toList, rfl, hg, hgl, ?_, ?_, grown_sortF _ _ _ _ _ _ _ _, ?_, hkc, fun i hi => ?_⟩⟩
    · have h3 : d'.extract 0 n = d' := by rw [← hp1]; exact Array.extract_size
      have h4 : (Array.range n).extract 0 n = Array.range n := by
        have := Array.extract_size (xs := Array.range n)
        rw [Array.size_range] at this
        exact this
      rw [h3, h4] at hp3
      simpa using hp3
    · rw [List.pairwise_iff_getElem]
      intro i j hi hj hij
      have hi' : i < d'.size := by simpa using hi
      have hj' : j < d'.size := by simpa using hj
      have := hs i j (Nat.zero_le _) hij (by omega)
      rw [lt_cmpE, getElem!_pos d' i hi', getElem!_pos d' j hj'] at this
      simpa using this
    · have := there_E hH'
      rw [hp1] at this
      exact this
    · have := at_E hH' (i := i) (by omega)
      rw [hget i hi] at this
      exact this
end Go.Proofs.Ytjnhaigmfjndhaa
