/- Several texts in one. -/
import Derived.Shelf.SlSortCmp.NoneTotal
import Derived.Shelf.SlGeneric
import Derived.Ground.SlsfProg
import Derived.Test.YtgpdpodagoligaaGreatRows
import Derived.Test.YtgpdpodagoligaaGreatVAnchors8
import Derived.Test.YtgpdpodagoligaaGreatVAnchors9
import Derived.Test.YtgpdpodagoligaaGreatVAnchors6

/- Where the sort of the library lies in this program: numbers alone. -/

namespace Go.Proofs
open Go.Shelf
def Tryz.sortF_ren : Go.Shelf.Ren := ⟨fun | 6 => 51 | 15 => 75 | 14 => 74 | 28 => 102 | 29 => 103 | 20 => 94 | 21 => 95 | 22 => 96 | 23 => 97 | 24 => 98 | 25 => 99 | 26 => 100 | 27 => 101 | 46 => 115 | 47 => 116 | 48 => 117 | 49 => 118 | 50 => 119 | 57 => 126 | n => n, fun | 22 => 39 | 24 => 26 | 25 => 96 | 3 => 3 | 39 => 122 | 0 => 0 | 53 => 156 | 55 => 158 | 4 => 4 | 46 => 150 | 45 => 149 | 50 => 143 | 5 => 5 | 9 => 9 | 66 => 175 | 70 => 179 | 76 => 188 | 77 => 189 | n => n, fun | n => n⟩
theorem Tryz.sortF : Go.Proofs.SlLaysF0.n6 Tryz.prog Tryz.sortF_ren := {
  mixed := by kernel_rfl
  f6 := ⟨Tryz.f51.name, by decide, Tryz.func51.trans (congrArg some (by kernel_rfl))⟩
  f14 := ⟨Tryz.f74.name, by decide, Tryz.func74.trans (congrArg some (by kernel_rfl))⟩
  f15 := Tryz.func75.trans (congrArg some (by kernel_rfl))
  f20 := ⟨Tryz.f94.name, by decide, Tryz.func94.trans (congrArg some (by kernel_rfl))⟩
  f21 := ⟨Tryz.f95.name, by decide, Tryz.func95.trans (congrArg some (by kernel_rfl))⟩
  f22 := ⟨Tryz.f96.name, by decide, Tryz.func96.trans (congrArg some (by kernel_rfl))⟩
  f23 := ⟨Tryz.f97.name, by decide, Tryz.func97.trans (congrArg some (by kernel_rfl))⟩
  f24 := ⟨Tryz.f98.name, by decide, Tryz.func98.trans (congrArg some (by kernel_rfl))⟩
  f25 := ⟨Tryz.f99.name, by decide, Tryz.func99.trans (congrArg some (by kernel_rfl))⟩
  f26 := ⟨Tryz.f100.name, by decide, Tryz.func100.trans (congrArg some (by kernel_rfl))⟩
  f27 := ⟨Tryz.f101.name, by decide, Tryz.func101.trans (congrArg some (by kernel_rfl))⟩
  f28 := Tryz.func102.trans (congrArg some (by kernel_rfl))
  f29 := Tryz.func103.trans (congrArg some (by kernel_rfl))
  f46 := ⟨Tryz.f115.name, by decide, Tryz.func115.trans (congrArg some (by kernel_rfl))⟩
  f47 := Tryz.func116.trans (congrArg some (by kernel_rfl))
  f48 := Tryz.func117.trans (congrArg some (by kernel_rfl))
  f49 := ⟨Tryz.f118.name, by decide, Tryz.func118.trans (congrArg some (by kernel_rfl))⟩
  f50 := ⟨Tryz.f119.name, by decide, Tryz.func119.trans (congrArg some (by kernel_rfl))⟩
  f57 := ⟨Tryz.f126.name, by decide, Tryz.func126.trans (congrArg some (by kernel_rfl))⟩
  t0 := Tryz.underlying0
  a0 := Tryz.isAgg0
  z0 := Tryz.sizeOf0
  v0 := Tryz.zeroValue0
  t3 := Tryz.underlying3
  a3 := Tryz.isAgg3
  z3 := Tryz.sizeOf3
  v3 := Tryz.zeroValue3
  t4 := Tryz.underlying4
  a4 := Tryz.isAgg4
  z4 := Tryz.sizeOf4
  v4 := Tryz.zeroValue4
  t5 := Tryz.underlying5
  a5 := Tryz.isAgg5
  z5 := Tryz.sizeOf5
  v5 := Tryz.zeroValue5
  t9 := Tryz.underlying9
  a9 := Tryz.isAgg9
  z9 := Tryz.sizeOf9
  v9 := Tryz.zeroValue9
  t22 := Tryz.underlying39
  a22 := Tryz.isAgg39
  z22 := Tryz.sizeOf39
  v22 := Tryz.zeroValue39
  t25 := Tryz.underlying96
  a25 := Tryz.isAgg96
  z25 := Tryz.sizeOf96
  v25 := Tryz.zeroValue96
  t39 := Tryz.underlying122
  a39 := Tryz.isAgg122
  z39 := Tryz.sizeOf122
  v39 := Tryz.zeroValue122
  t45 := Tryz.underlying149
  a45 := Tryz.isAgg149
  z45 := Tryz.sizeOf149
  v45 := Tryz.zeroValue149
  t46 := Tryz.underlying150
  a46 := Tryz.isAgg150
  z46 := Tryz.sizeOf150
  v46 := Tryz.zeroValue150
  t50 := Tryz.underlying143
  a50 := Tryz.isAgg143
  z50 := Tryz.sizeOf143
  v50 := Tryz.zeroValue143
  t53 := Tryz.underlying156
  a53 := Tryz.isAgg156
  z53 := Tryz.sizeOf156
  v53 := Tryz.zeroValue156
  t55 := Tryz.underlying158
  a55 := Tryz.isAgg158
  z55 := Tryz.sizeOf158
  v55 := Tryz.zeroValue158
  t66 := Tryz.underlying175
  a66 := Tryz.isAgg175
  z66 := Tryz.sizeOf175
  v66 := Tryz.zeroValue175
  t70 := Tryz.underlying179
  a70 := Tryz.isAgg179
  z70 := Tryz.sizeOf179
  v70 := Tryz.zeroValue179
  t76 := Tryz.underlying188
  a76 := Tryz.isAgg188
  z76 := Tryz.sizeOf188
  v76 := Tryz.zeroValue188
  t77 := Tryz.underlying189
  a77 := Tryz.isAgg189
  z77 := Tryz.sizeOf189
  v77 := Tryz.zeroValue189 }
end Go.Proofs
/- The program's SortFeatures: what it answers, and that the answer is its own. -/

namespace Go.Proofs.YtgpdpodagoligaaGreat
open Go.RowKit Go.Sort Go.Shelf
set_option linter.unusedSimpArgs false
set_option linter.unusedVariables false
set_option maxRecDepth 100000

theorem lt_cmpF (H : Nat → Feat) (i j : Nat) : ltOf (fun i j => cmpF (H i) (H j)) i j = ltK (fun i => (H i).la) (fun i => (H i).id) i j := by
  show decide (orI (cmpI (H i).la (H j).la) (cmpI (H i).id (H j).id) < 0) = (decide ((H i).la < (H j).la) || (decide ((H i).la = (H j).la) && decide ((H i).id < (H j).id)))
  unfold orI
  by_cases h : cmpI (H i).la (H j).la = 0
  · rw [if_pos h]
    have h' := (cmpI_zero _ _).1 h
    simp [cmpI_lt, h']
  · rw [if_neg h]
    have h' : (H i).la ≠ (H j).la := fun e => h ((cmpI_zero _ _).2 e)
    simp [cmpI_lt, h']
theorem swo_cmpF (H : Nat → Feat) : SWO (ltOf (fun i j => cmpF (H i) (H j))) where
  irrefl x := by rw [lt_cmpF, ltK_no]; omega
  trans x y z h1 h2 := by rw [lt_cmpF, ltK_iff] at *; omega
  ntrans x y z h1 h2 := by rw [lt_cmpF, ltK_no] at *; omega
theorem cmpLays_F (H : Nat → Feat) (blk off size : Nat) (w : World) : CmpLays Tryz.prog 52 #[] (fun i => fcell (H i)) 7 (fun i j => cmpF (H i) (H j)) blk off size w :=
  fun _ _ _ _ x y => compareFeatures_any (H x) (H y) _
theorem holds_F {base : Nat} {w : World} {v : Value} {H : Nat → Feat} {n g c : Nat} (h : FRow base w v H (List.range n)) (hv : v = .slice (some ⟨g, 0, none⟩) n c) : HoldsK (fun i => fcell (H i)) 7 w g 0 (Array.range n) := by
  subst hv
  have hrow : w.ownsRow base 26 7 (.slice (some ⟨g, 0, none⟩) n c) n (cellsF H (List.range n)) := by
    have := h
    unfold FRow at this
    rw [List.length_range] at this
    exact this
  intro t ht
  rw [size_flatK, Array.size_range] at ht
  rw [get_flatK _ _ _ _ (by rw [Array.size_range]; exact ht), Nat.zero_add]
  refine ⟨?_, hrow.frozenAt t⟩
  have hi : t / 7 < n := by omega
  have hk : t % 7 < 7 := by omega
  have e := cellsF_at H (List.range n) (t / 7) (t % 7) (by simpa using hi) hk
  have et : t / 7 * 7 + t % 7 = t := by omega
  rw [et] at e
  rw [hrow.cellAt t ht, e]
  have eg : (List.range n).getD (t / 7) 0 = t / 7 := by simp [List.getD_eq_getElem?_getD, hi]
  have ea : (Array.range n)[t / 7]! = t / 7 := by simp [hi]
  rw [eg, ea]
  show (fcell (H (t / 7)))[t % 7]? = some (fcell (H (t / 7)))[t % 7]!
  have hl : t % 7 < (fcell (H (t / 7))).length := by rw [fcell_len]; exact hk
  rw [List.getElem?_eq_getElem hl, getElem!_pos (fcell (H (t / 7))) (t % 7) hl]
theorem at_F {w : World} {H : Nat → Feat} {g : Nat} {d : Array Nat} (h : HoldsK (fun i => fcell (H i)) 7 w g 0 d) {i : Nat} (hi : i < d.size) :
    FeatAt w g (i * 7) (H d[i]!).id (H d[i]!).la (H d[i]!).ki (H d[i]!).wi (.slice (H d[i]!).a (H d[i]!).n (H d[i]!).cap) (H d[i]!).lab (H d[i]!).pr := by
  have c := fun k (hk : k < 7) => (h.cell hi hk).1
  simp only [Nat.zero_add] at c
  exact ⟨c 0 (by omega), c 1 (by omega), c 2 (by omega), c 3 (by omega), c 4 (by omega), c 5 (by omega), c 6 (by omega)⟩
theorem there_F {w : World} {H : Nat → Feat} {g : Nat} {d : Array Nat} (h : HoldsK (fun i => fcell (H i)) 7 w g 0 d) : There w g (d.size * 7) := fun o ho => by
  have := h.cell (i := o / 7) (c := o % 7) (by omega) (by omega)
  have e : 0 + o / 7 * 7 + o % 7 = o := by omega
  rw [e] at this
  exact ⟨⟨_, this.1⟩, this.2⟩
set_option maxHeartbeats 1000000 in
theorem sortF_any (n base : Nat) (v : Value) (H : Nat → Feat) (w : World) (hR : FRow base w v H (List.range n)) (hn : n ≤ 1048576) :
    Calls Tryz.prog 51 #[v, .func (.func 52) #[] #[]] w fun e w' => e = .returned (.tuple #[]) ∧
      ((n = 0 ∧ w' = w) ∨ ∃ (g c : Nat) (l : List Nat), v = .slice (some ⟨g, 0, none⟩) n c ∧ base ≤ g ∧ g < w.heap.size ∧ l.Perm (List.range n) ∧ l.Pairwise (fun a b => ltK (fun i => (H i).la) (fun i => (H i).id) b a = false) ∧ w.grownBy w' (some g) ∧ There w' g (n * 7) ∧
        ∀ i, i < n → FeatAt w' g (i * 7) (H (l.getD i 0)).id (H (l.getD i 0)).la (H (l.getD i 0)).ki (H (l.getD i 0)).wi (.slice (H (l.getD i 0)).a (H (l.getD i 0)).n (H (l.getD i 0)).cap) (H (l.getD i 0)).lab (H (l.getD i 0)).pr) := by
  rcases hR.at with ⟨hv, hl⟩ | ⟨g, c, hv, hg, hgl, hc, hT, hF⟩
  · have hn0 : n = 0 := by simpa using congrArg List.length hl
    subst hv
    have hcon := AnyF.slices_SortFunc_none Tryz.sortF none 0 (.func (.func 52) #[] #[]) w
    exact hcon.mono fun e w' ⟨he, hw⟩ => ⟨he, .inl ⟨hn0, hw⟩⟩
  · rw [List.length_range] at hv hc hT
    have eg : ∀ args w, (callFunc 52 args).run Tryz.prog w = .ok (.enter 52 args) w := enters_of Tryz.func52 (by kernel_rfl) rfl
    have hH := holds_F hR hv
    have hcon := AnyQ.slices_SortFunc Tryz.sortF 7 Tryz.isAgg26 Tryz.sizeOf26 (fun i => fcell (H i)) (fun _ => rfl) (fun i => fcell_one (H i)) (fun i j => cmpF (H i) (H j)) (swo_cmpF H) 52 #[] g 0 c (Array.range n) w eg (cmpLays_F H g 0 _ w) hH hgl (by rw [Array.size_range]; omega)
    rw [Array.size_range] at hcon
    subst hv
    refine Calls.mono (show Calls Tryz.prog 51 _ _ _ from hcon) ?_
    rintro e w' ⟨he, d', m, os, hp, hs, rfl⟩
    obtain ⟨hp1, hp2, hp3⟩ := hp
    rw [Array.size_range] at hp1
    have hH' := holdsK_sortWorldK_c (fun i => fcell (H i)) 7 w g 0 (Array.range n) d' m os hH hgl (by rw [hp1, Array.size_range])
    have hget : ∀ i, i < n → d'[i]! = d'.toList.getD i 0 := fun i hi => by
      rw [List.getD_eq_getElem?_getD, Array.getElem?_toList, getElem!_pos d' i (by omega), Array.getElem?_eq_getElem (by omega)]
      rfl
    refine ⟨he, .inr ⟨g, c, d'.toList, rfl, hg, hgl, ?_, ?_, grown_sortF _ _ _ _ _ _ _ _, ?_, fun i hi => ?_⟩⟩
    · have h3 : d'.extract 0 n = d' := by rw [← hp1]; exact Array.extract_size
      have h4 : (Array.range n).extract 0 n = Array.range n := by
        have := Array.extract_size (xs := Array.range n)
        rw [Array.size_range] at this
        exact this
      rw [h3, h4] at hp3
      simpa using hp3
    · rw [List.pairwise_iff_getElem]
      intro i j hi hj hij
      have hi' : i < d'.size := by simpa using hi
      have hj' : j < d'.size := by simpa using hj
      have := hs i j (Nat.zero_le _) hij (by omega)
      rw [lt_cmpF, getElem!_pos d' i hi', getElem!_pos d' j hj'] at this
      simpa using this
    · have := there_F hH'
      rw [hp1] at this
      exact this
    · have := at_F hH' (i := i) (by omega)
      rw [hget i hi] at this
      exact this
end Go.Proofs.YtgpdpodagoligaaGreat
/- Which blocks are written, and what stays. -/

namespace Go.Proofs.YtgpdpodagoligaaGreat
open Go.RowKit
set_option linter.unusedSimpArgs false
set_option linter.unusedVariables false
set_option maxRecDepth 100000

/-- Only blocks from lo to hi are written. -/
structure MidB (lo hi : Nat) (w w' : World) : Prop where
  os : w'.os = w.os
  tape : w'.tape = w.tape
  output : w'.output = w.output
  size : w.heap.size ≤ w'.heap.size
  block : ∀ k, k < w.heap.size → (k < lo ∨ hi ≤ k) → w'.heap[k]? = w.heap[k]?
theorem MidB.refl (lo hi : Nat) (w : World) : MidB lo hi w w := ⟨rfl, rfl, rfl, Nat.le_refl _, fun _ _ _ => rfl⟩
theorem MidB.trans {lo hi : Nat} {a b c : World} (h : MidB lo hi a b) (k : MidB lo hi b c) : MidB lo hi a c :=
  ⟨k.os.trans h.os, k.tape.trans h.tape, k.output.trans h.output, Nat.le_trans h.size k.size, fun i hi ho => (k.block i (Nat.lt_of_lt_of_le hi h.size) ho).trans (h.block i hi ho)⟩
theorem MidB.of_below {lo hi : Nat} {a b : World} (h : Below a.heap.size a b) : MidB lo hi a b := ⟨h.os, h.tape, h.output, h.size, fun i hi _ => h.block i hi⟩
theorem MidB.of_grown {lo hi s : Nat} {a b : World} (h : a.grownBy b (some s)) (h1 : lo ≤ s) (h2 : s < hi) : MidB lo hi a b :=
  ⟨h.os, h.tape, h.output, h.size, fun j hj ho => h.block j hj (fun e => by injection e with e; omega)⟩
theorem MidB.set {lo hi s : Nat} {a b : World} (h : MidB lo hi a b) (h1 : lo ≤ s) (h2 : s < hi) (o : Nat) (v : Value) : MidB lo hi a (b.setCell ⟨s, o, none⟩ v) :=
  h.trans (MidB.of_grown (grown_set (grown_refl b (some s)) o v) h1 h2)
theorem MidB.below {lo hi : Nat} {a b : World} (h : MidB lo hi a b) (hl : lo ≤ a.heap.size) : Below lo a b := ⟨h.os, h.tape, h.output, h.size, fun k hk => h.block k (by omega) (.inl hk)⟩
theorem MidB.cell {lo hi : Nat} {a b : World} (h : MidB lo hi a b) {p o : Nat} {v : Value} (hc : a.cell? ⟨p, o, none⟩ = some v) (ho : p < lo ∨ hi ≤ p) : b.cell? ⟨p, o, none⟩ = some v := by
  have hp := World.block_lt_of_cell? _ _ hc
  have he := h.block p hp ho
  have hg : a.grownBy (b) none ∨ True := .inr trivial
  unfold World.cell? at hc ⊢
  simp only [he]
  exact hc
theorem MidB.there {lo hi : Nat} {a b : World} (h : MidB lo hi a b) {p n : Nat} (hT : There a p n) (ho : p < lo ∨ hi ≤ p) : There b p n := fun o hn => by
  obtain ⟨v, hv⟩ := (hT o hn).1
  refine ⟨⟨v, h.cell hv ho⟩, ?_⟩
  have he := h.block p (World.block_lt_of_cell? _ _ hv) ho
  have hz := (hT o hn).2
  unfold World.frozen? at hz ⊢
  simp only [he]
  exact hz
theorem There.grown {w w' : World} {p n s : Nat} (h : There w p n) (hg : w.grownBy w' (some s)) (hs : p ≠ s) : There w' p n := fun o hn => by
  obtain ⟨v, hv⟩ := (h o hn).1
  refine ⟨⟨v, gr_cell hg hv hs⟩, ?_⟩
  have he := hg.block p (World.block_lt_of_cell? _ _ hv) (fun e => hs (by injection e))
  have hz := (h o hn).2
  unfold World.frozen? at hz ⊢
  simp only [he]
  exact hz
end Go.Proofs.YtgpdpodagoligaaGreat
/- Lists of features in memory of their own: which blocks are written, and what stays. -/

namespace Go.Proofs.YtgpdpodagoligaaGreat
open Go.RowKit
set_option linter.unusedSimpArgs false
set_option linter.unusedVariables false
set_option maxRecDepth 100000

/-- A list of features whose blocks lie from lo to hi and may be written, no two alike. -/
def OwnQ (w : World) (lo hi b n : Nat) (N C q : Nat → Nat) : Prop :=
  (lo ≤ b ∧ b < hi ∧ hi ≤ w.heap.size) ∧ There w b (n * 7) ∧
  (∀ i, i < n → (lo ≤ q i ∧ q i < hi ∧ q i ≠ b) ∧ There w (q i) (N i * 2) ∧ w.cell? ⟨b, i * 7 + 4, none⟩ = some (.slice (some ⟨q i, 0, none⟩) (N i) (C i))) ∧
  (∀ i j, i < n → j < n → q i = q j → i = j)
theorem OwnQ.below {w w' : World} {lo hi b n : Nat} {N C q : Nat → Nat} (h : OwnQ w lo hi b n N C q) (hb : Below w.heap.size w w') : OwnQ w' lo hi b n N C q := by
  obtain ⟨⟨h1, h2, h3⟩, h4, h5, h6⟩ := h
  exact ⟨⟨h1, h2, Nat.le_trans h3 hb.size⟩, h4.below hb, fun i hi => ⟨(h5 i hi).1, (h5 i hi).2.1.below hb, bl_cell hb (h5 i hi).2.2⟩, h6⟩
theorem OwnQ.away {w w' : World} {lo hi lo' hi' b n : Nat} {N C q : Nat → Nat} (h : OwnQ w lo hi b n N C q) (hm : MidB lo' hi' w w') (ho : hi' ≤ lo ∨ hi ≤ lo') : OwnQ w' lo hi b n N C q := by
  obtain ⟨⟨h1, h2, h3⟩, h4, h5, h6⟩ := h
  exact ⟨⟨h1, h2, Nat.le_trans h3 hm.size⟩, hm.there h4 (by omega), fun i hi => ⟨(h5 i hi).1, hm.there (h5 i hi).2.1 (by have := (h5 i hi).1; omega), hm.cell (h5 i hi).2.2 (by omega)⟩, h6⟩

end Go.Proofs.YtgpdpodagoligaaGreat
