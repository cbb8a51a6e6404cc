/- Several texts in one. -/
import Derived.Shelf.SlSortCmp.NoneTotal
import Derived.Shelf.SlGeneric
import Derived.Ground.SlsfProg
import Derived.Test.YtaodbplepegapaaGreatRows
import Derived.Test.YtaodbplepegapaaGreatVRefFrame23
import Derived.Test.YtaodbplepegapaaGreatVRefFrame2
import Derived.Test.YtaodbplepegapaaGreatVRefFrame19

/- Where the sort of the library lies in this program: numbers alone. -/

namespace Go.Proofs
open Go.Shelf
def Tryz.sortF_ren : Go.Shelf.Ren := ⟨fun | 6 => 77 | 15 => 112 | 14 => 111 | 28 => 147 | 29 => 148 | 20 => 139 | 21 => 140 | 22 => 141 | 23 => 142 | 24 => 143 | 25 => 144 | 26 => 145 | 27 => 146 | 46 => 161 | 47 => 162 | 48 => 163 | 49 => 164 | 50 => 165 | 57 => 177 | n => n, fun | 22 => 27 | 24 => 71 | 25 => 121 | 3 => 3 | 39 => 138 | 0 => 0 | 53 => 186 | 55 => 188 | 4 => 4 | 46 => 179 | 45 => 178 | 50 => 183 | 5 => 5 | 9 => 9 | 66 => 201 | 70 => 205 | 76 => 222 | 77 => 223 | n => n, fun | n => n⟩
theorem Tryz.sortF : Go.Proofs.SlLaysF0.n6 Tryz.prog Tryz.sortF_ren := {
  mixed := by kernel_rfl
  f6 := ⟨Tryz.f77.name, by decide, Tryz.func77.trans (congrArg some (by kernel_rfl))⟩
  f14 := ⟨Tryz.f111.name, by decide, Tryz.func111.trans (congrArg some (by kernel_rfl))⟩
  f15 := Tryz.func112.trans (congrArg some (by kernel_rfl))
  f20 := ⟨Tryz.f139.name, by decide, Tryz.func139.trans (congrArg some (by kernel_rfl))⟩
  f21 := ⟨Tryz.f140.name, by decide, Tryz.func140.trans (congrArg some (by kernel_rfl))⟩
  f22 := ⟨Tryz.f141.name, by decide, Tryz.func141.trans (congrArg some (by kernel_rfl))⟩
  f23 := ⟨Tryz.f142.name, by decide, Tryz.func142.trans (congrArg some (by kernel_rfl))⟩
  f24 := ⟨Tryz.f143.name, by decide, Tryz.func143.trans (congrArg some (by kernel_rfl))⟩
  f25 := ⟨Tryz.f144.name, by decide, Tryz.func144.trans (congrArg some (by kernel_rfl))⟩
  f26 := ⟨Tryz.f145.name, by decide, Tryz.func145.trans (congrArg some (by kernel_rfl))⟩
  f27 := ⟨Tryz.f146.name, by decide, Tryz.func146.trans (congrArg some (by kernel_rfl))⟩
  f28 := Tryz.func147.trans (congrArg some (by kernel_rfl))
  f29 := Tryz.func148.trans (congrArg some (by kernel_rfl))
  f46 := ⟨Tryz.f161.name, by decide, Tryz.func161.trans (congrArg some (by kernel_rfl))⟩
  f47 := Tryz.func162.trans (congrArg some (by kernel_rfl))
  f48 := Tryz.func163.trans (congrArg some (by kernel_rfl))
  f49 := ⟨Tryz.f164.name, by decide, Tryz.func164.trans (congrArg some (by kernel_rfl))⟩
  f50 := ⟨Tryz.f165.name, by decide, Tryz.func165.trans (congrArg some (by kernel_rfl))⟩
  f57 := ⟨Tryz.f177.name, by decide, Tryz.func177.trans (congrArg some (by kernel_rfl))⟩
  t0 := Tryz.underlying0
  a0 := Tryz.isAgg0
  z0 := Tryz.sizeOf0
  v0 := Tryz.zeroValue0
  t3 := Tryz.underlying3
  a3 := Tryz.isAgg3
  z3 := Tryz.sizeOf3
  v3 := Tryz.zeroValue3
  t4 := Tryz.underlying4
  a4 := Tryz.isAgg4
  z4 := Tryz.sizeOf4
  v4 := Tryz.zeroValue4
  t5 := Tryz.underlying5
  a5 := Tryz.isAgg5
  z5 := Tryz.sizeOf5
  v5 := Tryz.zeroValue5
  t9 := Tryz.underlying9
  a9 := Tryz.isAgg9
  z9 := Tryz.sizeOf9
  v9 := Tryz.zeroValue9
  t22 := Tryz.underlying27
  a22 := Tryz.isAgg27
  z22 := Tryz.sizeOf27
  v22 := Tryz.zeroValue27
  t25 := Tryz.underlying121
  a25 := Tryz.isAgg121
  z25 := Tryz.sizeOf121
  v25 := Tryz.zeroValue121
  t39 := Tryz.underlying138
  a39 := Tryz.isAgg138
  z39 := Tryz.sizeOf138
  v39 := Tryz.zeroValue138
  t45 := Tryz.underlying178
  a45 := Tryz.isAgg178
  z45 := Tryz.sizeOf178
  v45 := Tryz.zeroValue178
  t46 := Tryz.underlying179
  a46 := Tryz.isAgg179
  z46 := Tryz.sizeOf179
  v46 := Tryz.zeroValue179
  t50 := Tryz.underlying183
  a50 := Tryz.isAgg183
  z50 := Tryz.sizeOf183
  v50 := Tryz.zeroValue183
  t53 := Tryz.underlying186
  a53 := Tryz.isAgg186
  z53 := Tryz.sizeOf186
  v53 := Tryz.zeroValue186
  t55 := Tryz.underlying188
  a55 := Tryz.isAgg188
  z55 := Tryz.sizeOf188
  v55 := Tryz.zeroValue188
  t66 := Tryz.underlying201
  a66 := Tryz.isAgg201
  z66 := Tryz.sizeOf201
  v66 := Tryz.zeroValue201
  t70 := Tryz.underlying205
  a70 := Tryz.isAgg205
  z70 := Tryz.sizeOf205
  v70 := Tryz.zeroValue205
  t76 := Tryz.underlying222
  a76 := Tryz.isAgg222
  z76 := Tryz.sizeOf222
  v76 := Tryz.zeroValue222
  t77 := Tryz.underlying223
  a77 := Tryz.isAgg223
  z77 := Tryz.sizeOf223
  v77 := Tryz.zeroValue223 }
end Go.Proofs
/- The program's SortFeatures: what it answers, and that the answer is its own. -/

namespace Go.Proofs.YtaodbplepegapaaGreat
open Go.RowKit Go.Sort Go.Shelf
set_option linter.unusedSimpArgs false
set_option linter.unusedVariables false
set_option maxRecDepth 100000

theorem lt_cmpF (H : Nat → Feat) (i j : Nat) : ltOf (fun i j => cmpF (H i) (H j)) i j = ltK (fun i => (H i).la) (fun i => (H i).id) i j := by
  show decide (orI (cmpI (H i).la (H j).la) (cmpI (H i).id (H j).id) < 0) = (decide ((H i).la < (H j).la) || (decide ((H i).la = (H j).la) && decide ((H i).id < (H j).id)))
  unfold orI
  by_cases h : cmpI (H i).la (H j).la = 0
  · rw [if_pos h]
    have h' := (cmpI_zero _ _).1 h
    simp [cmpI_lt, h']
  · rw [if_neg h]
    have h' : (H i).la ≠ (H j).la := fun e => h ((cmpI_zero _ _).2 e)
    simp [cmpI_lt, h']
theorem swo_cmpF (H : Nat → Feat) : SWO (ltOf (fun i j => cmpF (H i) (H j))) where
  irrefl x := by rw [lt_cmpF, ltK_no]; omega
  trans x y z h1 h2 := by rw [lt_cmpF, ltK_iff] at *; omega
  ntrans x y z h1 h2 := by rw [lt_cmpF, ltK_no] at *; omega
theorem cmpLays_F (H : Nat → Feat) (blk off size : Nat) (w : World) : CmpLays Tryz.prog 78 #[] (fun i => fcell (H i)) 7 (fun i j => cmpF (H i) (H j)) blk off size w :=
  fun _ _ _ _ x y => compareFeatures_any (H x) (H y) _
theorem holds_F {base : Nat} {w : World} {v : Value} {H : Nat → Feat} {n g c : Nat} (h : FRow base w v H (List.range n)) (hv : v = .slice (some ⟨g, 0, none⟩) n c) : HoldsK (fun i => fcell (H i)) 7 w g 0 (Array.range n) := by
  subst hv
  have hrow : w.ownsRow base 71 7 (.slice (some ⟨g, 0, none⟩) n c) n (cellsF H (List.range n)) := by
    have := h
    unfold FRow at this
    rw [List.length_range] at this
    exact this
  intro t ht
  rw [size_flatK, Array.size_range] at ht
  rw [get_flatK _ _ _ _ (by rw [Array.size_range]; exact ht), Nat.zero_add]
  refine ⟨?_, hrow.frozenAt t⟩
  have hi : t / 7 < n := by omega
  have hk : t % 7 < 7 := by omega
  have e := cellsF_at H (List.range n) (t / 7) (t % 7) (by simpa using hi) hk
  have et : t / 7 * 7 + t % 7 = t := by omega
  rw [et] at e
  rw [hrow.cellAt t ht, e]
  have eg : (List.range n).getD (t / 7) 0 = t / 7 := by simp [List.getD_eq_getElem?_getD, hi]
  have ea : (Array.range n)[t / 7]! = t / 7 := by simp [hi]
  rw [eg, ea]
  show (fcell (H (t / 7)))[t % 7]? = some (fcell (H (t / 7)))[t % 7]!
  have hl : t % 7 < (fcell (H (t / 7))).length := by rw [fcell_len]; exact hk
  rw [List.getElem?_eq_getElem hl, getElem!_pos (fcell (H (t / 7))) (t % 7) hl]
theorem at_F {w : World} {H : Nat → Feat} {g : Nat} {d : Array Nat} (h : HoldsK (fun i => fcell (H i)) 7 w g 0 d) {i : Nat} (hi : i < d.size) :
    FeatAt w g (i * 7) (H d[i]!).id (H d[i]!).la (H d[i]!).ki (H d[i]!).wi (.slice (H d[i]!).a (H d[i]!).n (H d[i]!).cap) (H d[i]!).lab (H d[i]!).pr := by
  have c := fun k (hk : k < 7) => (h.cell hi hk).1
  simp only [Nat.zero_add] at c
  exact ⟨c 0 (by omega), c 1 (by omega), c 2 (by omega), c 3 (by omega), c 4 (by omega), c 5 (by omega), c 6 (by omega)⟩
theorem there_F {w : World} {H : Nat → Feat} {g : Nat} {d : Array Nat} (h : HoldsK (fun i => fcell (H i)) 7 w g 0 d) : There w g (d.size * 7) := fun o ho => by
  have := h.cell (i := o / 7) (c := o % 7) (by omega) (by omega)
  have e : 0 + o / 7 * 7 + o % 7 = o := by omega
  rw [e] at this
  exact ⟨⟨_, this.1⟩, this.2⟩
set_option maxHeartbeats 1000000 in
theorem sortF_any (n base : Nat) (v : Value) (H : Nat → Feat) (w : World) (hR : FRow base w v H (List.range n)) (hn : n ≤ 1048576) :
    Calls Tryz.prog 77 #[v, .func (.func 78) #[] #[]] w fun e w' => e = .returned (.tuple #[]) ∧
      ((n = 0 ∧ w' = w) ∨ ∃ (g c : Nat) (l : List Nat), v = .slice (some ⟨g, 0, none⟩) n c ∧ base ≤ g ∧ g < w.heap.size ∧ l.Perm (List.range n) ∧ l.Pairwise (fun a b => ltK (fun i => (H i).la) (fun i => (H i).id) b a = false) ∧ w.grownBy w' (some g) ∧ There w' g (n * 7) ∧
        ∀ i, i < n → FeatAt w' g (i * 7) (H (l.getD i 0)).id (H (l.getD i 0)).la (H (l.getD i 0)).ki (H (l.getD i 0)).wi (.slice (H (l.getD i 0)).a (H (l.getD i 0)).n (H (l.getD i 0)).cap) (H (l.getD i 0)).lab (H (l.getD i 0)).pr) := by
  rcases hR.at with ⟨hv, hl⟩ | ⟨g, c, hv, hg, hgl, hc, hT, hF⟩
  · have hn0 : n = 0 := by simpa using congrArg List.length hl
    subst hv
    have hcon := AnyF.slices_SortFunc_none Tryz.sortF none 0 (.func (.func 78) #[] #[]) w
    exact hcon.mono fun e w' ⟨he, hw⟩ => ⟨he, .inl ⟨hn0, hw⟩⟩
  · rw [List.length_range] at hv hc hT
    have eg : ∀ args w, (callFunc 78 args).run Tryz.prog w = .ok (.enter 78 args) w := enters_of Tryz.func78 (by kernel_rfl) rfl
    have hH := holds_F hR hv
    have hcon := AnyQ.slices_SortFunc Tryz.sortF 7 Tryz.isAgg71 Tryz.sizeOf71 (fun i => fcell (H i)) (fun _ => rfl) (fun i => fcell_one (H i)) (fun i j => cmpF (H i) (H j)) (swo_cmpF H) 78 #[] g 0 c (Array.range n) w eg (cmpLays_F H g 0 _ w) hH hgl (by rw [Array.size_range]; omega)
    rw [Array.size_range] at hcon
    subst hv
    refine Calls.mono (show Calls Tryz.prog 77 _ _ _ from hcon) ?_
    rintro e w' ⟨he, d', m, os, hp, hs, rfl⟩
    obtain ⟨hp1, hp2, hp3⟩ := hp
    rw [Array.size_range] at hp1
    have hH' := holdsK_sortWorldK_c (fun i => fcell (H i)) 7 w g 0 (Array.range n) d' m os hH hgl (by rw [hp1, Array.size_range])
    have hget : ∀ i, i < n → d'[i]! = d'.toList.getD i 0 := fun i hi => by
      rw [List.getD_eq_getElem?_getD, Array.getElem?_toList, getElem!_pos d' i (by omega), Array.getElem?_eq_getElem (by omega)]
      rfl
    refine ⟨he, .inr ⟨g, c, d'.toList, rfl, hg, hgl, ?_, ?_, grown_sortF _ _ _ _ _ _ _ _, ?_, fun i hi => ?_⟩⟩
    · have h3 : d'.extract 0 n = d' := by rw [← hp1]; exact Array.extract_size
      have h4 : (Array.range n).extract 0 n = Array.range n := by
        have := Array.extract_size (xs := Array.range n)
        rw [Array.size_range] at this
        exact this
      rw [h3, h4] at hp3
      simpa using hp3
    · rw [List.pairwise_iff_getElem]
      intro i j hi hj hij
      have hi' : i < d'.size := by simpa using hi
      have hj' : j < d'.size := by simpa using hj
      have := hs i j (Nat.zero_le _) hij (by omega)
      rw [lt_cmpF, getElem!_pos d' i hi', getElem!_pos d' j hj'] at this
      simpa using this
    · have := there_F hH'
      rw [hp1] at this
      exact this
    · have := at_F hH' (i := i) (by omega)
      rw [hget i hi] at this
      exact this
end Go.Proofs.YtaodbplepegapaaGreat
/- Which blocks are written, and what stays. -/

namespace Go.Proofs.YtaodbplepegapaaGreat
open Go.RowKit
set_option linter.unusedSimpArgs false
set_option linter.unusedVariables false
set_option maxRecDepth 100000

/-- Only blocks from lo to hi are written. -/
structure MidB (lo hi : Nat) (w w' : World) : Prop where
  os : w'.os = w.os
  tape : w'.tape = w.tape
  output : w'.output = w.output
  size : w.heap.size ≤ w'.heap.size
  block : ∀ k, k < w.heap.size → (k < lo ∨ hi ≤ k) → w'.heap[k]? = w.heap[k]?
theorem MidB.refl (lo hi : Nat) (w : World) : MidB lo hi w w := ⟨rfl, rfl, rfl, Nat.le_refl _, fun _ _ _ => rfl⟩
theorem MidB.trans {lo hi : Nat} {a b c : World} (h : MidB lo hi a b) (k : MidB lo hi b c) : MidB lo hi a c :=
  ⟨k.os.trans h.os, k.tape.trans h.tape, k.output.trans h.output, Nat.le_trans h.size k.size, fun i hi ho => (k.block i (Nat.lt_of_lt_of_le hi h.size) ho).trans (h.block i hi ho)⟩
theorem MidB.of_below {lo hi : Nat} {a b : World} (h : Below a.heap.size a b) : MidB lo hi a b := ⟨h.os, h.tape, h.output, h.size, fun i hi _ => h.block i hi⟩
theorem MidB.of_grown {lo hi s : Nat} {a b : World} (h : a.grownBy b (some s)) (h1 : lo ≤ s) (h2 : s < hi) : MidB lo hi a b :=
  ⟨h.os, h.tape, h.output, h.size, fun j hj ho => h.block j hj (fun e => by injection e with e; omega)⟩
theorem MidB.set {lo hi s : Nat} {a b : World} (h : MidB lo hi a b) (h1 : lo ≤ s) (h2 : s < hi) (o : Nat) (v : Value) : MidB lo hi a (b.setCell ⟨s, o, none⟩ v) :=
  h.trans (MidB.of_grown (grown_set (grown_refl b (some s)) o v) h1 h2)
theorem MidB.below {lo hi : Nat} {a b : World} (h : MidB lo hi a b) (hl : lo ≤ a.heap.size) : Below lo a b := ⟨h.os, h.tape, h.output, h.size, fun k hk => h.block k (by omega) (.inl hk)⟩
theorem MidB.cell {lo hi : Nat} {a b : World} (h : MidB lo hi a b) {p o : Nat} {v : Value} (hc : a.cell? ⟨p, o, none⟩ = some v) (ho : p < lo ∨ hi ≤ p) : b.cell? ⟨p, o, none⟩ = some v := by
  have hp := World.block_lt_of_cell? _ _ hc
  have he := h.block p hp ho
  have hg : a.grownBy (b) none ∨ True := .inr trivial
  unfold World.cell? at hc ⊢
  simp only [he]
  exact hc
theorem MidB.there {lo hi : Nat} {a b : World} (h : MidB lo hi a b) {p n : Nat} (hT : There a p n) (ho : p < lo ∨ hi ≤ p) : There b p n := fun o hn => by
  obtain ⟨v, hv⟩ := (hT o hn).1
  refine ⟨⟨v, h.cell hv ho⟩, ?_⟩
  have he := h.block p (World.block_lt_of_cell? _ _ hv) ho
  have hz := (hT o hn).2
  unfold World.frozen? at hz ⊢
  simp only [he]
  exact hz
theorem There.grown {w w' : World} {p n s : Nat} (h : There w p n) (hg : w.grownBy w' (some s)) (hs : p ≠ s) : There w' p n := fun o hn => by
  obtain ⟨v, hv⟩ := (h o hn).1
  refine ⟨⟨v, gr_cell hg hv hs⟩, ?_⟩
  have he := hg.block p (World.block_lt_of_cell? _ _ hv) (fun e => hs (by injection e))
  have hz := (h o hn).2
  unfold World.frozen? at hz ⊢
  simp only [he]
  exact hz
end Go.Proofs.YtaodbplepegapaaGreat
/- Lists of features in memory of their own: which blocks are written, and what stays. -/

namespace Go.Proofs.YtaodbplepegapaaGreat
open Go.RowKit
set_option linter.unusedSimpArgs false
set_option linter.unusedVariables false
set_option maxRecDepth 100000

/-- A list of features whose blocks lie from lo to hi and may be written, no two alike. -/
def OwnQ (w : World) (lo hi b n : Nat) (N C q : Nat → Nat) : Prop :=
  (lo ≤ b ∧ b < hi ∧ hi ≤ w.heap.size) ∧ There w b (n * 7) ∧
  (∀ i, i < n → (lo ≤ q i ∧ q i < hi ∧ q i ≠ b) ∧ There w (q i) (N i * 2) ∧ w.cell? ⟨b, i * 7 + 4, none⟩ = some (.slice (some ⟨q i, 0, none⟩) (N i) (C i))) ∧
  (∀ i j, i < n → j < n → q i = q j → i = j)
theorem OwnQ.below {w w' : World} {lo hi b n : Nat} {N C q : Nat → Nat} (h : OwnQ w lo hi b n N C q) (hb : Below w.heap.size w w') : OwnQ w' lo hi b n N C q := by
  obtain ⟨⟨h1, h2, h3⟩, h4, h5, h6⟩ := h
  exact ⟨⟨h1, h2, Nat.le_trans h3 hb.size⟩, h4.below hb, fun i hi => ⟨(h5 i hi).1, (h5 i hi).2.1.below hb, bl_cell hb (h5 i hi).2.2⟩, h6⟩
theorem OwnQ.away {w w' : World} {lo hi lo' hi' b n : Nat} {N C q : Nat → Nat} (h : OwnQ w lo hi b n N C q) (hm : MidB lo' hi' w w') (ho : hi' ≤ lo ∨ hi ≤ lo') : OwnQ w' lo hi b n N C q := by
  obtain ⟨⟨h1, h2, h3⟩, h4, h5, h6⟩ := h
  exact ⟨⟨h1, h2, Nat.le_trans h3 hm.size⟩, hm.there h4 (by omega), fun i hi => ⟨(h5 i hi).1, hm.there (h5 i hi).2.1 (by have := (h5 i hi).1; omega), hm.cell (h5 i hi).2.2 (by omega)⟩, h6⟩

end Go.Proofs.YtaodbplepegapaaGreat
/- The program's SortFeatures: the same features, sorted, in memory of its own. -/

namespace Go.Proofs.YtaodbplepegapaaGreat
open Go.RowKit
set_option linter.unusedSimpArgs false
set_option linter.unusedVariables false
set_option maxRecDepth 100000

/-- The places of a list without a fault, sorted. -/
def srtF (n : Nat) (G : Nat → Feat) : List Nat := srtK (fun i => (G i).la) (fun i => (G i).id) n
theorem srtF_lt (n : Nat) (G : Nat → Feat) (i : Nat) (hi : i < n) : (srtF n G).getD i 0 < n := by
  have hl : (srtF n G).length = n := srtK_len _ _ n
  refine (srtK_mem (fun i => (G i).la) (fun i => (G i).id) n _).1 ?_
  rw [List.getD_eq_getElem?_getD, List.getElem?_eq_getElem (by rw [hl]; exact hi)]
  exact List.getElem_mem _
theorem srtF_inj (n : Nat) (G : Nat → Feat) (i j : Nat) (hi : i < n) (hj : j < n) (h : (srtF n G).getD i 0 = (srtF n G).getD j 0) : i = j := by
  have hl : (srtF n G).length = n := srtK_len _ _ n
  have hnd : (srtF n G).Nodup := (srtK_perm (fun i => (G i).la) (fun i => (G i).id) n).nodup_iff.2 List.nodup_range
  rw [List.getD_eq_getElem?_getD, List.getD_eq_getElem?_getD, List.getElem?_eq_getElem (by rw [hl]; exact hi), List.getElem?_eq_getElem (by rw [hl]; exact hj)] at h
  exact (List.getElem_inj (xs := srtF n G) hnd).1 h
noncomputable def srtM (n : Nat) (G : Nat → Feat) : Nat := if featsC n G = 0 then n else 0
/-- The answer: so many features, sorted; its blocks are its own. -/
def SortRes (base : Nat) (w : World) (a : Option Addr) (n : Nat) (G T : Nat → Feat) : Prop :=
  IsFs w a (srtM n G) T ∧ (∀ i, i < srtM n G → (T i).same (G ((srtF n G).getD i 0))) ∧
  (srtM n G = 0 ∨ ∃ g q, a = some ⟨g, 0, none⟩ ∧ OwnQ w base w.heap.size g (srtM n G) (fun i => (T i).n) (fun i => (T i).cap) q)
theorem featC_pos {id la ki wi : Int} {n : Nat} {X Y : Nat → Int} {lab : ByteArray} {pr : Int} (h : featC id la ki wi n X Y lab pr = 0) : 0 < n ∧ n ≤ 12 := by
  unfold featC at h
  by_cases h1 : rngB id la ki wi pr = true
  · by_cases h2 : sizeB ki n = true
    · unfold sizeB at h2
      by_cases k1 : ki = 1
      · rw [if_pos k1] at h2; simp at h2; omega
      · rw [if_neg k1] at h2
        by_cases k2 : ki = 2
        · rw [if_pos k2] at h2; simp [inB] at h2; omega
        · rw [if_neg k2] at h2; simp [inB] at h2; omega
    · simp [h1, h2] at h
  · simp [h1] at h

theorem FeatAt.set {w : World} {p o r s : Nat} {id la ki wi : Int} {pts x : Value} {lab : ByteArray} {pr : Int} (h : FeatAt w p o id la ki wi pts lab pr) (hne : r ≠ p) : FeatAt (w.setCell ⟨r, s, none⟩ x) p o id la ki wi pts lab pr := by
  have nb : ∀ q : Nat, (⟨r, s, none⟩ : Addr) ≠ ⟨p, q, none⟩ := fun q e => hne (by injection e)
  obtain ⟨h0, h1, h2, h3, h4, h5, h6⟩ := h
  exact ⟨by rw [set1_other (nb _)]; exact h0, by rw [set1_other (nb _)]; exact h1, by rw [set1_other (nb _)]; exact h2, by rw [set1_other (nb _)]; exact h3, by rw [set1_other (nb _)]; exact h4, by rw [set1_other (nb _)]; exact h5, by rw [set1_other (nb _)]; exact h6⟩
theorem row_ne {base base' : Nat} {w : World} {q g n m c d : Nat} {l : List (Int × Int)} {H : Nat → Feat} {k : List Nat} (h : Row base w (.slice (some ⟨q, 0, none⟩) n c) l) (h' : FRow base' w (.slice (some ⟨g, 0, none⟩) m d) H k) : q ≠ g := fun e => by
  subst e
  obtain ⟨c1, h1⟩ := heap_of_row h q rfl
  obtain ⟨c2, h2⟩ := heap_of_row h' q rfl
  rw [h1] at h2
  injection h2 with h2
  injection h2 with _ h2
  exact absurd h2 (by decide)
theorem sortRes_mk {base1 r n c : Nat} {a : Option Addr} {G H : Nat → Feat} {w2 w3 : World} {x y : Value} (hc : featsC n G = 0) (hR : FRow base1 w2 (.slice a n c) H (List.range n)) (hC : Copies base1 w2 n G H) (hpos : ∀ i, i < n → 0 < (G i).n) (hap : apartK (fun i => (G i).id) n)
    (hres : (n = 0 ∧ w3 = w2) ∨ ∃ (g c' : Nat) (l : List Nat), Value.slice a n c = .slice (some ⟨g, 0, none⟩) n c' ∧ base1 ≤ g ∧ g < w2.heap.size ∧ l.Perm (List.range n) ∧ l.Pairwise (fun a b => ltK (fun i => (H i).la) (fun i => (H i).id) b a = false) ∧ w2.grownBy w3 (some g) ∧ There w3 g (n * 7) ∧
        ∀ i, i < n → FeatAt w3 g (i * 7) (H (l.getD i 0)).id (H (l.getD i 0)).la (H (l.getD i 0)).ki (H (l.getD i 0)).wi (.slice (H (l.getD i 0)).a (H (l.getD i 0)).n (H (l.getD i 0)).cap) (H (l.getD i 0)).lab (H (l.getD i 0)).pr)
    (hr : r < base1) : ∃ T, SortRes r ((w3.setCell ⟨r, 0, none⟩ x).setCell ⟨r, 1, none⟩ y) a n G T ∧ ∀ i, i < srtM n G → (T i).n ≤ (T i).cap := by
  have hM : srtM n G = n := by unfold srtM; rw [if_pos hc]
  rcases hres with ⟨h0, _⟩ | ⟨g, c', l, hv, hg, hgl, hp, hs, hgr, hT, hF⟩
  · refine ⟨G, ?_, fun i hi => by omega⟩
    unfold SortRes
    rw [hM, h0]
    exact ⟨.inl rfl, fun i hi => by omega, .inl rfl⟩
  · injection hv with e1 _ e3
    subst e1 e3
    have hl : l = srtF n G := by
      have h1 : apartK (fun i => (H i).id) n := fun i j hi hj e => hap i j hi hj (by
        have a1 := (hC.1 i hi).1.1
        have a2 := (hC.1 j hj).1.1
        show (G i).id = (G j).id
        rw [← a1, ← a2]; exact e)
      rw [srtK_unique _ _ n h1 l hp hs]
      exact srtK_congr n (fun j hj => ⟨(hC.1 j hj).1.2.1, (hC.1 j hj).1.1⟩)
    subst hl
    have hq : ∀ j, ∃ q, j < n → (H j).a = some ⟨q, 0, none⟩ ∧ base1 ≤ q ∧ q < w2.heap.size ∧ q ≠ g ∧ PtsAt w2 q 0 (G j).n (G j).X (G j).Y ∧ There w2 q ((G j).n * 2) := fun j => by
      by_cases hj : j < n
      · obtain ⟨s1, r1⟩ := hC.1 j hj
        have hnn : (H j).n = (G j).n := s1.2.2.2.2.1
        rw [hnn] at r1
        obtain ⟨q, q1, q2, q3, q4, q5⟩ := r1.atP (hpos j hj)
        rw [q1] at r1
        exact ⟨q, fun _ => ⟨q1, q2, q3, row_ne r1 hR, q4, q5⟩⟩
      · exact ⟨0, fun h => absurd h hj⟩
    obtain ⟨q, hq⟩ := Classical.skolem.1 hq
    have hsz := hgr.size
    have hlt := srtF_lt n G
    refine ⟨fun i => H ((srtF n G).getD i 0), ?_, fun i hi => ?_⟩
    case refine_2 =>
      rw [hM] at hi
      obtain ⟨a', c', hv', hc', _⟩ := (hC.1 _ (hlt i hi)).2.own
      have hl' : (ptsOf (G ((srtF n G).getD i 0)).X (G ((srtF n G).getD i 0)).Y (List.range (G ((srtF n G).getD i 0)).n)).length = (G ((srtF n G).getD i 0)).n := by simp [ptsOf]
      injection hv' with _ _ e3
      rw [hl'] at hc'
      show (H ((srtF n G).getD i 0)).n ≤ (H ((srtF n G).getD i 0)).cap
      rw [e3, (hC.1 _ (hlt i hi)).1.2.2.2.2.1]
      exact hc'
    unfold SortRes
    rw [hM]
    refine ⟨.inr ⟨g, 0, rfl, by simp; omega, fun i hi => ⟨?_, ?_⟩⟩, fun i hi => (hC.1 _ (hlt i hi)).1, .inr ⟨g, fun i => q ((srtF n G).getD i 0), rfl, ⟨by omega, by simp; omega, Nat.le_refl _⟩, (hT.store (by omega)).store (by omega), fun i hi => ⟨⟨?_, ?_, ?_⟩, ?_, ?_⟩, fun i j hi hj e => ?_⟩⟩
    · rw [Nat.zero_add]
      exact ((hF i hi).set (by omega)).set (by omega)
    · obtain ⟨q1, q2, q3, q4, q5, q6⟩ := hq _ (hlt i hi)
      obtain ⟨_, _, _, _, s5, s6, s7, _, _⟩ := (hC.1 _ (hlt i hi)).1
      show IsPts _ (H ((srtF n G).getD i 0)).a (H ((srtF n G).getD i 0)).n (H ((srtF n G).getD i 0)).X (H ((srtF n G).getD i 0)).Y
      rw [q1, s5, s6, s7]
      exact .inr ⟨_, 0, rfl, by simp only [World.size_setCell]; omega, ((q5.grown hgr q4).store (by omega)).store (by omega)⟩
    · show r ≤ q ((srtF n G).getD i 0)
      have := (hq _ (hlt i hi)).2.1; omega
    · show q ((srtF n G).getD i 0) < _
      have := (hq _ (hlt i hi)).2.2.1; simp only [World.size_setCell]; omega
    · exact (hq _ (hlt i hi)).2.2.2.1
    · obtain ⟨q1, q2, q3, q4, q5, q6⟩ := hq _ (hlt i hi)
      obtain ⟨_, _, _, _, s5, _⟩ := (hC.1 _ (hlt i hi)).1
      show There _ _ ((H ((srtF n G).getD i 0)).n * 2)
      rw [s5]
      exact ((q6.grown hgr q4).store (by omega)).store (by omega)
    · obtain ⟨q1, _⟩ := hq _ (hlt i hi)
      have := (((hF i hi).set (r := r) (s := 0) (x := x) (by omega)).set (r := r) (s := 1) (x := y) (by omega)).2.2.2.2.1
      rw [this, q1]
    · have e1 := (hq _ (hlt i hi)).1
      have e2 := (hq _ (hlt j hj)).1
      have e' : q ((srtF n G).getD i 0) = q ((srtF n G).getD j 0) := e
      have := hC.2 _ _ (hlt i hi) (hlt j hj) (by rw [e1, e2, e'])
      exact srtF_inj n G i j hi hj this

set_option maxHeartbeats 4000000 in
theorem impl_SortFeatures_cap (b n cap : Nat) (G : Nat → Feat) (w : World) (hg : FsAt w b 0 n G) (hbl : b < w.heap.size) (hs : SmallFs n G) (hcap : n ≤ cap) :
    Calls Tryz.prog 37 #[.slice (some ⟨b, 0, none⟩) n cap] w fun e w' => ∃ a c T, e = .returned (.agg #[.int .i64 (featsC n G), .slice a (srtM n G) c]) ∧ srtM n G ≤ c ∧ (SortRes w.heap.size w' a n G T ∧ ∀ i, i < srtM n G → (T i).n ≤ (T i).cap) ∧ Below w.heap.size w w' := by
  have HG : Hid (FsAt w b 0 n G) := hg
  have HS : Hid (SmallFs n G) := hs
  clear hg hs
  have key : ∀ (T : Array Value) (Wf : World) (v0 v1 : Value), T[2]?.getD undef = .pointer (some ⟨w.heap.size, 0, none⟩) → Wf.cell? ⟨w.heap.size, 0, none⟩ = some v0 → Wf.cell? ⟨w.heap.size, 1, none⟩ = some v1 → (results Tryz.f37 T).run Tryz.prog Wf = .ok (.agg #[v0, v1]) Wf := fun T Wf v0 v1 hT h0 h1 => by
    simp [results, Tryz.results37, go_sem, hT, h0, h1]
  have KEY := (show Hid _ from key)
  clear key
  go_enter Tryz.func37, Tryz.ntmps37
  go_wp2_with fail
  generalize hV : (w.alloc _ : World) = V
  have hBV : Below w.heap.size w V := by subst hV; (repeat (first | exact Below.refl _ _ | assumption | refine Below.drew ?_ | refine bl_alloc ?_ _ | refine bl_then ?_ (by assumption) | refine Below.setCell ?_ (by first | omega | (simp; done) | (simp; omega)) _ | refine bl_store ?_ ?_ _ _))
  have hTV : There V w.heap.size 2 := fun o ho => by
    subst hV
    have hc : o = 0 ∨ o = 1 := by omega
    rcases hc with rfl | rfl <;> exact ⟨⟨_, by simp [go_sem]; rfl⟩, by simp [go_sem]⟩
  have hlV : w.heap.size < V.heap.size := by subst hV; simp
  clear hV
  refine (FeaturesFault_any b n cap G V (HG.out.below hBV hbl) (Nat.lt_of_lt_of_le hbl hBV.size) HS.out hcap).mono ?_
  rintro e w1 ⟨rfl, hb1⟩
  have hB1 : Below w.heap.size w w1 := bl_then hBV hb1
  have hT1 := hTV.below hb1
  have hl1 : w.heap.size < w1.heap.size := Nat.lt_of_lt_of_le hlV hb1.size
  clear hBV hTV hb1
  by_cases hc : featsC n G = 0
  · have HC : Hid (featsC n G = 0) := hc
    have hM : Hid (srtM n G = n) := by show _ = _; unfold srtM; rw [if_pos hc]
    obtain ⟨h12, hap, hfc⟩ := featsC_ok hc
    have HPOS : Hid (∀ i, i < n → 0 < (G i).n) := fun i hi => (featC_pos (hfc i hi)).1
    have HAP : Hid (apartK (fun i => (G i).id) n) := hap
    rw [hc]
    have HT1 : Hid (There w1 w.heap.size 2) := hT1
    have HB1 : Hid (Below w.heap.size w w1) := hB1
    clear hc hap hfc hT1 hB1
    go_wp2_with fail
    refine (copyFeatures_any b n cap G w1 (HG.out.below HB1.out hbl) (Nat.lt_of_lt_of_le hbl HB1.out.size) h12 HPOS.out HS.out).mono ?_
    rintro e w2 ⟨v, H, rfl, hR2, hC2, hb2⟩
    have HT2 : Hid (There w2 w.heap.size 2) := HT1.out.below hb2
    have HB2 : Hid (Below w.heap.size w w2) := bl_then HB1.out hb2
    have HR2 : Hid (FRow w1.heap.size w2 v H (List.range n)) := hR2
    have HC2 : Hid (Copies w1.heap.size w2 n G H) := hC2
    clear hR2 hC2 hb2
    go_wp2_with fail
    refine (sortF_any n _ v H w2 HR2.out (by omega)).mono ?_
    rintro e w3 ⟨rfl, hres⟩
    have HRES := (show Hid _ from hres)
    obtain ⟨a, c, hv⟩ : ∃ a c, v = .slice a n c := by
      rcases HR2.out.at with ⟨hv, hl⟩ | ⟨g, c, hv, _⟩
      · have hn0 : n = 0 := by simpa using congrArg List.length hl
        exact ⟨none, 0, by rw [hv, hn0]⟩
      · rw [List.length_range] at hv
        exact ⟨_, c, hv⟩
    subst hv
    have hnc : Hid (n ≤ c) := by
      show n ≤ c
      rcases HR2.out.at with ⟨hv, hl⟩ | ⟨g, c', hv, _, _, hc', _⟩
      · injection hv with _ h1 h2; omega
      · rw [List.length_range] at hv hc'
        injection hv with _ _ h2
        omega
    have hT3 : There w3 w.heap.size 2 := by
      rcases HRES.out with ⟨_, rfl⟩ | ⟨g, c, l, _, hg, _, _, _, hgr, _⟩
      · exact HT2.out
      · exact HT2.out.grown hgr (by omega)
    have hB3 : Below w.heap.size w w3 := by
      rcases HRES.out with ⟨_, rfl⟩ | ⟨g, c, l, _, hg, _, _, _, hgr, _⟩
      · exact HB2.out
      · exact HB2.out.trans (below_grown hgr (by omega) HB2.out.size)
    have t0 := hT3.cell 0 (by omega)
    have t1 := hT3.cell 1 (by omega)
    have z0 := (hT3 0 (by omega)).2
    have z1 := (hT3 1 (by omega)).2
    have HB3 : Hid (Below w.heap.size w w3) := hB3
    clear hres hT3 hB3
    go_wp2_with fail
    obtain ⟨u0, u1⟩ := set2_at (W := w3) (r := w.heap.size) (i := 0) (j := 1) (u := .int .i64 0) (v := .slice a n c) (by omega) (by rw [t0]; rfl) (by rw [t1]; rfl)
    have hf := sortRes_mk (r := w.heap.size) (x := .int .i64 0) (y := .slice a n c) HC.out HR2.out HC2.out HPOS.out HAP.out HRES.out (by omega)
    obtain ⟨T, hT⟩ := hf
    refine bodyPost_ret (KEY.out _ _ _ _ rfl u0 u1) rfl ⟨a, c, T, by rw [hM.out, HC.out], by rw [hM.out]; exact hnc.out, hT, ?_⟩
    exact (HB3.out.setCell (Nat.le_refl _) _).setCell (Nat.le_refl _) _
  · have hM : Hid (srtM n G = 0) := by show _ = _; unfold srtM; rw [if_neg hc]
    have hcb : (featsC n G == 0) = false := by simpa using hc
    have t0 := hT1.cell 0 (by omega)
    have t1 := hT1.cell 1 (by omega)
    have z0 := (hT1 0 (by omega)).2
    have z1 := (hT1 1 (by omega)).2
    have HT1 : Hid (There w1 w.heap.size 2) := hT1
    clear hc hT1
    go_wp2_with fail
    obtain ⟨u0, u1⟩ := set2_at (W := w1) (r := w.heap.size) (i := 0) (j := 1) (u := .int .i64 (featsC n G)) (v := .slice none 0 0) (by omega) (by rw [t0]; rfl) (by rw [t1]; rfl)
    refine bodyPost_ret (KEY.out _ _ _ _ rfl u0 u1) rfl ⟨none, 0, G, by rw [hM.out], by rw [hM.out]; exact Nat.le_refl _, ?_, ?_⟩
    · unfold SortRes
      rw [hM.out]
      exact ⟨⟨.inl rfl, fun i hi => by omega, .inl rfl⟩, fun i hi => by omega⟩
    · exact (hB1.setCell (Nat.le_refl _) _).setCell (Nat.le_refl _) _
theorem impl_SortFeatures_any (b n cap : Nat) (G : Nat → Feat) (w : World) (hg : FsAt w b 0 n G) (hbl : b < w.heap.size) (hs : SmallFs n G) (hcap : n ≤ cap) :
    Calls Tryz.prog 37 #[.slice (some ⟨b, 0, none⟩) n cap] w fun e w' => ∃ a c T, e = .returned (.agg #[.int .i64 (featsC n G), .slice a (srtM n G) c]) ∧ srtM n G ≤ c ∧ SortRes w.heap.size w' a n G T ∧ Below w.heap.size w w' :=
  (impl_SortFeatures_cap b n cap G w hg hbl hs hcap).mono fun e w' ⟨a, c, T, h1, h2, h3, h4⟩ => ⟨a, c, T, h1, h2, h3.1, h4⟩
end Go.Proofs.YtaodbplepegapaaGreat
