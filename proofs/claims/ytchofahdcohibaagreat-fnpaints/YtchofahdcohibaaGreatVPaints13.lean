/- Several texts in one. -/
import Derived.WalkKit
import Derived.Test.YtchofahdcohibaaGreatVPaints12
import Derived.Test.YtchofahdcohibaaGreatVPaints6

/- The order by layer, of the same by id: places are sorted, and there is one sorted list alone. No program in sight. -/

namespace Go.Proofs.YtchofahdcohibaaGreat

/-- Place i is ahead of place j: by layer, of the same by id. -/
def ltK (L I : Nat → Int) (i j : Nat) : Bool := decide (L i < L j) || (decide (L i = L j) && decide (I i < I j))
theorem ltK_iff (L I : Nat → Int) (i j : Nat) : ltK L I i j = true ↔ L i < L j ∨ (L i = L j ∧ I i < I j) := by simp [ltK]
theorem ltK_no (L I : Nat → Int) (i j : Nat) : ltK L I i j = false ↔ ¬ (L i < L j ∨ (L i = L j ∧ I i < I j)) := by
  rw [← ltK_iff]; simp
def insK (L I : Nat → Int) (i : Nat) : List Nat → List Nat
  | [] => [i]
  | j :: r => if ltK L I j i = true then j :: insK L I i r else i :: j :: r
def srtK (L I : Nat → Int) : Nat → List Nat
  | 0 => []
  | n + 1 => insK L I n (srtK L I n)
theorem insK_perm (L I : Nat → Int) (i : Nat) : ∀ l, (insK L I i l).Perm (i :: l)
  | [] => .refl _
  | j :: r => by
    rw [insK]
    split
    · exact ((insK_perm L I i r).cons j).trans (.swap i j r)
    · exact .refl _
theorem srtK_perm (L I : Nat → Int) : ∀ n, (srtK L I n).Perm (List.range n)
  | 0 => .refl _
  | n + 1 => by
    rw [srtK, List.range_succ]
    exact (insK_perm L I n _).trans (((srtK_perm L I n).cons n).trans (List.perm_append_singleton n _).symm)
theorem srtK_len (L I : Nat → Int) (n : Nat) : (srtK L I n).length = n := by simpa using (srtK_perm L I n).length_eq
theorem srtK_mem (L I : Nat → Int) (n i : Nat) : i ∈ srtK L I n ↔ i < n := by rw [(srtK_perm L I n).mem_iff]; simp
/-- No two places have the same id. -/
def apartK (I : Nat → Int) (n : Nat) : Prop := ∀ i j, i < n → j < n → I i = I j → i = j
theorem insK_sorted (L I : Nat → Int) (i : Nat) : ∀ l : List Nat, l.Pairwise (fun a b => ltK L I a b = true) → (∀ j ∈ l, I j ≠ I i) → (insK L I i l).Pairwise (fun a b => ltK L I a b = true)
  | [], _, _ => by simp [insK]
  | j :: r, h, hd => by
    rw [List.pairwise_cons] at h
    rw [insK]
    split
    · rename_i hji
      rw [List.pairwise_cons]
      refine ⟨fun x hx => ?_, insK_sorted L I i r h.2 (fun x hx => hd x (List.mem_cons_of_mem _ hx))⟩
      rcases List.mem_cons.1 ((insK_perm L I i r).mem_iff.1 hx) with rfl | hx
      · exact hji
      · exact h.1 x hx
    · rename_i hji
      have hij : ltK L I i j = true := by
        have hne := hd j (List.mem_cons_self ..)
        rw [ltK_iff] at hji ⊢
        omega
      refine List.pairwise_cons.2 ⟨fun x hx => ?_, List.pairwise_cons.2 h⟩
      rcases List.mem_cons.1 hx with rfl | hx
      · exact hij
      · have := h.1 x hx
        rw [ltK_iff] at this hij ⊢
        omega
theorem srtK_sorted (L I : Nat → Int) : ∀ n, apartK I n → (srtK L I n).Pairwise (fun a b => ltK L I a b = true)
  | 0, _ => by simp [srtK]
  | n + 1, h => by
    rw [srtK]
    refine insK_sorted L I n _ (srtK_sorted L I n (fun i j hi hj e => h i j (by omega) (by omega) e)) (fun j hj e => ?_)
    have hj' := (srtK_mem L I n j).1 hj
    have := h j n (by omega) (by omega) e
    omega
theorem srtK_unique (L I : Nat → Int) (n : Nat) (h : apartK I n) (l : List Nat) (hp : l.Perm (List.range n)) (hs : l.Pairwise (fun a b => ltK L I b a = false)) : l = srtK L I n := by
  refine List.Perm.eq_of_pairwise (le := fun a b => ltK L I b a = false) (fun a b ha hb h1 h2 => ?_) hs ((srtK_sorted L I n h).imp (fun {a b} hab => ?_)) (hp.trans (srtK_perm L I n).symm)
  · have ha' : a < n := by simpa using hp.mem_iff.1 ha
    have hb' := (srtK_mem L I n b).1 hb
    rw [ltK_no] at h1 h2
    exact h a b ha' hb' (by omega)
  · rw [ltK_iff] at hab
    rw [ltK_no]
    omega
theorem ltK_congr {L I L' I' : Nat → Int} {i j : Nat} (h1 : L i = L' i) (h2 : L j = L' j) (h3 : I i = I' i) (h4 : I j = I' j) : ltK L I i j = ltK L' I' i j := by
  unfold ltK; rw [h1, h2, h3, h4]
theorem insK_congr {L I L' I' : Nat → Int} {i : Nat} : ∀ l : List Nat, (∀ j, (j = i ∨ j ∈ l) → L j = L' j ∧ I j = I' j) → insK L I i l = insK L' I' i l
  | [], _ => rfl
  | j :: r, h => by
    obtain ⟨a1, a2⟩ := h j (.inr (List.mem_cons_self ..))
    obtain ⟨b1, b2⟩ := h i (.inl rfl)
    rw [insK, insK, ltK_congr a1 b1 a2 b2, insK_congr r (fun k hk => h k (hk.imp id (List.mem_cons_of_mem _)))]
theorem srtK_congr {L I L' I' : Nat → Int} : ∀ n : Nat, (∀ j, j < n → L j = L' j ∧ I j = I' j) → srtK L I n = srtK L' I' n
  | 0, _ => rfl
  | n + 1, h => by
    rw [srtK, srtK, srtK_congr n (fun j hj => h j (by omega))]
    refine insK_congr _ (fun j hj => ?_)
    rcases hj with rfl | hj
    · exact h j (by omega)
    · exact h j (by have := (srtK_mem L' I' n j).1 hj; omega)
/-- The place at which a new one is laid. -/
theorem insK_at (L I : Nat → Int) (i : Nat) : ∀ (l : List Nat) (k : Nat), k ≤ l.length → (∀ j, j < k → ltK L I (l.getD j 0) i = true) → (k = l.length ∨ ltK L I (l.getD k 0) i = false) → insK L I i l = l.take k ++ i :: l.drop k
  | [], k, hk, _, _ => by have : k = 0 := by simpa using hk
                          subst this; rfl
  | j :: r, 0, _, _, h2 => by
    have h3 : ltK L I j i = false := by simpa using h2
    rw [insK, if_neg (by simp [h3])]; rfl
  | j :: r, k + 1, hk, h1, h2 => by
    have h3 : ltK L I j i = true := by simpa using h1 0 (by omega)
    rw [insK, if_pos h3, insK_at L I i r k (by simpa using hk) (fun q hq => by simpa using h1 (q + 1) (by omega)) (by simpa using h2)]
    rfl
end Go.Proofs.YtchofahdcohibaaGreat
/- Rows of features: their cells; two lists of the same features are compared. -/

namespace Go.Proofs.YtchofahdcohibaaGreat
open Go.RowKit
set_option linter.unusedSimpArgs false
set_option linter.unusedVariables false
set_option maxRecDepth 100000

/-- The cells of a feature. -/
def fcell (f : Feat) : List Value := [.int .i64 f.id, .int .i64 f.la, .int .i64 f.ki, .int .i64 f.wi, .slice f.a f.n f.cap, .string f.lab, .int .i64 f.pr]
theorem fcell_len (f : Feat) : (fcell f).length = 7 := rfl
theorem fcell_one (f : Feat) : ∀ v ∈ fcell f, v.oneCell' = true := fun v hv => by
  simp [fcell] at hv
  rcases hv with rfl | rfl | rfl | rfl | rfl | rfl | rfl <;> rfl
def cellsF (H : Nat → Feat) (l : List Nat) : List Value := l.flatMap fun j => fcell (H j)
theorem cellsF_nil (H : Nat → Feat) : cellsF H [] = [] := rfl
theorem cellsF_cons (H : Nat → Feat) (j : Nat) (l : List Nat) : cellsF H (j :: l) = fcell (H j) ++ cellsF H l := by simp [cellsF]
theorem cellsF_app (H : Nat → Feat) (l m : List Nat) : cellsF H (l ++ m) = cellsF H l ++ cellsF H m := by simp [cellsF]
theorem cellsF_one (H : Nat → Feat) (j : Nat) : cellsF H [j] = fcell (H j) := by simp [cellsF]
theorem cellsF_len (H : Nat → Feat) : ∀ l : List Nat, (cellsF H l).length = l.length * 7
  | [] => rfl
  | j :: l => by rw [cellsF_cons, List.length_append, cellsF_len H l, fcell_len, List.length_cons]; omega
theorem cellsF_cell (H : Nat → Feat) (l : List Nat) : ∀ v ∈ cellsF H l, v.oneCell' = true := fun v hv => by
  unfold cellsF at hv
  rw [List.mem_flatMap] at hv
  obtain ⟨j, _, hj⟩ := hv
  exact fcell_one _ v hj
theorem cellsF_congr {H H' : Nat → Feat} : ∀ l : List Nat, (∀ j ∈ l, H j = H' j) → cellsF H l = cellsF H' l
  | [], _ => rfl
  | j :: l, h => by rw [cellsF_cons, cellsF_cons, h j (List.mem_cons_self ..), cellsF_congr l (fun k hk => h k (List.mem_cons_of_mem _ hk))]
theorem cellsF_at (H : Nat → Feat) : ∀ (l : List Nat) (i k : Nat), i < l.length → k < 7 → (cellsF H l)[i * 7 + k]? = (fcell (H (l.getD i 0)))[k]?
  | [], i, k, h, _ => absurd h (by simp)
  | j :: l, 0, k, h, hk => by
    rw [cellsF_cons, Nat.zero_mul, Nat.zero_add, List.getElem?_append_left (by rw [fcell_len]; exact hk)]
    rfl
  | j :: l, i + 1, k, h, hk => by
    rw [cellsF_cons, List.getElem?_append_right (by rw [fcell_len]; omega), fcell_len]
    have e : (i + 1) * 7 + k - 7 = i * 7 + k := by omega
    rw [e, cellsF_at H l i k (by simpa using h) hk]
    rfl
/-- v is a row of its own with the features of l. -/
def FRow (base : Nat) (w : World) (v : Value) (H : Nat → Feat) (l : List Nat) : Prop := w.ownsRow base 36 7 v l.length (cellsF H l)
theorem FRow.at {base : Nat} {w : World} {v : Value} {H : Nat → Feat} {l : List Nat} (h : FRow base w v H l) :
    (v = .slice none 0 0 ∧ l = []) ∨ ∃ g cap, v = .slice (some ⟨g, 0, none⟩) l.length cap ∧ base ≤ g ∧ g < w.heap.size ∧ l.length ≤ cap ∧ There w g (l.length * 7) ∧
      ∀ i, i < l.length → FeatAt w g (i * 7) (H (l.getD i 0)).id (H (l.getD i 0)).la (H (l.getD i 0)).ki (H (l.getD i 0)).wi (.slice (H (l.getD i 0)).a (H (l.getD i 0)).n (H (l.getD i 0)).cap) (H (l.getD i 0)).lab (H (l.getD i 0)).pr := by
  obtain ⟨h1, h2 | ⟨g, cp, cur, hv, hg, hh, hkc, hcm, hcs, htk⟩⟩ := h
  · exact .inl ⟨h2.1, by have := h2.2; cases l with
      | nil => rfl
      | cons => simp at this⟩
  · right
    have hgl : g < w.heap.size := lt_of_heap hh
    have hrow : w.ownsRow base 36 7 (.slice (some ⟨g, 0, none⟩) l.length cp) l.length (cellsF H l) := ⟨h1, .inr ⟨g, cp, cur, rfl, hg, hh, hkc, hcm, hcs, htk⟩⟩
    refine ⟨g, cp, hv, hg, hgl, hkc, fun o ho => ⟨?_, hrow.frozenAt o⟩, fun i hi => ?_⟩
    · rw [hrow.cellAt o ho]
      have hlt : o < (cellsF H l).length := by rw [cellsF_len]; exact ho
      exact ⟨(cellsF H l)[o], List.getElem?_eq_getElem hlt⟩
    · have c := fun k (hk : k < 7) => (hrow.cellAt (i * 7 + k) (by omega)).trans (cellsF_at H l i k hi hk)
      exact ⟨c 0 (by omega), c 1 (by omega), c 2 (by omega), c 3 (by omega), c 4 (by omega), c 5 (by omega), c 6 (by omega)⟩
theorem FRow.below {base : Nat} {w w' : World} {v : Value} {H : Nat → Feat} {l : List Nat} (h : FRow base w v H l) (hb : Below w.heap.size w w') : FRow base w' v H l := by
  obtain ⟨h1, h2 | ⟨g, cp, cur, hv, hg, hh, hr⟩⟩ := h
  · exact ⟨h1, .inl h2⟩
  · exact ⟨h1, .inr ⟨g, cp, cur, hv, hg, (hb.block g (lt_of_heap hh)).trans hh, hr⟩⟩
/-- The features of a row, with their points. -/
theorem FRow.is {base : Nat} {w : World} {v : Value} {H : Nat → Feat} {l : List Nat} (h : FRow base w v H l) (hp : ∀ j ∈ l, IsPts w (H j).a (H j).n (H j).X (H j).Y) :
    ∃ a cap, v = .slice a l.length cap ∧ l.length ≤ cap ∧ IsFs w a l.length (fun i => H (l.getD i 0)) := by
  rcases h.at with ⟨rfl, rfl⟩ | ⟨g, cap, hv, hg, hgl, hc, hT, hF⟩
  · exact ⟨none, 0, rfl, Nat.le_refl _, .inl rfl⟩
  · refine ⟨_, cap, hv, hc, .inr ⟨g, 0, rfl, hgl, fun i hi => ⟨?_, ?_⟩⟩⟩
    · rw [Nat.zero_add]; exact hF i hi
    · refine hp _ ?_
      rw [List.getD_eq_getElem?_getD, List.getElem?_eq_getElem hi]
      exact List.getElem_mem hi
theorem Feat.same_symm {f g : Feat} (h : f.same g) : g.same f := by
  obtain ⟨h1, h2, h3, h4, h5, h6, h7, h8, h9⟩ := h
  exact ⟨h1.symm, h2.symm, h3.symm, h4.symm, h5.symm, h6.symm, h7.symm, h8.symm, h9.symm⟩
theorem Feat.same_trans {f g h : Feat} (a : f.same g) (b : g.same h) : f.same h := by
  obtain ⟨h1, h2, h3, h4, h5, h6, h7, h8, h9⟩ := a
  obtain ⟨k1, k2, k3, k4, k5, k6, k7, k8, k9⟩ := b
  exact ⟨h1.trans k1, h2.trans k2, h3.trans k3, h4.trans k4, h5.trans k5, h6.trans k6, h7.trans k7, h8.trans k8, h9.trans k9⟩

theorem featsC_ok {n : Nat} {G : Nat → Feat} (h : featsC n G = 0) : n ≤ 12 ∧ apartK (fun i => (G i).id) n ∧ ∀ i, i < n → featC (G i).id (G i).la (G i).ki (G i).wi (G i).n (G i).X (G i).Y (G i).lab (G i).pr = 0 := by
  unfold featsC at h
  by_cases h12 : 12 < n
  · rw [if_pos h12] at h; cases h
  · rw [if_neg h12] at h
    have hz := scan_zero _ _ _ h
    have hA : ∀ i, i < n → featC (G i).id (G i).la (G i).ki (G i).wi (G i).n (G i).X (G i).Y (G i).lab (G i).pr = 0 ∧ ¬ ∃ j, j < i ∧ (G j).id = (G i).id := fun i hi => by
      have := hz i (Nat.zero_le _) (by omega)
      unfold codeAt at this
      by_cases hf : featC (G i).id (G i).la (G i).ki (G i).wi (G i).n (G i).X (G i).Y (G i).lab (G i).pr ≠ 0
      · rw [if_pos hf] at this; exact absurd this hf
      · rw [if_neg hf] at this
        by_cases hj : ∃ j, j < i ∧ (G j).id = (G i).id
        · rw [if_pos hj] at this; cases this
        · exact ⟨by simpa using hf, hj⟩
    refine ⟨by omega, fun i j hi hj e => ?_, fun i hi => (hA i hi).1⟩
    rcases Nat.lt_trichotomy i j with h | h | h
    · exact absurd ⟨i, h, e⟩ (hA j hj).2
    · exact h
    · exact absurd ⟨j, h, e.symm⟩ (hA i hi).2

end Go.Proofs.YtchofahdcohibaaGreat
/- The features of a list are copied into memory of their own. -/

namespace Go.Proofs.YtchofahdcohibaaGreat
open Go.RowKit
set_option linter.unusedSimpArgs false
set_option linter.unusedVariables false
set_option maxRecDepth 100000

/-- The first n of H are those of G, each with a row of points of its own. -/
def Copies (base : Nat) (w : World) (n : Nat) (G H : Nat → Feat) : Prop :=
  (∀ i, i < n → (H i).same (G i) ∧ Row base w (.slice (H i).a (H i).n (H i).cap) (ptsOf (G i).X (G i).Y (List.range (G i).n))) ∧
  ∀ i j, i < n → j < n → (H i).a = (H j).a → i = j
theorem ptsOf_len (X Y : Nat → Int) (n : Nat) : (ptsOf X Y (List.range n)).length = n := by simp [ptsOf]
theorem ptsOf_px (X Y : Nat → Int) (n i : Nat) (hi : i < n) : px (ptsOf X Y (List.range n)) i = X i ∧ py (ptsOf X Y (List.range n)) i = Y i := by
  simp [px, py, ptsOf, List.getD_eq_getElem?_getD, hi]
theorem Row.atP {base : Nat} {w : World} {a : Option Addr} {n c : Nat} {X Y : Nat → Int} (h : Row base w (.slice a n c) (ptsOf X Y (List.range n))) (hn : 0 < n) :
    ∃ g, a = some ⟨g, 0, none⟩ ∧ base ≤ g ∧ g < w.heap.size ∧ PtsAt w g 0 n X Y ∧ There w g (n * 2) := by
  obtain ⟨a', cap', hv, hc, h0 | ⟨b, ha, hb, hl, hp, ht⟩⟩ := h.own
  · rw [ptsOf_len] at h0; omega
  · rw [ptsOf_len] at hp ht
    injection hv with e1 e2 e3
    refine ⟨b, e1.trans ha, hb, hl, fun i hi => ?_, ht⟩
    obtain ⟨x1, x2⟩ := ptsOf_px X Y n i hi
    have := hp i hi
    rw [x1, x2] at this
    exact this
theorem Row.keptF {base base' : Nat} {w w' : World} {u v : Value} {l : List (Int × Int)} {H : Nat → Feat} {m : List Nat} (h : Row base w u l) (h' : FRow base' w v H m) (hg : w.grownBy w' v.ownBlock) : Row base w' u l := by
  refine World.ownsRow.kept h hg ?_
  cases hu : u.ownBlock with
  | none => exact .inl rfl
  | some g =>
    right
    intro e
    obtain ⟨c1, h1⟩ := heap_of_row h g hu
    obtain ⟨c2, h2⟩ := heap_of_row h' g e.symm
    rw [h1] at h2
    injection h2 with h2
    injection h2 with _ h2
    exact absurd h2 (by decide)

set_option maxHeartbeats 4000000 in
theorem copyFeatures_any (b n cap : Nat) (G : Nat → Feat) (w : World) (hg : FsAt w b 0 n G) (hbl : b < w.heap.size) (hn : n ≤ 12) (hpos : ∀ i, i < n → 0 < (G i).n) (hs : SmallFs n G) :
    Calls Tryz.prog 23 #[.slice (some ⟨b, 0, none⟩) n cap] w fun e w' => ∃ v H, e = .returned v ∧ FRow w.heap.size w' v H (List.range n) ∧ Copies w.heap.size w' n G H ∧ Below w.heap.size w w' := by
  obtain ⟨i0, hi, hz0, hz1, hz2⟩ := info_parts info_if
  have HG : Hid (FsAt w b 0 n G) := hg
  have HPOS : Hid (∀ i, i < n → 0 < (G i).n) := hpos
  have HS : Hid (SmallFs n G) := hs
  clear hg hpos hs
  go_enter Tryz.func23, Tryz.ntmps23
  go_wp2_with fail
  go_loopw [3, 8] (fun v i wr => ∃ (k : Nat) (H : Nat → Feat), k ≤ n ∧ i = .int .i64 (k : Int) ∧ FRow w.heap.size wr v H (List.range k) ∧ Copies w.heap.size wr k G H ∧ Below w.heap.size w wr) (fun _ i _ => n - (intOf i).toNat)
  case atStart => exact ⟨0, G, by omega, rfl, World.ownsRow_nil _ _ _ _, ⟨fun i hi => by omega, fun i j hi => by omega⟩, Below.refl _ _⟩
  case round =>
    obtain ⟨k, H, hk, rfl, hO, hC, hB⟩ := hrel
    by_cases hlt : k < n
    · have hblr : b < wr.heap.size := Nat.lt_of_lt_of_le hbl hB.size
      obtain ⟨⟨f0, f1, f2, f3, f4, f5, f6⟩, hP⟩ := (HG.out.below hB hbl) k hlt
      simp only [Nat.zero_add] at f0 f1 f2 f3 f4 f5 f6
      have hp0 := HPOS.out k hlt
      obtain ⟨z1, z2⟩ := HS.out.2 k hlt
      obtain ⟨b', off', ha', hbl', hpt⟩ := hP.resolve_left (by omega)
      rw [ha'] at f4
      have HP : Hid (PtsAt wr b' off' (G k).n (G k).X (G k).Y) := hpt
      have HO : Hid (FRow w.heap.size wr u3 H (List.range k)) := hO
      have HC : Hid (Copies w.heap.size wr k G H) := hC
      have HB : Hid (Below w.heap.size w wr) := hB
      have HLT : Hid (k < n) := hlt
      clear hO hC hB hP hpt
      have hi' : (k : Int) < (n : Int) := by omega
      go_wp2_with fail
      generalize hV : (wr.alloc _ : World) = V
      have hBV : Below wr.heap.size wr V := by subst hV; (repeat (first | exact Below.refl _ _ | assumption | refine Below.drew ?_ | refine bl_alloc ?_ _ | refine bl_then ?_ (by assumption) | refine Below.setCell ?_ (by first | omega | (simp; done) | (simp; omega)) _ | refine bl_store ?_ ?_ _ _))
      clear hV f0 f1 f2 f3 f4 f5 f6
      have hOV : FRow w.heap.size V u3 H (List.range k) := HO.out.below hBV
      refine (copyFeature_row _ _ _ _ b' _ _ (G k).X (G k).Y _ _ V (HP.out.below hBV hbl') (Nat.lt_of_lt_of_le hbl' hBV.size) z1 z2).mono ?_
      rintro e w1 ⟨a1, c1, rfl, hR1, hb1⟩
      have hrV : Below wr.heap.size wr w1 := bl_then hBV hb1
      have HR1 : Hid (Row V.heap.size w1 (.slice a1 (G k).n c1) (ptsOf (G k).X (G k).Y (List.range (G k).n))) := hR1
      have HO1 : Hid (FRow w.heap.size w1 u3 H (List.range k)) := hOV.below hb1
      have HB1 : Hid (Below w.heap.size w w1) := bl_then HB.out hrV
      have HrV : Hid (Below wr.heap.size wr w1) := hrV
      have hszV := hBV.size
      have hszw := HB.out.size
      have hsz1 := hb1.size
      clear hR1 hrV hOV hBV hb1 HO HB
      have hlenr : (List.range k).length = k := by simp
      go_wp2_with (first
        | (at_builtin; go_must (refine wpList_append_own _ rfl _ _ 24 rfl w.heap.size 36 i0 (.agg #[.int .i64 0, .int .i64 0, .int .i64 0, .int .i64 0, .slice none 0 0, .string ⟨#[]⟩, .int .i64 0]) 7 80 Tryz.underlying24 hi hz0 hz1 hz2 rfl (by decide) u3 k (cellsF H (List.range k)) rfl ?c6 ⟨w1.heap.size, 0, none⟩ 1 1 (fcell { G k with a := a1, cap := c1 }) rfl ?c0 ?c1 ?c2 ?c3 ?c4 ?c5 ?_)))
      case c6 =>
        have := HO1.out.below (by (repeat (first | exact Below.refl _ _ | assumption | refine Below.drew ?_ | refine bl_alloc ?_ _ | refine bl_then ?_ (by assumption) | refine Below.setCell ?_ (by first | omega | (simp; done) | (simp; omega)) _ | refine bl_store ?_ ?_ _ _)) : Below w1.heap.size w1 (w1.alloc (.cells #[.int .i64 (G k).id, .int .i64 (G k).la, .int .i64 (G k).ki, .int .i64 (G k).wi, .slice a1 (G k).n c1, .string (G k).lab, .int .i64 (G k).pr] 36)))
        unfold FRow at this
        rw [hlenr] at this
        exact this
      case c0 => rfl
      case c1 =>
        intro q u hq
        have hq7 : q < 7 := (List.getElem?_eq_some_iff.1 hq).1
        have hc : q = 0 ∨ q = 1 ∨ q = 2 ∨ q = 3 ∨ q = 4 ∨ q = 5 ∨ q = 6 := by omega
        rcases hc with rfl | rfl | rfl | rfl | rfl | rfl | rfl <;> (simp [fcell] at hq; subst hq; simp [Addr.add, go_sem])
      case c2 => exact fcell_one _
      case c3 => unfold maxLen; omega
      case c4 => omega
      case c5 => simp; omega
      intro v' w3 hown' hgrow hnil
      clear hnil
      have hO2 : FRow w.heap.size (w1.alloc (.cells #[.int .i64 (G k).id, .int .i64 (G k).la, .int .i64 (G k).ki, .int .i64 (G k).wi, .slice a1 (G k).n c1, .string (G k).lab, .int .i64 (G k).pr] 36)) u3 H (List.range k) := HO1.out.below (by (repeat (first | exact Below.refl _ _ | assumption | refine Below.drew ?_ | refine bl_alloc ?_ _ | refine bl_then ?_ (by assumption) | refine Below.setCell ?_ (by first | omega | (simp; done) | (simp; omega)) _ | refine bl_store ?_ ?_ _ _)))
      have hR2 := HR1.out.below (by (repeat (first | exact Below.refl _ _ | assumption | refine Below.drew ?_ | refine bl_alloc ?_ _ | refine bl_then ?_ (by assumption) | refine Below.setCell ?_ (by first | omega | (simp; done) | (simp; omega)) _ | refine bl_store ?_ ?_ _ _)) : Below w1.heap.size w1 (w1.alloc (.cells #[.int .i64 (G k).id, .int .i64 (G k).la, .int .i64 (G k).ki, .int .i64 (G k).wi, .slice a1 (G k).n c1, .string (G k).lab, .int .i64 (G k).pr] 36)))
      have hb2 : Below wr.heap.size wr (w1.alloc (.cells #[.int .i64 (G k).id, .int .i64 (G k).la, .int .i64 (G k).ki, .int .i64 (G k).wi, .slice a1 (G k).n c1, .string (G k).lab, .int .i64 (G k).pr] 36)) := HrV.out.alloc (by omega) _
      obtain ⟨hC1, hC2⟩ := HC.out
      have HF : Hid (FRow w.heap.size w3 v' (fun i => if i = k then { G k with a := a1, cap := c1 } else H i) (List.range (k + 1))) := by
        show FRow _ _ _ _ _
        unfold FRow
        have e1 : cellsF (fun i => if i = k then { G k with a := a1, cap := c1 } else H i) (List.range (k + 1)) = cellsF H (List.range k) ++ fcell { G k with a := a1, cap := c1 } := by
          rw [List.range_succ, cellsF_app, cellsF_one, if_pos rfl]
          rw [cellsF_congr (H' := H) (List.range k) (fun j hj => by rw [if_neg]; have := List.mem_range.1 hj; omega)]
        rw [e1, List.length_range]
        exact hown'
      have HCn : Hid (Copies w.heap.size w3 (k + 1) G (fun i => if i = k then { G k with a := a1, cap := c1 } else H i)) := by
        show Copies _ _ _ _ _
        obtain ⟨g1, hg1, hg1', _⟩ := HR1.out.atP hp0
        refine ⟨fun i hi => ?_, fun i j hi hj e => ?_⟩
        · by_cases e : i = k
          · subst e
            simp only [if_pos]
            exact ⟨⟨rfl, rfl, rfl, rfl, rfl, rfl, rfl, rfl, rfl⟩, (hR2.keptF hO2 hgrow).wideB (by omega)⟩
          · simp only [if_neg e]
            obtain ⟨s1, r1⟩ := hC1 i (by omega)
            exact ⟨s1, (r1.below hb2).keptF hO2 hgrow⟩
        · have old : ∀ i, i < k → (H i).a ≠ a1 := fun i hi e => by
            obtain ⟨s1, r1⟩ := hC1 i hi
            have hnn : (H i).n = (G i).n := s1.2.2.2.2.1
            rw [hnn] at r1
            obtain ⟨g, hg, _, hgl, _⟩ := r1.atP (HPOS.out i (by omega))
            rw [hg, hg1] at e
            injection e with e
            injection e with e
            omega
          by_cases ei : i = k <;> by_cases ej : j = k
          · omega
          · simp only [if_pos ei, if_neg ej] at e
            exact absurd e.symm (old j (by omega))
          · simp only [if_neg ei, if_pos ej] at e
            exact absurd e (old i (by omega))
          · simp only [if_neg ei, if_neg ej] at e
            exact hC2 i j (by omega) (by omega) e
      have HB3 : Hid (Below w.heap.size w w3) := (HB1.out.alloc (by omega) _).grown hgrow (by simp; omega) (fun g hg => ((World.ownsRow.lt (show World.ownsRow _ _ _ _ _ _ _ from hO2)) g hg).1)
      clear hown' hgrow hO2 hR2 hb2 hC1 hC2
      go_wp2
      go_roundw
      case rel => exact ⟨k + 1, _, by have := HLT.out; omega, by go_num, HF.out, HCn.out, HB3.out⟩
      case measure => have := HLT.out; simp [intOf]; omega
    · go_wp2
      go_ret
      have hkn : k = n := by omega
      subst hkn
      exact ⟨_, H, rfl, hO, hC, hB⟩
end Go.Proofs.YtchofahdcohibaaGreat
