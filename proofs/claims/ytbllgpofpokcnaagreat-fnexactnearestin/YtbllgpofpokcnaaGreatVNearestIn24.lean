/- Several texts in one. -/
import Derived.Test.YtbllgpofpokcnaaGreatVNearestIn9
import Derived.Test.YtbllgpofpokcnaaGreatVNearestIn6
import Derived.WalkKit
import Derived.Test.YtbllgpofpokcnaaGreatVNearestIn23

/- Features as answers: they are compared, marked, and the marks are found again. -/

namespace Go.Proofs.YtbllgpofpokcnaaGreat
open Go.RowKit
set_option linter.unusedSimpArgs false
set_option linter.unusedVariables false
set_option maxRecDepth 100000

set_option maxHeartbeats 2000000 in
theorem eqFeatureI_any (id la ki wi : Int) (a a' : Option Addr) (n cap cap' : Nat) (X Y : Nat → Int) (lab : ByteArray) (pr : Int) (w : World) (hp : IsPts w a n X Y) (hq : IsPts w a' n X Y) (hmax : n ≤ 1048576) :
    Calls Tryz.prog 89 #[.agg #[.int .i64 id, .int .i64 la, .int .i64 ki, .int .i64 wi, .slice a n cap, .string lab, .int .i64 pr], .agg #[.int .i64 id, .int .i64 la, .int .i64 ki, .int .i64 wi, .slice a' n cap', .string lab, .int .i64 pr]] w fun e w' => e = .returned (.bool true) ∧ Below w.heap.size w w' := by
  have HP : Hid (IsPts w a n X Y) := hp
  have HQ : Hid (IsPts w a' n X Y) := hq
  clear hp hq
  go_enter Tryz.func89, Tryz.ntmps89
  go_wp2_with fail
  generalize hW : ((w.alloc _).alloc _ : World) = W
  have hB0 : Below w.heap.size w W := by subst hW; (repeat (first | exact Below.refl _ _ | assumption | refine Below.drew ?_ | refine bl_alloc ?_ _ | refine bl_then ?_ (by assumption) | refine Below.setCell ?_ (by first | omega | (simp; done) | (simp; omega)) _ | refine bl_store ?_ ?_ _ _))
  have hsz : W.heap.size = w.heap.size + 1 + 1 := by subst hW; simp
  have c5 : W.cell? ⟨w.heap.size, 5, none⟩ = some (.string lab) := by subst hW; simp [go_sem]
  have c6 : W.cell? ⟨w.heap.size, 6, none⟩ = some (.int .i64 pr) := by subst hW; simp [go_sem]
  have o5 : W.cell? ⟨w.heap.size + 1, 5, none⟩ = some (.string lab) := by subst hW; simp [go_sem]
  have o6 : W.cell? ⟨w.heap.size + 1, 6, none⟩ = some (.int .i64 pr) := by subst hW; simp [go_sem]
  clear hW
  refine (eqPts_any a a' n cap cap' X Y W (HP.out.below hB0) (HQ.out.below hB0) hmax).mono ?_
  rintro e w1 ⟨rfl, hb1⟩
  have d5 := (hb1.cell (p := ⟨w.heap.size, 5, none⟩) (show w.heap.size < _ by omega)).trans c5
  have d6 := (hb1.cell (p := ⟨w.heap.size, 6, none⟩) (show w.heap.size < _ by omega)).trans c6
  have e5 := (hb1.cell (p := ⟨w.heap.size + 1, 5, none⟩) (show w.heap.size + 1 < _ by omega)).trans o5
  have e6 := (hb1.cell (p := ⟨w.heap.size + 1, 6, none⟩) (show w.heap.size + 1 < _ by omega)).trans o6
  have HB1 : Hid (Below w.heap.size w w1) := bl_then hB0 hb1
  clear c5 c6 o5 o6 hb1 hB0 hsz
  go_wp2
  go_ret
  exact ⟨rfl, HB1.out⟩
/-- Block p holds an answer with a feature. -/
def RAt (w : World) (p : Nat) (c id la ki wi : Int) (v : Value) (lab : ByteArray) (pr : Int) : Prop :=
  w.cell? ⟨p, 0, none⟩ = some (.int .i64 c) ∧ w.cell? ⟨p, 1, none⟩ = some (.int .i64 id) ∧ w.cell? ⟨p, 2, none⟩ = some (.int .i64 la) ∧ w.cell? ⟨p, 3, none⟩ = some (.int .i64 ki) ∧ w.cell? ⟨p, 4, none⟩ = some (.int .i64 wi) ∧
  w.cell? ⟨p, 5, none⟩ = some v ∧ w.cell? ⟨p, 6, none⟩ = some (.string lab) ∧ w.cell? ⟨p, 7, none⟩ = some (.int .i64 pr)
theorem RAt.row {w w' : World} {p : Nat} {row : Option Nat} {c id la ki wi pr : Int} {v : Value} {lab : ByteArray} (h : RAt w p c id la ki wi v lab pr) (hg : w.grownBy w' row) (hs : ∀ s, row = some s → p ≠ s) : RAt w' p c id la ki wi v lab pr := by
  obtain ⟨h0, h1, h2, h3, h4, h5, h6, h7⟩ := h
  exact ⟨ro_cell hg h0 hs, ro_cell hg h1 hs, ro_cell hg h2 hs, ro_cell hg h3 hs, ro_cell hg h4 hs, ro_cell hg h5 hs, ro_cell hg h6 hs, ro_cell hg h7 hs⟩
theorem RAt.below {w w' : World} {p : Nat} {c id la ki wi pr : Int} {v : Value} {lab : ByteArray} (h : RAt w p c id la ki wi v lab pr) (hb : Below w.heap.size w w') : RAt w' p c id la ki wi v lab pr := h.row (grown_below (r := none) hb) (fun s hs => by cases hs)
theorem RAt.lt {w : World} {p : Nat} {c id la ki wi pr : Int} {v : Value} {lab : ByteArray} (h : RAt w p c id la ki wi v lab pr) : p < w.heap.size := World.block_lt_of_cell? _ _ h.1
theorem RAt.new (w : World) (c id la ki wi : Int) (v : Value) (lab : ByteArray) (pr : Int) (t : TypeId) : RAt (w.alloc (.cells #[.int .i64 c, .int .i64 id, .int .i64 la, .int .i64 ki, .int .i64 wi, v, .string lab, .int .i64 pr] t)) w.heap.size c id la ki wi v lab pr := by
  refine ⟨?_, ?_, ?_, ?_, ?_, ?_, ?_, ?_⟩ <;> simp [go_sem]
theorem FeatAt.row {w w' : World} {p o : Nat} {row : Option Nat} {id la ki wi pr : Int} {v : Value} {lab : ByteArray} (h : FeatAt w p o id la ki wi v lab pr) (hg : w.grownBy w' row) (hs : ∀ s, row = some s → p ≠ s) : FeatAt w' p o id la ki wi v lab pr := by
  obtain ⟨h0, h1, h2, h3, h4, h5, h6⟩ := h
  exact ⟨ro_cell hg h0 hs, ro_cell hg h1 hs, ro_cell hg h2 hs, ro_cell hg h3 hs, ro_cell hg h4 hs, ro_cell hg h5 hs, ro_cell hg h6 hs⟩
theorem FeatAt.new (w : World) (id la ki wi : Int) (v : Value) (lab : ByteArray) (pr : Int) (t : TypeId) : FeatAt (w.alloc (.cells #[.int .i64 id, .int .i64 la, .int .i64 ki, .int .i64 wi, v, .string lab, .int .i64 pr] t)) w.heap.size 0 id la ki wi v lab pr := by
  refine ⟨?_, ?_, ?_, ?_, ?_, ?_, ?_⟩ <;> simp [go_sem]
theorem FeatAt.lt {w : World} {p o : Nat} {id la ki wi pr : Int} {v : Value} {lab : ByteArray} (h : FeatAt w p o id la ki wi v lab pr) : p < w.heap.size := World.block_lt_of_cell? _ _ h.1
end Go.Proofs.YtbllgpofpokcnaaGreat
/- The order by layer, of the same by id: places are sorted, and there is one sorted list alone. No program in sight. -/

namespace Go.Proofs.YtbllgpofpokcnaaGreat

/-- Place i is ahead of place j: by layer, of the same by id. -/
def ltK (L I : Nat → Int) (i j : Nat) : Bool := decide (L i < L j) || (decide (L i = L j) && decide (I i < I j))
theorem ltK_iff (L I : Nat → Int) (i j : Nat) : ltK L I i j = true ↔ L i < L j ∨ (L i = L j ∧ I i < I j) := by simp [ltK]
theorem ltK_no (L I : Nat → Int) (i j : Nat) : ltK L I i j = false ↔ ¬ (L i < L j ∨ (L i = L j ∧ I i < I j)) := by
  rw [← ltK_iff]; simp
def insK (L I : Nat → Int) (i : Nat) : List Nat → List Nat
  | [] => [i]
  | j :: r => if ltK L I j i = true then j :: insK L I i r else i :: j :: r
def srtK (L I : Nat → Int) : Nat → List Nat
  | 0 => []
  | n + 1 => insK L I n (srtK L I n)
theorem insK_perm (L I : Nat → Int) (i : Nat) : ∀ l, (insK L I i l).Perm (i :: l)
  | [] => .refl _
  | j :: r => by
    rw [insK]
    split
    · exact ((insK_perm L I i r).cons j).trans (.swap i j r)
    · exact .refl _
theorem srtK_perm (L I : Nat → Int) : ∀ n, (srtK L I n).Perm (List.range n)
  | 0 => .refl _
  | n + 1 => by
    rw [srtK, List.range_succ]
    exact (insK_perm L I n _).trans (((srtK_perm L I n).cons n).trans (List.perm_append_singleton n _).symm)
theorem srtK_len (L I : Nat → Int) (n : Nat) : (srtK L I n).length = n := by simpa using (srtK_perm L I n).length_eq
theorem srtK_mem (L I : Nat → Int) (n i : Nat) : i ∈ srtK L I n ↔ i < n := by rw [(srtK_perm L I n).mem_iff]; simp
/-- No two places have the same id. -/
def apartK (I : Nat → Int) (n : Nat) : Prop := ∀ i j, i < n → j < n → I i = I j → i = j
theorem insK_sorted (L I : Nat → Int) (i : Nat) : ∀ l : List Nat, l.Pairwise (fun a b => ltK L I a b = true) → (∀ j ∈ l, I j ≠ I i) → (insK L I i l).Pairwise (fun a b => ltK L I a b = true)
  | [], _, _ => by simp [insK]
  | j :: r, h, hd => by
    rw [List.pairwise_cons] at h
    rw [insK]
    split
    · rename_i hji
      rw [List.pairwise_cons]
      refine ⟨fun x hx => ?_, insK_sorted L I i r h.2 (fun x hx => hd x (List.mem_cons_of_mem _ hx))⟩
      rcases List.mem_cons.1 ((insK_perm L I i r).mem_iff.1 hx) with rfl | hx
      · exact hji
      · exact h.1 x hx
    · rename_i hji
      have hij : ltK L I i j = true := by
        have hne := hd j (List.mem_cons_self ..)
        rw [ltK_iff] at hji ⊢
        omega
      refine List.pairwise_cons.2 ⟨fun x hx => ?_, List.pairwise_cons.2 h⟩
      rcases List.mem_cons.1 hx with rfl | hx
      · exact hij
      · have := h.1 x hx
        rw [ltK_iff] at this hij ⊢
        omega
theorem srtK_sorted (L I : Nat → Int) : ∀ n, apartK I n → (srtK L I n).Pairwise (fun a b => ltK L I a b = true)
  | 0, _ => by simp [srtK]
  | n + 1, h => by
    rw [srtK]
    refine insK_sorted L I n _ (srtK_sorted L I n (fun i j hi hj e => h i j (by omega) (by omega) e)) (fun j hj e => ?_)
    have hj' := (srtK_mem L I n j).1 hj
    have := h j n (by omega) (by omega) e
    omega
theorem srtK_unique (L I : Nat → Int) (n : Nat) (h : apartK I n) (l : List Nat) (hp : l.Perm (List.range n)) (hs : l.Pairwise (fun a b => ltK L I b a = false)) : l = srtK L I n := by
  refine List.Perm.eq_of_pairwise (le := fun a b => ltK L I b a = false) (fun a b ha hb h1 h2 => ?_) hs ((srtK_sorted L I n h).imp (fun {a b} hab => ?_)) (hp.trans (srtK_perm L I n).symm)
  · have ha' : a < n := by simpa using hp.mem_iff.1 ha
    have hb' := (srtK_mem L I n b).1 hb
    rw [ltK_no] at h1 h2
    exact h a b ha' hb' (by omega)
  · rw [ltK_iff] at hab
    rw [ltK_no]
    omega
theorem ltK_congr {L I L' I' : Nat → Int} {i j : Nat} (h1 : L i = L' i) (h2 : L j = L' j) (h3 : I i = I' i) (h4 : I j = I' j) : ltK L I i j = ltK L' I' i j := by
  unfold ltK; rw [h1, h2, h3, h4]
theorem insK_congr {L I L' I' : Nat → Int} {i : Nat} : ∀ l : List Nat, (∀ j, (j = i ∨ j ∈ l) → L j = L' j ∧ I j = I' j) → insK L I i l = insK L' I' i l
  | [], _ => rfl
  | j :: r, h => by
    obtain ⟨a1, a2⟩ := h j (.inr (List.mem_cons_self ..))
    obtain ⟨b1, b2⟩ := h i (.inl rfl)
    rw [insK, insK, ltK_congr a1 b1 a2 b2, insK_congr r (fun k hk => h k (hk.imp id (List.mem_cons_of_mem _)))]
theorem srtK_congr {L I L' I' : Nat → Int} : ∀ n : Nat, (∀ j, j < n → L j = L' j ∧ I j = I' j) → srtK L I n = srtK L' I' n
  | 0, _ => rfl
  | n + 1, h => by
    rw [srtK, srtK, srtK_congr n (fun j hj => h j (by omega))]
    refine insK_congr _ (fun j hj => ?_)
    rcases hj with rfl | hj
    · exact h j (by omega)
    · exact h j (by have := (srtK_mem L' I' n j).1 hj; omega)
/-- The place at which a new one is laid. -/
theorem insK_at (L I : Nat → Int) (i : Nat) : ∀ (l : List Nat) (k : Nat), k ≤ l.length → (∀ j, j < k → ltK L I (l.getD j 0) i = true) → (k = l.length ∨ ltK L I (l.getD k 0) i = false) → insK L I i l = l.take k ++ i :: l.drop k
  | [], k, hk, _, _ => by have : k = 0 := by simpa using hk
                          subst this; rfl
  | j :: r, 0, _, _, h2 => by
    have h3 : ltK L I j i = false := by simpa using h2
    rw [insK, if_neg (by simp [h3])]; rfl
  | j :: r, k + 1, hk, h1, h2 => by
    have h3 : ltK L I j i = true := by simpa using h1 0 (by omega)
    rw [insK, if_pos h3, insK_at L I i r k (by simpa using hk) (fun q hq => by simpa using h1 (q + 1) (by omega)) (by simpa using h2)]
    rfl
end Go.Proofs.YtbllgpofpokcnaaGreat
/- Rows of features: their cells; two lists of the same features are compared. -/

namespace Go.Proofs.YtbllgpofpokcnaaGreat
open Go.RowKit
set_option linter.unusedSimpArgs false
set_option linter.unusedVariables false
set_option maxRecDepth 100000

/-- The cells of a feature. -/
def fcell (f : Feat) : List Value := [.int .i64 f.id, .int .i64 f.la, .int .i64 f.ki, .int .i64 f.wi, .slice f.a f.n f.cap, .string f.lab, .int .i64 f.pr]
theorem fcell_len (f : Feat) : (fcell f).length = 7 := rfl
theorem fcell_one (f : Feat) : ∀ v ∈ fcell f, v.oneCell' = true := fun v hv => by
  simp [fcell] at hv
  rcases hv with rfl | rfl | rfl | rfl | rfl | rfl | rfl <;> rfl
def cellsF (H : Nat → Feat) (l : List Nat) : List Value := l.flatMap fun j => fcell (H j)
theorem cellsF_nil (H : Nat → Feat) : cellsF H [] = [] := rfl
theorem cellsF_cons (H : Nat → Feat) (j : Nat) (l : List Nat) : cellsF H (j :: l) = fcell (H j) ++ cellsF H l := by simp [cellsF]
theorem cellsF_app (H : Nat → Feat) (l m : List Nat) : cellsF H (l ++ m) = cellsF H l ++ cellsF H m := by simp [cellsF]
theorem cellsF_one (H : Nat → Feat) (j : Nat) : cellsF H [j] = fcell (H j) := by simp [cellsF]
theorem cellsF_len (H : Nat → Feat) : ∀ l : List Nat, (cellsF H l).length = l.length * 7
  | [] => rfl
  | j :: l => by rw [cellsF_cons, List.length_append, cellsF_len H l, fcell_len, List.length_cons]; omega
theorem cellsF_cell (H : Nat → Feat) (l : List Nat) : ∀ v ∈ cellsF H l, v.oneCell' = true := fun v hv => by
  unfold cellsF at hv
  rw [List.mem_flatMap] at hv
  obtain ⟨j, _, hj⟩ := hv
  exact fcell_one _ v hj
theorem cellsF_congr {H H' : Nat → Feat} : ∀ l : List Nat, (∀ j ∈ l, H j = H' j) → cellsF H l = cellsF H' l
  | [], _ => rfl
  | j :: l, h => by rw [cellsF_cons, cellsF_cons, h j (List.mem_cons_self ..), cellsF_congr l (fun k hk => h k (List.mem_cons_of_mem _ hk))]
theorem cellsF_at (H : Nat → Feat) : ∀ (l : List Nat) (i k : Nat), i < l.length → k < 7 → (cellsF H l)[i * 7 + k]? = (fcell (H (l.getD i 0)))[k]?
  | [], i, k, h, _ => absurd h (by simp)
  | j :: l, 0, k, h, hk => by
    rw [cellsF_cons, Nat.zero_mul, Nat.zero_add, List.getElem?_append_left (by rw [fcell_len]; exact hk)]
    rfl
  | j :: l, i + 1, k, h, hk => by
    rw [cellsF_cons, List.getElem?_append_right (by rw [fcell_len]; omega), fcell_len]
    have e : (i + 1) * 7 + k - 7 = i * 7 + k := by omega
    rw [e, cellsF_at H l i k (by simpa using h) hk]
    rfl
/-- v is a row of its own with the features of l. -/
def FRow (base : Nat) (w : World) (v : Value) (H : Nat → Feat) (l : List Nat) : Prop := w.ownsRow base 123 7 v l.length (cellsF H l)
theorem FRow.at {base : Nat} {w : World} {v : Value} {H : Nat → Feat} {l : List Nat} (h : FRow base w v H l) :
    (v = .slice none 0 0 ∧ l = []) ∨ ∃ g cap, v = .slice (some ⟨g, 0, none⟩) l.length cap ∧ base ≤ g ∧ g < w.heap.size ∧ l.length ≤ cap ∧ There w g (l.length * 7) ∧
      ∀ i, i < l.length → FeatAt w g (i * 7) (H (l.getD i 0)).id (H (l.getD i 0)).la (H (l.getD i 0)).ki (H (l.getD i 0)).wi (.slice (H (l.getD i 0)).a (H (l.getD i 0)).n (H (l.getD i 0)).cap) (H (l.getD i 0)).lab (H (l.getD i 0)).pr := by
  obtain ⟨h1, h2 | ⟨g, cp, cur, hv, hg, hh, hkc, hcm, hcs, htk⟩⟩ := h
  · exact .inl ⟨h2.1, by have := h2.2; cases l with
      | nil => rfl
      | cons => simp at this⟩
  · right
    have hgl : g < w.heap.size := lt_of_heap hh
    have hrow : w.ownsRow base 123 7 (.slice (some ⟨g, 0, none⟩) l.length cp) l.length (cellsF H l) := ⟨h1, .inr ⟨g, cp, cur, rfl, hg, hh, hkc, hcm, hcs, htk⟩⟩
    refine ⟨g, cp, hv, hg, hgl, hkc, fun o ho => ⟨?_, hrow.frozenAt o⟩, fun i hi => ?_⟩
    · rw [hrow.cellAt o ho]
      have hlt : o < (cellsF H l).length := by rw [cellsF_len]; exact ho
      exact ⟨(cellsF H l)[o], List.getElem?_eq_getElem hlt⟩
    · have c := fun k (hk : k < 7) => (hrow.cellAt (i * 7 + k) (by omega)).trans (cellsF_at H l i k hi hk)
      exact ⟨c 0 (by omega), c 1 (by omega), c 2 (by omega), c 3 (by omega), c 4 (by omega), c 5 (by omega), c 6 (by omega)⟩
theorem FRow.below {base : Nat} {w w' : World} {v : Value} {H : Nat → Feat} {l : List Nat} (h : FRow base w v H l) (hb : Below w.heap.size w w') : FRow base w' v H l := by
  obtain ⟨h1, h2 | ⟨g, cp, cur, hv, hg, hh, hr⟩⟩ := h
  · exact ⟨h1, .inl h2⟩
  · exact ⟨h1, .inr ⟨g, cp, cur, hv, hg, (hb.block g (lt_of_heap hh)).trans hh, hr⟩⟩
/-- The features of a row, with their points. -/
theorem FRow.is {base : Nat} {w : World} {v : Value} {H : Nat → Feat} {l : List Nat} (h : FRow base w v H l) (hp : ∀ j ∈ l, IsPts w (H j).a (H j).n (H j).X (H j).Y) :
    ∃ a cap, v = .slice a l.length cap ∧ l.length ≤ cap ∧ IsFs w a l.length (fun i => H (l.getD i 0)) := by
  rcases h.at with ⟨rfl, rfl⟩ | ⟨g, cap, hv, hg, hgl, hc, hT, hF⟩
  · exact ⟨none, 0, rfl, Nat.le_refl _, .inl rfl⟩
  · refine ⟨_, cap, hv, hc, .inr ⟨g, 0, rfl, hgl, fun i hi => ⟨?_, ?_⟩⟩⟩
    · rw [Nat.zero_add]; exact hF i hi
    · refine hp _ ?_
      rw [List.getD_eq_getElem?_getD, List.getElem?_eq_getElem hi]
      exact List.getElem_mem hi
theorem Feat.same_symm {f g : Feat} (h : f.same g) : g.same f := by
  obtain ⟨h1, h2, h3, h4, h5, h6, h7, h8, h9⟩ := h
  exact ⟨h1.symm, h2.symm, h3.symm, h4.symm, h5.symm, h6.symm, h7.symm, h8.symm, h9.symm⟩
theorem Feat.same_trans {f g h : Feat} (a : f.same g) (b : g.same h) : f.same h := by
  obtain ⟨h1, h2, h3, h4, h5, h6, h7, h8, h9⟩ := a
  obtain ⟨k1, k2, k3, k4, k5, k6, k7, k8, k9⟩ := b
  exact ⟨h1.trans k1, h2.trans k2, h3.trans k3, h4.trans k4, h5.trans k5, h6.trans k6, h7.trans k7, h8.trans k8, h9.trans k9⟩

theorem featsC_ok {n : Nat} {G : Nat → Feat} (h : featsC n G = 0) : n ≤ 12 ∧ apartK (fun i => (G i).id) n ∧ ∀ i, i < n → featC (G i).id (G i).la (G i).ki (G i).wi (G i).n (G i).X (G i).Y (G i).lab (G i).pr = 0 := by
  unfold featsC at h
  by_cases h12 : 12 < n
  · rw [if_pos h12] at h; cases h
  · rw [if_neg h12] at h
    have hz := scan_zero _ _ _ h
    have hA : ∀ i, i < n → featC (G i).id (G i).la (G i).ki (G i).wi (G i).n (G i).X (G i).Y (G i).lab (G i).pr = 0 ∧ ¬ ∃ j, j < i ∧ (G j).id = (G i).id := fun i hi => by
      have := hz i (Nat.zero_le _) (by omega)
      unfold codeAt at this
      by_cases hf : featC (G i).id (G i).la (G i).ki (G i).wi (G i).n (G i).X (G i).Y (G i).lab (G i).pr ≠ 0
      · rw [if_pos hf] at this; exact absurd this hf
      · rw [if_neg hf] at this
        by_cases hj : ∃ j, j < i ∧ (G j).id = (G i).id
        · rw [if_pos hj] at this; cases this
        · exact ⟨by simpa using hf, hj⟩
    refine ⟨by omega, fun i j hi hj e => ?_, fun i hi => (hA i hi).1⟩
    rcases Nat.lt_trichotomy i j with h | h | h
    · exact absurd ⟨i, h, e⟩ (hA j hj).2
    · exact h
    · exact absurd ⟨j, h, e.symm⟩ (hA i hi).2

set_option maxHeartbeats 4000000 in
theorem eqFs_any (a a' : Option Addr) (n cap cap' : Nat) (G H : Nat → Feat) (w : World) (hg : IsFs w a n G) (hh : IsFs w a' n H) (hs : ∀ i, i < n → (G i).same (H i)) (hn : n ≤ 1048576) (hk : ∀ i, i < n → (H i).n ≤ 1048576) :
    Calls Tryz.prog 55 #[.slice a n cap, .slice a' n cap'] w fun e w' => e = .returned (.bool true) ∧ Below w.heap.size w w' := by
  have HG : Hid (IsFs w a n G) := hg
  have HH : Hid (IsFs w a' n H) := hh
  have HS : Hid (∀ i, i < n → (G i).same (H i)) := hs
  have HK : Hid (∀ i, i < n → (H i).n ≤ 1048576) := hk
  clear hg hh hs hk
  go_enter Tryz.func55, Tryz.ntmps55
  go_wp2
  go_loopw [5] (fun i wr => ∃ k : Nat, k ≤ n ∧ i = .int .i64 k ∧ Below w.heap.size w wr) (fun i _ => n - (intOf i).toNat)
  case atStart => exact ⟨0, by omega, rfl, Below.refl _ _⟩
  case round =>
    obtain ⟨k, hk, rfl, hB⟩ := hrel
    by_cases hlt : k < n
    · rcases HG.out with h0 | ⟨b, off, rfl, hbl, hFG⟩
      · omega
      rcases HH.out with h0 | ⟨d, off', rfl, hdl, hFH⟩
      · omega
      obtain ⟨s1, s2, s3, s4, s5, s6, s7, s8, s9⟩ := HS.out k hlt
      have hnk := HK.out k hlt
      have hGk := hFG.below hB hbl
      have hHk := hFH.below hB hdl
      have hblr : b < wr.heap.size := Nat.lt_of_lt_of_le hbl hB.size
      have hdlr : d < wr.heap.size := Nat.lt_of_lt_of_le hdl hB.size
      have c0 : ∀ W', Below wr.heap.size wr W' → W'.cell? ⟨b, off + k * 7, none⟩ = some (.int .i64 (G k).id) := fun W' h => (hGk.below h hblr k hlt).1.1
      have c1 : ∀ W', Below wr.heap.size wr W' → W'.cell? ⟨b, off + k * 7 + 1, none⟩ = some (.int .i64 (G k).la) := fun W' h => (hGk.below h hblr k hlt).1.2.1
      have c2 : ∀ W', Below wr.heap.size wr W' → W'.cell? ⟨b, off + k * 7 + 2, none⟩ = some (.int .i64 (G k).ki) := fun W' h => (hGk.below h hblr k hlt).1.2.2.1
      have c3 : ∀ W', Below wr.heap.size wr W' → W'.cell? ⟨b, off + k * 7 + 3, none⟩ = some (.int .i64 (G k).wi) := fun W' h => (hGk.below h hblr k hlt).1.2.2.2.1
      have c4 : ∀ W', Below wr.heap.size wr W' → W'.cell? ⟨b, off + k * 7 + 4, none⟩ = some (.slice (G k).a (G k).n (G k).cap) := fun W' h => (hGk.below h hblr k hlt).1.2.2.2.2.1
      have c5 : ∀ W', Below wr.heap.size wr W' → W'.cell? ⟨b, off + k * 7 + 5, none⟩ = some (.string (G k).lab) := fun W' h => (hGk.below h hblr k hlt).1.2.2.2.2.2.1
      have c6 : ∀ W', Below wr.heap.size wr W' → W'.cell? ⟨b, off + k * 7 + 6, none⟩ = some (.int .i64 (G k).pr) := fun W' h => (hGk.below h hblr k hlt).1.2.2.2.2.2.2
      have d0 : ∀ W', Below wr.heap.size wr W' → W'.cell? ⟨d, off' + k * 7, none⟩ = some (.int .i64 (H k).id) := fun W' h => (hHk.below h hdlr k hlt).1.1
      have d1 : ∀ W', Below wr.heap.size wr W' → W'.cell? ⟨d, off' + k * 7 + 1, none⟩ = some (.int .i64 (H k).la) := fun W' h => (hHk.below h hdlr k hlt).1.2.1
      have d2 : ∀ W', Below wr.heap.size wr W' → W'.cell? ⟨d, off' + k * 7 + 2, none⟩ = some (.int .i64 (H k).ki) := fun W' h => (hHk.below h hdlr k hlt).1.2.2.1
      have d3 : ∀ W', Below wr.heap.size wr W' → W'.cell? ⟨d, off' + k * 7 + 3, none⟩ = some (.int .i64 (H k).wi) := fun W' h => (hHk.below h hdlr k hlt).1.2.2.2.1
      have d4 : ∀ W', Below wr.heap.size wr W' → W'.cell? ⟨d, off' + k * 7 + 4, none⟩ = some (.slice (H k).a (H k).n (H k).cap) := fun W' h => (hHk.below h hdlr k hlt).1.2.2.2.2.1
      have d5 : ∀ W', Below wr.heap.size wr W' → W'.cell? ⟨d, off' + k * 7 + 5, none⟩ = some (.string (H k).lab) := fun W' h => (hHk.below h hdlr k hlt).1.2.2.2.2.2.1
      have d6 : ∀ W', Below wr.heap.size wr W' → W'.cell? ⟨d, off' + k * 7 + 6, none⟩ = some (.int .i64 (H k).pr) := fun W' h => (hHk.below h hdlr k hlt).1.2.2.2.2.2.2
      have hPG := (hGk k hlt).2
      have hPH := (hHk k hlt).2
      rw [s1] at c0; rw [s2] at c1; rw [s3] at c2; rw [s4] at c3; rw [s5] at c4; rw [s8] at c5; rw [s9] at c6
      rw [s5, s6, s7] at hPG
      have KG : Hid (IsPts wr (G k).a (H k).n (H k).X (H k).Y) := hPG
      have KH : Hid (IsPts wr (H k).a (H k).n (H k).X (H k).Y) := hPH
      have HLT : Hid (k < n) := hlt
      have HB : Hid (Below w.heap.size w wr) := hB
      clear hB hFG hFH hGk hHk hPG hPH s1 s2 s3 s4 s5 s6 s7 s8 s9
      have hi : (k : Int) < (n : Int) := by omega
      have hi0 : (0 : Int) ≤ (k : Int) := by omega
      go_wp2
      go_region_held3 (fun W' => Below wr.heap.size wr W') ((repeat (first | exact Below.refl _ _ | assumption | refine Below.drew ?_ | refine bl_alloc ?_ _ | refine bl_then ?_ (by assumption) | refine Below.setCell ?_ (by first | omega | (simp; done) | (simp; omega)) _ | refine bl_store ?_ ?_ _ _)))
        (first
          | (go_at_call 89; refine (eqFeatureI_any _ _ _ _ _ _ (H k).n _ _ (H k).X (H k).Y _ _ _ (KG.out.below (by assumption)) (KH.out.below (by assumption)) hnk).mono ?_; rintro e w' ⟨rfl, hb⟩)
          | fail)
      go_wp2
      go_roundw
      case rel => exact ⟨k + 1, by have := HLT.out; omega, by go_num, bl_then HB.out (by assumption)⟩
      case measure => have := HLT.out; simp [intOf]; omega
    · go_wp2
      go_ret
      exact ⟨rfl, hB⟩
end Go.Proofs.YtbllgpofpokcnaaGreat
