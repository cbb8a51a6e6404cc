/- Several texts in one. -/
import Derived.Test.YtcpdcmjldofbkaaGreatVViewerFault18
import Derived.Test.YtcpdcmjldofbkaaGreatRows
import Derived.Test.YtcpdcmjldofbkaaGreatVViewerFault1
import Derived.WalkKit
import Derived.WalkSpells
import Derived.WalkLawsBesides
import Derived.Outline
import Derived.Test.YtcpdcmjldofbkaaGreatVViewerFault4

/- Rows of features: their cells; two lists of the same features are compared. -/

namespace Go.Proofs.YtcpdcmjldofbkaaGreat
open Go.RowKit
set_option linter.unusedSimpArgs false
set_option linter.unusedVariables false
set_option maxRecDepth 100000

/-- The cells of a feature. -/
def fcell (f : Feat) : List Value := [.int .i64 f.id, .int .i64 f.la, .int .i64 f.ki, .int .i64 f.wi, .slice f.a f.n f.cap, .string f.lab, .int .i64 f.pr]
theorem fcell_len (f : Feat) : (fcell f).length = 7 := rfl
theorem fcell_one (f : Feat) : ∀ v ∈ fcell f, v.oneCell' = true := fun v hv => by
  simp [fcell] at hv
  rcases hv with rfl | rfl | rfl | rfl | rfl | rfl | rfl <;> rfl
def cellsF (H : Nat → Feat) (l : List Nat) : List Value := l.flatMap fun j => fcell (H j)
theorem cellsF_nil (H : Nat → Feat) : cellsF H [] = [] := rfl
theorem cellsF_cons (H : Nat → Feat) (j : Nat) (l : List Nat) : cellsF H (j :: l) = fcell (H j) ++ cellsF H l := by simp [cellsF]
theorem cellsF_app (H : Nat → Feat) (l m : List Nat) : cellsF H (l ++ m) = cellsF H l ++ cellsF H m := by simp [cellsF]
theorem cellsF_one (H : Nat → Feat) (j : Nat) : cellsF H [j] = fcell (H j) := by simp [cellsF]
theorem cellsF_len (H : Nat → Feat) : ∀ l : List Nat, (cellsF H l).length = l.length * 7
  | [] => rfl
  | j :: l => by rw [cellsF_cons, List.length_append, cellsF_len H l, fcell_len, List.length_cons]; omega
theorem cellsF_cell (H : Nat → Feat) (l : List Nat) : ∀ v ∈ cellsF H l, v.oneCell' = true := fun v hv => by
  unfold cellsF at hv
  rw [List.mem_flatMap] at hv
  obtain ⟨j, _, hj⟩ := hv
  exact fcell_one _ v hj
theorem cellsF_congr {H H' : Nat → Feat} : ∀ l : List Nat, (∀ j ∈ l, H j = H' j) → cellsF H l = cellsF H' l
  | [], _ => rfl
  | j :: l, h => by rw [cellsF_cons, cellsF_cons, h j (List.mem_cons_self ..), cellsF_congr l (fun k hk => h k (List.mem_cons_of_mem _ hk))]
theorem cellsF_at (H : Nat → Feat) : ∀ (l : List Nat) (i k : Nat), i < l.length → k < 7 → (cellsF H l)[i * 7 + k]? = (fcell (H (l.getD i 0)))[k]?
  | [], i, k, h, _ => absurd h (by simp)
  | j :: l, 0, k, h, hk => by
    rw [cellsF_cons, Nat.zero_mul, Nat.zero_add, List.getElem?_append_left (by rw [fcell_len]; exact hk)]
    rfl
  | j :: l, i + 1, k, h, hk => by
    rw [cellsF_cons, List.getElem?_append_right (by rw [fcell_len]; omega), fcell_len]
    have e : (i + 1) * 7 + k - 7 = i * 7 + k := by omega
    rw [e, cellsF_at H l i k (by simpa using h) hk]
    rfl
/-- v is a row of its own with the features of l. -/
def FRow (base : Nat) (w : World) (v : Value) (H : Nat → Feat) (l : List Nat) : Prop := w.ownsRow base 166 7 v l.length (cellsF H l)
theorem FRow.at {base : Nat} {w : World} {v : Value} {H : Nat → Feat} {l : List Nat} (h : FRow base w v H l) :
    (v = .slice none 0 0 ∧ l = []) ∨ ∃ g cap, v = .slice (some ⟨g, 0, none⟩) l.length cap ∧ base ≤ g ∧ g < w.heap.size ∧ l.length ≤ cap ∧ There w g (l.length * 7) ∧
      ∀ i, i < l.length → FeatAt w g (i * 7) (H (l.getD i 0)).id (H (l.getD i 0)).la (H (l.getD i 0)).ki (H (l.getD i 0)).wi (.slice (H (l.getD i 0)).a (H (l.getD i 0)).n (H (l.getD i 0)).cap) (H (l.getD i 0)).lab (H (l.getD i 0)).pr := by
  obtain ⟨h1, h2 | ⟨g, cp, cur, hv, hg, hh, hkc, hcm, hcs, htk⟩⟩ := h
  · exact .inl ⟨h2.1, by have := h2.2; cases l with
      | nil => rfl
      | cons => simp at this⟩
  · right
    have hgl : g < w.heap.size := lt_of_heap hh
    have hrow : w.ownsRow base 166 7 (.slice (some ⟨g, 0, none⟩) l.length cp) l.length (cellsF H l) := ⟨h1, .inr ⟨g, cp, cur, rfl, hg, hh, hkc, hcm, hcs, htk⟩⟩
    refine ⟨g, cp, hv, hg, hgl, hkc, fun o ho => ⟨?_, hrow.frozenAt o⟩, fun i hi => ?_⟩
    · rw [hrow.cellAt o ho]
      have hlt : o < (cellsF H l).length := by rw [cellsF_len]; exact ho
      exact ⟨(cellsF H l)[o], List.getElem?_eq_getElem hlt⟩
    · have c := fun k (hk : k < 7) => (hrow.cellAt (i * 7 + k) (by omega)).trans (cellsF_at H l i k hi hk)
      exact ⟨c 0 (by omega), c 1 (by omega), c 2 (by omega), c 3 (by omega), c 4 (by omega), c 5 (by omega), c 6 (by omega)⟩
theorem FRow.below {base : Nat} {w w' : World} {v : Value} {H : Nat → Feat} {l : List Nat} (h : FRow base w v H l) (hb : Below w.heap.size w w') : FRow base w' v H l := by
  obtain ⟨h1, h2 | ⟨g, cp, cur, hv, hg, hh, hr⟩⟩ := h
  · exact ⟨h1, .inl h2⟩
  · exact ⟨h1, .inr ⟨g, cp, cur, hv, hg, (hb.block g (lt_of_heap hh)).trans hh, hr⟩⟩
/-- The features of a row, with their points. -/
theorem FRow.is {base : Nat} {w : World} {v : Value} {H : Nat → Feat} {l : List Nat} (h : FRow base w v H l) (hp : ∀ j ∈ l, IsPts w (H j).a (H j).n (H j).X (H j).Y) :
    ∃ a cap, v = .slice a l.length cap ∧ l.length ≤ cap ∧ IsFs w a l.length (fun i => H (l.getD i 0)) := by
  rcases h.at with ⟨rfl, rfl⟩ | ⟨g, cap, hv, hg, hgl, hc, hT, hF⟩
  · exact ⟨none, 0, rfl, Nat.le_refl _, .inl rfl⟩
  · refine ⟨_, cap, hv, hc, .inr ⟨g, 0, rfl, hgl, fun i hi => ⟨?_, ?_⟩⟩⟩
    · rw [Nat.zero_add]; exact hF i hi
    · refine hp _ ?_
      rw [List.getD_eq_getElem?_getD, List.getElem?_eq_getElem hi]
      exact List.getElem_mem hi
theorem Feat.same_symm {f g : Feat} (h : f.same g) : g.same f := by
  obtain ⟨h1, h2, h3, h4, h5, h6, h7, h8, h9⟩ := h
  exact ⟨h1.symm, h2.symm, h3.symm, h4.symm, h5.symm, h6.symm, h7.symm, h8.symm, h9.symm⟩
theorem Feat.same_trans {f g h : Feat} (a : f.same g) (b : g.same h) : f.same h := by
  obtain ⟨h1, h2, h3, h4, h5, h6, h7, h8, h9⟩ := a
  obtain ⟨k1, k2, k3, k4, k5, k6, k7, k8, k9⟩ := b
  exact ⟨h1.trans k1, h2.trans k2, h3.trans k3, h4.trans k4, h5.trans k5, h6.trans k6, h7.trans k7, h8.trans k8, h9.trans k9⟩

theorem featsC_ok {n : Nat} {G : Nat → Feat} (h : featsC n G = 0) : n ≤ 12 ∧ apartK (fun i => (G i).id) n ∧ ∀ i, i < n → featC (G i).id (G i).la (G i).ki (G i).wi (G i).n (G i).X (G i).Y (G i).lab (G i).pr = 0 := by
  unfold featsC at h
  by_cases h12 : 12 < n
  · rw [if_pos h12] at h; cases h
  · rw [if_neg h12] at h
    have hz := scan_zero _ _ _ h
    have hA : ∀ i, i < n → featC (G i).id (G i).la (G i).ki (G i).wi (G i).n (G i).X (G i).Y (G i).lab (G i).pr = 0 ∧ ¬ ∃ j, j < i ∧ (G j).id = (G i).id := fun i hi => by
      have := hz i (Nat.zero_le _) (by omega)
      unfold codeAt at this
      by_cases hf : featC (G i).id (G i).la (G i).ki (G i).wi (G i).n (G i).X (G i).Y (G i).lab (G i).pr ≠ 0
      · rw [if_pos hf] at this; exact absurd this hf
      · rw [if_neg hf] at this
        by_cases hj : ∃ j, j < i ∧ (G j).id = (G i).id
        · rw [if_pos hj] at this; cases this
        · exact ⟨by simpa using hf, hj⟩
    refine ⟨by omega, fun i j hi hj e => ?_, fun i hi => (hA i hi).1⟩
    rcases Nat.lt_trichotomy i j with h | h | h
    · exact absurd ⟨i, h, e⟩ (hA j hj).2
    · exact h
    · exact absurd ⟨j, h, e.symm⟩ (hA i hi).2

set_option maxHeartbeats 4000000 in
theorem eqFs_any (a a' : Option Addr) (n cap cap' : Nat) (G H : Nat → Feat) (w : World) (hg : IsFs w a n G) (hh : IsFs w a' n H) (hs : ∀ i, i < n → (G i).same (H i)) (hn : n ≤ 1048576) (hk : ∀ i, i < n → (H i).n ≤ 1048576) :
    Calls Tryz.prog 126 #[.slice a n cap, .slice a' n cap'] w fun e w' => e = .returned (.bool true) ∧ Below w.heap.size w w' := by
  have HG : Hid (IsFs w a n G) := hg
  have HH : Hid (IsFs w a' n H) := hh
  have HS : Hid (∀ i, i < n → (G i).same (H i)) := hs
  have HK : Hid (∀ i, i < n → (H i).n ≤ 1048576) := hk
  clear hg hh hs hk
  go_enter Tryz.func126, Tryz.ntmps126
  go_wp2
  go_loopw [5] (fun i wr => ∃ k : Nat, k ≤ n ∧ i = .int .i64 k ∧ Below w.heap.size w wr) (fun i _ => n - (intOf i).toNat)
  case atStart => exact ⟨0, by omega, rfl, Below.refl _ _⟩
  case round =>
    obtain ⟨k, hk, rfl, hB⟩ := hrel
    by_cases hlt : k < n
    · rcases HG.out with h0 | ⟨b, off, rfl, hbl, hFG⟩
      · omega
      rcases HH.out with h0 | ⟨d, off', rfl, hdl, hFH⟩
      · omega
      obtain ⟨s1, s2, s3, s4, s5, s6, s7, s8, s9⟩ := HS.out k hlt
      have hnk := HK.out k hlt
      have hGk := hFG.below hB hbl
      have hHk := hFH.below hB hdl
      have hblr : b < wr.heap.size := Nat.lt_of_lt_of_le hbl hB.size
      have hdlr : d < wr.heap.size := Nat.lt_of_lt_of_le hdl hB.size
      have c0 : ∀ W', Below wr.heap.size wr W' → W'.cell? ⟨b, off + k * 7, none⟩ = some (.int .i64 (G k).id) := fun W' h => (hGk.below h hblr k hlt).1.1
      have c1 : ∀ W', Below wr.heap.size wr W' → W'.cell? ⟨b, off + k * 7 + 1, none⟩ = some (.int .i64 (G k).la) := fun W' h => (hGk.below h hblr k hlt).1.2.1
      have c2 : ∀ W', Below wr.heap.size wr W' → W'.cell? ⟨b, off + k * 7 + 2, none⟩ = some (.int .i64 (G k).ki) := fun W' h => (hGk.below h hblr k hlt).1.2.2.1
      have c3 : ∀ W', Below wr.heap.size wr W' → W'.cell? ⟨b, off + k * 7 + 3, none⟩ = some (.int .i64 (G k).wi) := fun W' h => (hGk.below h hblr k hlt).1.2.2.2.1
      have c4 : ∀ W', Below wr.heap.size wr W' → W'.cell? ⟨b, off + k * 7 + 4, none⟩ = some (.slice (G k).a (G k).n (G k).cap) := fun W' h => (hGk.below h hblr k hlt).1.2.2.2.2.1
      have c5 : ∀ W', Below wr.heap.size wr W' → W'.cell? ⟨b, off + k * 7 + 5, none⟩ = some (.string (G k).lab) := fun W' h => (hGk.below h hblr k hlt).1.2.2.2.2.2.1
      have c6 : ∀ W', Below wr.heap.size wr W' → W'.cell? ⟨b, off + k * 7 + 6, none⟩ = some (.int .i64 (G k).pr) := fun W' h => (hGk.below h hblr k hlt).1.2.2.2.2.2.2
      have d0 : ∀ W', Below wr.heap.size wr W' → W'.cell? ⟨d, off' + k * 7, none⟩ = some (.int .i64 (H k).id) := fun W' h => (hHk.below h hdlr k hlt).1.1
      have d1 : ∀ W', Below wr.heap.size wr W' → W'.cell? ⟨d, off' + k * 7 + 1, none⟩ = some (.int .i64 (H k).la) := fun W' h => (hHk.below h hdlr k hlt).1.2.1
      have d2 : ∀ W', Below wr.heap.size wr W' → W'.cell? ⟨d, off' + k * 7 + 2, none⟩ = some (.int .i64 (H k).ki) := fun W' h => (hHk.below h hdlr k hlt).1.2.2.1
      have d3 : ∀ W', Below wr.heap.size wr W' → W'.cell? ⟨d, off' + k * 7 + 3, none⟩ = some (.int .i64 (H k).wi) := fun W' h => (hHk.below h hdlr k hlt).1.2.2.2.1
      have d4 : ∀ W', Below wr.heap.size wr W' → W'.cell? ⟨d, off' + k * 7 + 4, none⟩ = some (.slice (H k).a (H k).n (H k).cap) := fun W' h => (hHk.below h hdlr k hlt).1.2.2.2.2.1
      have d5 : ∀ W', Below wr.heap.size wr W' → W'.cell? ⟨d, off' + k * 7 + 5, none⟩ = some (.string (H k).lab) := fun W' h => (hHk.below h hdlr k hlt).1.2.2.2.2.2.1
      have d6 : ∀ W', Below wr.heap.size wr W' → W'.cell? ⟨d, off' + k * 7 + 6, none⟩ = some (.int .i64 (H k).pr) := fun W' h => (hHk.below h hdlr k hlt).1.2.2.2.2.2.2
      have hPG := (hGk k hlt).2
      have hPH := (hHk k hlt).2
      rw [s1] at c0; rw [s2] at c1; rw [s3] at c2; rw [s4] at c3; rw [s5] at c4; rw [s8] at c5; rw [s9] at c6
      rw [s5, s6, s7] at hPG
      have KG : Hid (IsPts wr (G k).a (H k).n (H k).X (H k).Y) := hPG
      have KH : Hid (IsPts wr (H k).a (H k).n (H k).X (H k).Y) := hPH
      have HLT : Hid (k < n) := hlt
      have HB : Hid (Below w.heap.size w wr) := hB
      clear hB hFG hFH hGk hHk hPG hPH s1 s2 s3 s4 s5 s6 s7 s8 s9
      have hi : (k : Int) < (n : Int) := by omega
      have hi0 : (0 : Int) ≤ (k : Int) := by omega
      go_wp2
      go_region_held3 (fun W' => Below wr.heap.size wr W') ((repeat (first | exact Below.refl _ _ | assumption | refine Below.drew ?_ | refine bl_alloc ?_ _ | refine bl_then ?_ (by assumption) | refine Below.setCell ?_ (by first | omega | (simp; done) | (simp; omega)) _ | refine bl_store ?_ ?_ _ _)))
        (first
          | (go_at_call 151; refine (eqFeatureI_any _ _ _ _ _ _ (H k).n _ _ (H k).X (H k).Y _ _ _ (KG.out.below (by assumption)) (KH.out.below (by assumption)) hnk).mono ?_; rintro e w' ⟨rfl, hb⟩)
          | fail)
      go_wp2
      go_roundw
      case rel => exact ⟨k + 1, by have := HLT.out; omega, by go_num, bl_then HB.out (by assumption)⟩
      case measure => have := HLT.out; simp [intOf]; omega
    · go_wp2
      go_ret
      exact ⟨rfl, hB⟩
end Go.Proofs.YtcpdcmjldofbkaaGreat
/- Numbers are compared; only new blocks are laid. -/

namespace Go.Proofs.YtcpdcmjldofbkaaGreat
open Go.RowKit
set_option linter.unusedSimpArgs false
set_option linter.unusedVariables false
set_option maxRecDepth 100000

def cmpI (x y : Int) : Int := if x < y then -1 else if y < x then 1 else 0
theorem cmpCompare_any (x y : Int) (w : World) : Calls Tryz.prog 150 #[.int .i64 x, .int .i64 y] w fun e w' => e = .returned (.int .i64 (cmpI x y)) ∧ w' = w := by
  unfold cmpI
  by_cases h1 : x < y
  · rw [if_pos h1]
    go_enter Tryz.func150, Tryz.ntmps150
    go_wp2
    go_ret
    exact ⟨rfl, rfl⟩
  · rw [if_neg h1]
    by_cases h2 : y < x
    · rw [if_pos h2]
      go_enter Tryz.func150, Tryz.ntmps150
      go_wp2
      go_ret
      exact ⟨rfl, rfl⟩
    · rw [if_neg h2]
      go_enter Tryz.func150, Tryz.ntmps150
      go_wp2
      go_ret
      exact ⟨rfl, rfl⟩
/-- Only new blocks, and draws. -/
def Gro (V W' : World) : Prop := Below V.heap.size V W' ∧ V.drawn ≤ W'.drawn
theorem Gro.refl (V : World) : Gro V V := ⟨Below.refl _ _, Nat.le_refl _⟩
theorem Gro.trans {a b c : World} (h : Gro a b) (k : Gro b c) : Gro a c := ⟨bl_then h.1 k.1, Nat.le_trans h.2 k.2⟩
theorem Gro.alloc {a b : World} (h : Gro a b) (o : Obj) : Gro a (b.alloc o) := ⟨bl_alloc h.1 o, h.2⟩
theorem Gro.drew {a b : World} (h : Gro a b) : Gro a b.drew := ⟨h.1.drew, Nat.le_trans h.2 (Nat.le_succ _)⟩
end Go.Proofs.YtcpdcmjldofbkaaGreat
/- Features are compared: by layer, of the same by id; only new blocks are laid. -/

namespace Go.Proofs.YtcpdcmjldofbkaaGreat
open Go.RowKit
set_option linter.unusedSimpArgs false
set_option linter.unusedVariables false
set_option maxRecDepth 100000

def orI (x y : Int) : Int := if x = 0 then y else x
set_option maxHeartbeats 2000000 in
theorem cmpOr_any (b c : Nat) (x y : Int) (w : World) (h0 : w.cell? ⟨b, 0, none⟩ = some (.int .i64 x)) (h1 : w.cell? ⟨b, 1, none⟩ = some (.int .i64 y)) : Calls Tryz.prog 163 #[.slice (some ⟨b, 0, none⟩) 2 c] w fun e w' => e = .returned (.int .i64 (orI x y)) ∧ w' = w := by
  unfold orI
  by_cases hx : x = 0
  · subst hx
    by_cases hy : y = 0
    · subst hy
      go_enter Tryz.func163, Tryz.ntmps163
      go_wp2
      refine wp_loop_rounds 3 ?_
      rw [rounds_succ]
      go_wp2
      rw [rounds_succ]
      go_wp2
      rw [rounds_succ]
      go_wp2
      go_ret
      exact ⟨by simp, rfl⟩
    · have hy' : (y == 0) = false := by simpa using hy
      go_enter Tryz.func163, Tryz.ntmps163
      go_wp2
      refine wp_loop_rounds 2 ?_
      rw [rounds_succ]
      go_wp2
      rw [rounds_succ]
      go_wp2
      go_ret
      exact ⟨by simp, rfl⟩
  · have hx' : (x == 0) = false := by simpa using hx
    rw [if_neg hx]
    go_enter Tryz.func163, Tryz.ntmps163
    go_wp2
    refine wp_loop_rounds 1 ?_
    rw [rounds_succ]
    go_wp2
    go_ret
    exact ⟨rfl, rfl⟩
/-- What comparing two features tells. -/
def cmpF (f g : Feat) : Int := orI (cmpI f.la g.la) (cmpI f.id g.id)
set_option maxHeartbeats 4000000 in
theorem compareFeatures_gro (f g : Feat) (w : World) : Calls Tryz.prog 139 #[.agg (fcell f).toArray, .agg (fcell g).toArray] w fun e w' => e = .returned (.int .i64 (cmpF f g)) ∧ Gro w w' := by
  unfold cmpF
  generalize hA : cmpI f.la g.la = A
  generalize hB : cmpI f.id g.id = B
  have H1 : Hid (∀ W, Calls Tryz.prog 150 #[.int .i64 f.la, .int .i64 g.la] W fun e w' => e = .returned (.int .i64 A) ∧ w' = W) := fun W => by subst hA; exact cmpCompare_any _ _ _
  have H2 : Hid (∀ W, Calls Tryz.prog 150 #[.int .i64 f.id, .int .i64 g.id] W fun e w' => e = .returned (.int .i64 B) ∧ w' = W) := fun W => by subst hB; exact cmpCompare_any _ _ _
  clear hA hB
  unfold fcell
  go_enter Tryz.func139, Tryz.ntmps139
  go_wp2_with fail
  generalize hV : ((w.alloc _).alloc _ : World) = V
  have hB0 : Gro w V := by subst hV; exact ((Gro.refl _).alloc _).alloc _
  have c0 : ∀ W', Gro V W' → W'.cell? ⟨w.heap.size, 0, none⟩ = some (.int .i64 f.id) := fun W' h => by
    rw [h.1.cell (by subst hV; simp <;> omega)]; subst hV; simp [go_sem]
  have c1 : ∀ W', Gro V W' → W'.cell? ⟨w.heap.size, 1, none⟩ = some (.int .i64 f.la) := fun W' h => by
    rw [h.1.cell (by subst hV; simp <;> omega)]; subst hV; simp [go_sem]
  have d0 : ∀ W', Gro V W' → W'.cell? ⟨w.heap.size + 1, 0, none⟩ = some (.int .i64 g.id) := fun W' h => by
    rw [h.1.cell (by subst hV; simp <;> omega)]; subst hV; simp [go_sem]
  have d1 : ∀ W', Gro V W' → W'.cell? ⟨w.heap.size + 1, 1, none⟩ = some (.int .i64 g.la) := fun W' h => by
    rw [h.1.cell (by subst hV; simp <;> omega)]; subst hV; simp [go_sem]
  clear hV
  refine wp_region_noPanic ?_
  refine wp_region_held_drew (S := fun W' => Gro V W') (by kernel_rfl) ((Gro.refl V).drew) (fun hHeld => ?_)
  have hBd : Gro V V.drew := hHeld
  refine takeD (i := 0) (d := some 5) (v := ?vt1) rfl rfl (by kernel_rfl) (by kernel_rfl) (by kernel_rfl) (fun _ _ _ h => h) (Or.inl ⟨by rfl, ?hyt1⟩) (by assumption) ?_
  case hyt1 => (intro w hSw; (try dsimp only at hSw); go_simp <;> with_reducible rfl)
  try simp only [Act.put, List.setIfInBounds_toArray, List.set_cons_zero, List.set_cons_succ]
  refine takeD (i := 1) (d := some 6) (v := ?vt2) rfl rfl (by kernel_rfl) (by kernel_rfl) (by kernel_rfl) (fun _ _ _ h => h) (Or.inl ⟨by rfl, ?hyt2⟩) (by assumption) ?_
  case hyt2 => (intro w hSw; (try dsimp only at hSw); go_simp <;> with_reducible rfl)
  try simp only [Act.put, List.setIfInBounds_toArray, List.set_cons_zero, List.set_cons_succ]
  refine takeD (i := 2) (d := some 7) (v := ?vt3) rfl rfl (by kernel_rfl) (by kernel_rfl) (by kernel_rfl) (fun _ _ _ h => h) (Or.inl ⟨by rfl, ?hyt3⟩) (by assumption) ?_
  case hyt3 => (intro w hSw; (try dsimp only at hSw); go_simp <;> with_reducible rfl)
  try simp only [Act.put, List.setIfInBounds_toArray, List.set_cons_zero, List.set_cons_succ]
  refine takeD (i := 3) (d := some 8) (v := ?vt4) rfl rfl (by kernel_rfl) (by kernel_rfl) (by kernel_rfl) (fun _ _ _ h => h) (Or.inl ⟨by rfl, ?hyt4⟩) (by assumption) ?_
  case hyt4 => (intro w hSw; (try dsimp only at hSw); go_simp <;> with_reducible rfl)
  try simp only [Act.put, List.setIfInBounds_toArray, List.set_cons_zero, List.set_cons_succ]
  refine takeD (i := 5) (d := some 10) (v := ?vt5) rfl rfl (by kernel_rfl) (by kernel_rfl) (by kernel_rfl) (fun _ _ _ h => h) (Or.inl ⟨by rfl, ?hyt5⟩) (by assumption) ?_
  case hyt5 => (intro w hSw; (try dsimp only at hSw); go_simp <;> with_reducible rfl)
  try simp only [Act.put, List.setIfInBounds_toArray, List.set_cons_zero, List.set_cons_succ]
  refine takeD (i := 6) (d := some 11) (v := ?vt6) rfl rfl (by kernel_rfl) (by kernel_rfl) (by kernel_rfl) (fun _ _ _ h => h) (Or.inl ⟨by rfl, ?hyt6⟩) (by assumption) ?_
  case hyt6 => (intro w hSw; (try dsimp only at hSw); go_simp <;> with_reducible rfl)
  try simp only [Act.put, List.setIfInBounds_toArray, List.set_cons_zero, List.set_cons_succ]
  refine takeD (i := 7) (d := some 12) (v := ?vt7) rfl rfl (by kernel_rfl) (by kernel_rfl) (by kernel_rfl) (fun _ _ _ h => h) (Or.inl ⟨by rfl, ?hyt7⟩) (by assumption) ?_
  case hyt7 => (intro w hSw; (try dsimp only at hSw); go_simp <;> with_reducible rfl)
  try simp only [Act.put, List.setIfInBounds_toArray, List.set_cons_zero, List.set_cons_succ]
  refine takeD (i := 8) (d := some 13) (v := ?vt8) rfl rfl (by kernel_rfl) (by kernel_rfl) (by kernel_rfl) (fun _ _ _ h => h) (Or.inl ⟨by rfl, ?hyt8⟩) (by assumption) ?_
  case hyt8 => (intro w hSw; (try dsimp only at hSw); go_simp <;> with_reducible rfl)
  try simp only [Act.put, List.setIfInBounds_toArray, List.set_cons_zero, List.set_cons_succ]
  refine wpAnyH_ready (rs := [4]) (by kernel_rfl) (by simp) ?_
  refine (AllReadyH.cons rfl (fun K hK => ?_) AllReadyH.nil)
  go_simp
  refine (H1.out _).mono ?_
  rintro e w4 ⟨rfl, rfl⟩
  go_wp2_with fail
  refine hK.out _ _ hBd (fun hHeld => ?_)
  clear hK K
  try simp only [Act.put, List.setIfInBounds_toArray, List.set_cons_zero, List.set_cons_succ]
  refine wpAnyH_ready (rs := [9]) (by kernel_rfl) (by simp) ?_
  refine (AllReadyH.cons rfl (fun K hK => ?_) AllReadyH.nil)
  go_simp
  refine (H2.out _).mono ?_
  rintro e w9 ⟨rfl, rfl⟩
  go_wp2_with fail
  refine hK.out _ _ hBd (fun hHeld => ?_)
  clear hK K
  try simp only [Act.put, List.setIfInBounds_toArray, List.set_cons_zero, List.set_cons_succ]
  refine wpAnyH_ready (rs := [10]) (by kernel_rfl) (by simp) ?_
  refine (AllReadyH.cons rfl (fun K hK => ?_) AllReadyH.nil)
  go_simp
  generalize hw9 : (World.alloc _ _ : World) = w9
  have hb9 : Gro V w9 := by subst hw9; exact (Gro.refl _).alloc _
  have g0 : w9.cell? ⟨V.heap.size, 0, none⟩ = some (.int .i64 A) := by subst hw9; simp [go_sem]
  have g1 : w9.cell? ⟨V.heap.size, 1, none⟩ = some (.int .i64 B) := by subst hw9; simp [go_sem]
  have hB9 : Gro V w9.drew := hb9.drew
  replace g0 : w9.drew.cell? ⟨V.heap.size, 0, none⟩ = some (.int .i64 A) := g0
  replace g1 : w9.drew.cell? ⟨V.heap.size, 1, none⟩ = some (.int .i64 B) := g1
  clear hw9
  refine hK.out _ _ hB9 (fun hHeld => ?_)
  clear hK K
  try simp only [Act.put, List.setIfInBounds_toArray, List.set_cons_zero, List.set_cons_succ]
  refine wpAnyH_ready (rs := [11]) (by kernel_rfl) (by simp) ?_
  refine (AllReadyH.cons rfl (fun K hK => ?_) AllReadyH.nil)
  go_simp
  refine (cmpOr_any _ _ A B _ g0 g1).mono ?_
  rintro e w11 ⟨rfl, rfl⟩
  go_wp2_with fail
  refine hK.out _ _ hB9 (fun hHeld => ?_)
  clear hK K
  try simp only [Act.put, List.setIfInBounds_toArray, List.set_cons_zero, List.set_cons_succ]
  refine takeD (i := 12) (d := some 4) (v := ?vt9) rfl rfl (by kernel_rfl) (by kernel_rfl) (by kernel_rfl) (fun _ _ _ h => h) (Or.inl ⟨by rfl, ?hyt9⟩) (by assumption) ?_
  case hyt9 => (intro w hSw; (try dsimp only at hSw); go_simp <;> with_reducible rfl)
  try simp only [Act.put, List.setIfInBounds_toArray, List.set_cons_zero, List.set_cons_succ]
  refine wpAnyH_done (by kernel_rfl) ?_ _
  refine NoPanic.normal ?_
  go_wp2_with fail
  go_ret
  exact ⟨rfl, hB0.trans hB9⟩
end Go.Proofs.YtcpdcmjldofbkaaGreat
/- The model's order of two features. -/

namespace Go.Proofs.YtcpdcmjldofbkaaGreat
open Go.RowKit
set_option linter.unusedSimpArgs false
set_option linter.unusedVariables false
set_option maxRecDepth 100000

theorem addK (b o i : Nat) : (⟨b, o, none⟩ : Addr).add i = ⟨b, o + i, none⟩ := by unfold Addr.add; split <;> simp_all
def ltF (f g : Feat) : Bool := decide (f.la < g.la) || (decide (f.la = g.la) && decide (f.id < g.id))
set_option maxHeartbeats 4000000 in
theorem l2Ahead_any (p o p' o' : Nat) (f g : Feat) (w : World) (h0 : w.cell? ⟨p, o, none⟩ = some (.int .i64 f.id)) (h1 : w.cell? ⟨p, o + 1, none⟩ = some (.int .i64 f.la)) (k0 : w.cell? ⟨p', o', none⟩ = some (.int .i64 g.id)) (k1 : w.cell? ⟨p', o' + 1, none⟩ = some (.int .i64 g.la)) :
    Calls Tryz.prog 111 #[.pointer (some ⟨p, o, none⟩), .pointer (some ⟨p', o', none⟩)] w fun e w' => e = .returned (.bool (ltF f g)) ∧ Below w.heap.size w w' := by
  by_cases hx : f.la < g.la
  · have HU : Hid (ltF f g = true) := by show _ = _; simp [ltF, hx]
    go_enter Tryz.func111, Tryz.ntmps111
    go_wp2_with fail
    go_region
    go_wp2
    go_ret
    exact ⟨ret_bool HU.out.symm, by (repeat (first | exact Below.refl _ _ | assumption | refine Below.drew ?_ | refine bl_alloc ?_ _ | refine bl_then ?_ (by assumption) | refine Below.setCell ?_ (by first | omega | (simp; done) | (simp; omega)) _ | refine bl_store ?_ ?_ _ _))⟩
  · have hx' : decide (f.la < g.la) = false := by simpa using hx
    by_cases hy : f.la = g.la
    · have hy' : (f.la == g.la) = true := by simpa using hy
      by_cases hz : f.id < g.id
      · have HU : Hid (ltF f g = true) := by show _ = _; simp [ltF, hy, hz]
        clear hy hx
        go_enter Tryz.func111, Tryz.ntmps111
        go_wp2_with fail
        go_region
        go_wp2
        go_ret
        exact ⟨ret_bool HU.out.symm, by (repeat (first | exact Below.refl _ _ | assumption | refine Below.drew ?_ | refine bl_alloc ?_ _ | refine bl_then ?_ (by assumption) | refine Below.setCell ?_ (by first | omega | (simp; done) | (simp; omega)) _ | refine bl_store ?_ ?_ _ _))⟩
      · have hz' : decide (f.id < g.id) = false := by simpa using hz
        have HU : Hid (ltF f g = false) := by show _ = _; simp [ltF, hx]; omega
        clear hy hx hz
        go_enter Tryz.func111, Tryz.ntmps111
        go_wp2_with fail
        go_region
        go_wp2
        go_ret
        exact ⟨ret_bool HU.out.symm, by (repeat (first | exact Below.refl _ _ | assumption | refine Below.drew ?_ | refine bl_alloc ?_ _ | refine bl_then ?_ (by assumption) | refine Below.setCell ?_ (by first | omega | (simp; done) | (simp; omega)) _ | refine bl_store ?_ ?_ _ _))⟩
    · have hy' : (f.la == g.la) = false := by simpa using hy
      have HU : Hid (ltF f g = false) := by show _ = _; simp [ltF, hx, hy]
      clear hy hx
      go_enter Tryz.func111, Tryz.ntmps111
      go_wp2_with fail
      go_region
      go_wp2
      go_ret
      exact ⟨ret_bool HU.out.symm, by (repeat (first | exact Below.refl _ _ | assumption | refine Below.drew ?_ | refine bl_alloc ?_ _ | refine bl_then ?_ (by assumption) | refine Below.setCell ?_ (by first | omega | (simp; done) | (simp; omega)) _ | refine bl_store ?_ ?_ _ _))⟩
end Go.Proofs.YtcpdcmjldofbkaaGreat
