/- Several texts in one. -/
import Derived.Test.YtfknbijpimpbfaaVOnlies20

/- Requests that are due are sent again: the program. -/

namespace Go.Proofs.Ytfknbijpimpbfaa
open Go.RowKit
set_option linter.unusedSimpArgs false
set_option linter.unusedVariables false
set_option maxRecDepth 100000

/-- A request at a time. -/
def retE (now : Int) (e : Req) : Req := if e.du ≤ now then ⟨e.z, e.x, e.y, now + 3, min (e.tr + 1) 99⟩ else e
/-- Those that are sent again. -/
def sentL (now : Int) (E : Nat → Req) (k : Nat) : List Req := keptL (fun j => decide ((E j).du ≤ now)) E k
/-- The requests behind it. -/
def retL (now : Int) (E : Nat → Req) (k : Nat) : List Req := listW k (fun j => retE now (E j))
theorem retL_succ (now : Int) (E : Nat → Req) (k : Nat) : retL now E (k + 1) = retL now E k ++ [retE now (E k)] := listW_succ _ _
theorem sentL_yes {now : Int} {E : Nat → Req} {k : Nat} (h : (E k).du ≤ now) : sentL now E (k + 1) = sentL now E k ++ [E k] := keptL_yes (by simpa using h)
theorem sentL_no {now : Int} {E : Nat → Req} {k : Nat} (h : ¬ (E k).du ≤ now) : sentL now E (k + 1) = sentL now E k := keptL_no (by simpa using h)
theorem ret_differs (now : Int) (e : Req) : (!eqR (retE now e) e) = decide (e.du ≤ now) := by
  by_cases h : e.du ≤ now
  · have : ¬ now + 3 = e.du := by omega
    simp [retE, h, eqR, isR, this]
  · simp [retE, h, eqR_self]
/-- What RetryAll tells. -/
def retC (n : Nat) (E : Nat → Req) (now : Int) : Int := or2 (reqsC n E) (timC now)
theorem retC_zero {n : Nat} {E : Nat → Req} {now : Int} (h : retC n E now = 0) : reqsC n E = 0 ∧ timC now = 0 := by
  unfold retC or2 at h
  by_cases h1 : reqsC n E = 0
  · rw [if_pos h1] at h
    exact ⟨h1, h⟩
  · rw [if_neg h1] at h
    exact absurd h h1
theorem reqs_tries {n : Nat} {E : Nat → Req} (h : reqsC n E = 0) {j : Nat} (hj : j < n) : (0 ≤ (E j).tr ∧ (E j).tr ≤ 99) ∧ (0 ≤ (E j).du ∧ (E j).du ≤ 9999) := by
  have h8 := reqsC_le h
  unfold reqsC at h
  rw [if_neg (by omega)] at h
  have h0 := scan_zero (rCode E) n 0 h j (by omega) (by omega)
  unfold rCode at h0
  by_cases hb : reqB (E j) = true
  · simp [reqB, inB] at hb
    omega
  · rw [if_neg hb] at h0; cases h0
/-- What RetryAll tells, in lists. -/
def rtS (n : Nat) (E : Nat → Req) (now : Int) : List Req := if retC n E now = 0 then sentL now E n else []
def rtL (n : Nat) (E : Nat → Req) (now : Int) : List Req := if retC n E now = 0 then retL now E n else []
/-- The answer while it is made: a block with the code, what was sent, the requests. -/
def RtSt (base r : Nat) (w : World) (v1 v2 : Value) (s l : List Req) : Prop :=
  w.cell? ⟨r, 0, none⟩ = some (.int .i64 0) ∧ w.cell? ⟨r, 1, none⟩ = some v1 ∧ w.cell? ⟨r, 2, none⟩ = some v2 ∧ There w r 3 ∧ RowS base w v1 s ∧ RowW base w v2 l
theorem RtSt.below {base r : Nat} {w w' : World} {v1 v2 : Value} {s l : List Req} (h : RtSt base r w v1 v2 s l) (hb : Below w.heap.size w w') : RtSt base r w' v1 v2 s l :=
  ⟨bl_cellR hb h.1, bl_cellR hb h.2.1, bl_cellR hb h.2.2.1, h.2.2.2.1.below hb, h.2.2.2.2.1.below hb, h.2.2.2.2.2.below hb⟩
theorem RowS.lt {base : Nat} {w : World} {v : Value} {l : List Req} (h : RowS base w v l) : ∀ s, v.ownBlock = some s → s < w.heap.size := fun s hs => by
  obtain ⟨_, h2 | ⟨g, cp, cur, hv, _, hh, _⟩⟩ := h
  · rw [h2.1] at hs; cases hs
  · rw [hv] at hs
    simp [Value.ownBlock] at hs
    subst hs
    rcases Nat.lt_or_ge g w.heap.size with h' | h'
    · exact h'
    · rw [Array.getElem?_eq_none h'] at hh; cases hh
theorem set1_there {w : World} {r m o : Nat} {u : Value} (h : There w r m) : There (w.setCell ⟨r, o, none⟩ u) r m := h.setR o u
theorem RtSt.sent {base r : Nat} {w w' : World} {v1 v2 v1' : Value} {s l s' : List Req} (h : RtSt base r w v1 v2 s l) (hr : r < base) (hg : w.grownBy w' v1.ownBlock) (hs : RowS base w' v1' s') : RtSt base r (w'.setCell ⟨r, 1, none⟩ v1') v1' v2 s' l := by
  obtain ⟨h0, h1, h2, hT, hS, hW⟩ := h
  have hrl : r < w.heap.size := World.block_lt_of_cell? _ _ h0
  have hne : some r ≠ v1.ownBlock := fun e => by have := hS.block r e.symm; omega
  have hb := hg.block r hrl hne
  have hT' : There w' r 3 := fun o ho => ⟨by obtain ⟨u, hu⟩ := (hT o ho).1; exact ⟨u, (World.cell?_of_block (a := ⟨r, o, none⟩) hb).trans hu⟩, (World.frozen?_of_block (a := ⟨r, o, none⟩) hb).trans (hT o ho).2⟩
  refine ⟨?_, ?_, ?_, set1_there hT', ownsRow_setW hs hr, ownsRow_setW (RowW.grown hW hS hg) hr⟩
  · rw [set1_other (by simp)]; exact (World.cell?_of_block (a := ⟨r, 0, none⟩) hb).trans h0
  · exact set1_same ((World.cell?_of_block (a := ⟨r, 1, none⟩) hb).trans h1)
  · rw [set1_other (by simp)]; exact (World.cell?_of_block (a := ⟨r, 2, none⟩) hb).trans h2
theorem RtSt.reqs {base r : Nat} {w w' : World} {v1 v2 v2' : Value} {s l l' : List Req} (h : RtSt base r w v1 v2 s l) (hr : r < base) (hg : w.grownBy w' v2.ownBlock) (hs : RowW base w' v2' l') : RtSt base r (w'.setCell ⟨r, 2, none⟩ v2') v1 v2' s l' := by
  obtain ⟨h0, h1, h2, hT, hS, hW⟩ := h
  have hrl : r < w.heap.size := World.block_lt_of_cell? _ _ h0
  have hne : some r ≠ v2.ownBlock := fun e => by have := hW.block r e.symm; omega
  have hb := hg.block r hrl hne
  have hT' : There w' r 3 := fun o ho => ⟨by obtain ⟨u, hu⟩ := (hT o ho).1; exact ⟨u, (World.cell?_of_block (a := ⟨r, o, none⟩) hb).trans hu⟩, (World.frozen?_of_block (a := ⟨r, o, none⟩) hb).trans (hT o ho).2⟩
  refine ⟨?_, ?_, ?_, set1_there hT', ownsRow_setW (RowS.grown hS hW hg) hr, ownsRow_setW hs hr⟩
  · rw [set1_other (by simp)]; exact (World.cell?_of_block (a := ⟨r, 0, none⟩) hb).trans h0
  · rw [set1_other (by simp)]; exact (World.cell?_of_block (a := ⟨r, 1, none⟩) hb).trans h1
  · exact set1_same ((World.cell?_of_block (a := ⟨r, 2, none⟩) hb).trans h2)
end Go.Proofs.Ytfknbijpimpbfaa
/- Requests that are due are sent again: the model. -/

namespace Go.Proofs.Ytfknbijpimpbfaa
open Go.RowKit
set_option linter.unusedSimpArgs false
set_option linter.unusedVariables false
set_option maxRecDepth 100000

theorem RowW.lt {base : Nat} {w : World} {v : Value} {l : List Req} (h : RowW base w v l) : ∀ s, v.ownBlock = some s → s < w.heap.size := fun s hs => by
  obtain ⟨_, h2 | ⟨g, cp, cur, hv, _, hh, _⟩⟩ := h
  · rw [h2.1] at hs; cases hs
  · rw [hv] at hs
    simp [Value.ownBlock] at hs
    subst hs
    rcases Nat.lt_or_ge g w.heap.size with h' | h'
    · exact h'
    · rw [Array.getElem?_eq_none h'] at hh; cases hh
theorem OwnW.same {w : World} {base : Nat} {v : Value} {n : Nat} {E E' : Nat → Req} (h : OwnW w base v n E) (he : ∀ i, i < n → E i = E' i) : OwnW w base v n E' := by
  obtain ⟨a, cap, hv, hc, h0 | ⟨b, ha, hbb, hl, hp, ht⟩⟩ := h
  · exact ⟨a, cap, hv, hc, .inl h0⟩
  · exact ⟨a, cap, hv, hc, .inr ⟨b, ha, hbb, hl, hp.same he, ht⟩⟩
theorem WsAt.put {w : World} {g n k : Nat} {F : Nat → Req} {d t : Int} (h : WsAt w g 0 n F) (hT : There w g (n * 5)) (hk : k < n) :
    WsAt ((w.setCell ⟨g, k * 5 + 3, none⟩ (.int .i64 d)).setCell ⟨g, k * 5 + 4, none⟩ (.int .i64 t)) g 0 n (fun i => if i = k then ⟨(F k).z, (F k).x, (F k).y, d, t⟩ else F i) := fun i hi => by
  have ne : ∀ i j : Nat, i ≠ j → (⟨g, i, none⟩ : Addr) ≠ ⟨g, j, none⟩ := fun i j hij h => hij (by injection h)
  obtain ⟨h0, h1, h2, h3, h4⟩ := h i hi
  simp only [Nat.zero_add] at h0 h1 h2 h3 h4 ⊢
  by_cases e : i = k
  · subst e
    rw [if_pos rfl]
    refine ⟨?_, ?_, ?_, ?_, ?_⟩
    · rw [set1_other (ne _ _ (by omega)), set1_other (ne _ _ (by omega))]; exact h0
    · rw [set1_other (ne _ _ (by omega)), set1_other (ne _ _ (by omega))]; exact h1
    · rw [set1_other (ne _ _ (by omega)), set1_other (ne _ _ (by omega))]; exact h2
    · rw [set1_other (ne _ _ (by omega))]; exact set1_same h3
    · exact set1_same (by rw [set1_other (ne _ _ (by omega))]; exact h4)
  · rw [if_neg e]
    refine ⟨?_, ?_, ?_, ?_, ?_⟩ <;> (rw [set1_other (ne _ _ (by omega)), set1_other (ne _ _ (by omega))]; assumption)
/-- The first k as they are behind it. -/
def mixE (now : Int) (E : Nat → Req) (k i : Nat) : Req := if i < k then retE now (E i) else E i
theorem mixE_at (now : Int) (E : Nat → Req) (k : Nat) : mixE now E k k = E k := by simp [mixE]
theorem mixE_due {now : Int} {E : Nat → Req} {k : Nat} (h : (E k).du ≤ now) (i : Nat) : (if i = k then (⟨(mixE now E k k).z, (mixE now E k k).x, (mixE now E k k).y, now + 3, min ((E k).tr + 1) 99⟩ : Req) else mixE now E k i) = mixE now E (k + 1) i := by
  by_cases e : i = k
  · subst e
    simp [mixE, retE, h]
  · rw [if_neg e]
    unfold mixE
    by_cases h1 : i < k
    · rw [if_pos h1, if_pos (by omega)]
    · rw [if_neg h1, if_neg (by omega)]
theorem mixE_not {now : Int} {E : Nat → Req} {k : Nat} (h : ¬ (E k).du ≤ now) (i : Nat) : mixE now E k i = mixE now E (k + 1) i := by
  unfold mixE
  by_cases e : i = k
  · subst e
    rw [if_neg (by omega), if_pos (by omega)]
    unfold retE
    rw [if_neg h]
  · by_cases h1 : i < k
    · rw [if_pos h1, if_pos (by omega)]
    · rw [if_neg h1, if_neg (by omega)]
theorem rtL_nw {n : Nat} {E : Nat → Req} {now : Int} (h : retC n E now = 0) : (rtL n E now).length = n ∧ ∀ i, i < n → nw (rtL n E now) i = retE now (E i) := by
  unfold rtL
  rw [if_pos h]
  exact ⟨listW_len _ _, fun i hi => listW_nw _ _ _ hi⟩
theorem OwnT.wide {w : World} {base B : Nat} {v : Value} {n : Nat} {R : Rfs} (h : OwnT w base v n R) (hB : B ≤ base) : OwnT w B v n R := by
  obtain ⟨a, cap, hv, hc, h0 | ⟨b, ha, hbb, hr⟩⟩ := h
  · exact ⟨a, cap, hv, hc, .inl h0⟩
  · exact ⟨a, cap, hv, hc, .inr ⟨b, ha, by omega, hr⟩⟩
theorem OwA.set3 {base B r m n : Nat} {R : Rfs} {E : Nat → Req} {w : World} {v1 v2 a b c : Value} (h : OwA B m R n E w v1 v2) (hr : r < B) (hB : base ≤ B) : OwA base m R n E (((w.setCell ⟨r, 0, none⟩ a).setCell ⟨r, 1, none⟩ b).setCell ⟨r, 2, none⟩ c) v1 v2 := by
  have h1 := h.mid ((((MidB.refl r (r + 1) w).set (Nat.le_refl _) (Nat.lt_succ_self _) 0 a).set (Nat.le_refl _) (Nat.lt_succ_self _) 1 b).set (Nat.le_refl _) (Nat.lt_succ_self _) 2 c) hr
  exact ⟨h1.1.wide hB, h1.2.1.wide hB, h1.2.2⟩
end Go.Proofs.Ytfknbijpimpbfaa
