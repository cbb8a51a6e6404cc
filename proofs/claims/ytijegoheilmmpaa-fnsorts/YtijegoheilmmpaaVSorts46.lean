/- Whether two lists of features are the same: the program's. -/
import Derived.Test.YtijegoheilmmpaaVSorts45
namespace Go.Proofs.Ytijegoheilmmpaa
open Go.RowKit
set_option linter.unusedSimpArgs false
set_option linter.unusedVariables false
set_option maxRecDepth 100000

def sameF (f g : Feat) : Bool := ptsEq f.n f.X f.Y g.n g.X g.Y && sameB f.id f.la f.ki f.wi f.lab f.pr g.id g.la g.ki g.wi g.lab g.pr
def sameL (n : Nat) (G : Nat → Feat) (m : Nat) (H : Nat → Feat) : Bool := decide (n = m) && decide (∀ i, i < n → sameF (G i) (H i) = true)
theorem sameL_len {n m : Nat} {G H : Nat → Feat} (h : ¬ n = m) : sameL n G m H = false := by simp [sameL, h]
theorem sameL_bad {n : Nat} {G H : Nat → Feat} (k : Nat) (hk : k < n) (h : sameF (G k) (H k) = false) : sameL n G n H = false := by
  unfold sameL
  rw [decide_eq_false (p := ∀ i, i < n → sameF (G i) (H i) = true) (fun hc => by have := hc k hk; rw [h] at this; cases this)]
  simp
theorem sameL_ok {n : Nat} {G H : Nat → Feat} (h : ∀ i, i < n → sameF (G i) (H i) = true) : sameL n G n H = true := by
  unfold sameL
  rw [decide_eq_true h]; simp
theorem sameF_same {f f' g g' : Feat} (h : f.same f') (h' : g.same g') : sameF f g = sameF f' g' := by
  obtain ⟨s1, s2, s3, s4, s5, s6, s7, s8, s9⟩ := h
  obtain ⟨t1, t2, t3, t4, t5, t6, t7, t8, t9⟩ := h'
  unfold sameF
  rw [s1, s2, s3, s4, s5, s6, s7, s8, s9, t1, t2, t3, t4, t5, t6, t7, t8, t9]
theorem sameL_same {n m : Nat} {G G' H H' : Nat → Feat} (h : ∀ j, j < n → (G j).same (G' j)) (h' : ∀ j, j < m → (H j).same (H' j)) : sameL n G m H = sameL n G' m H' := by
  by_cases e : n = m
  · subst e
    unfold sameL
    have : (∀ i, i < n → sameF (G i) (H i) = true) ↔ (∀ i, i < n → sameF (G' i) (H' i) = true) := by
      constructor
      · intro hh i hi; rw [← sameF_same (h i hi) (h' i hi)]; exact hh i hi
      · intro hh i hi; rw [sameF_same (h i hi) (h' i hi)]; exact hh i hi
    simp only [this]
  · rw [sameL_len e, sameL_len e]

/-- The list's features have their points in blocks. -/
def Pts0 (w : World) (n : Nat) (G : Nat → Feat) : Prop := ∀ i, i < n → ∃ q, (G i).a = some ⟨q, 0, none⟩ ∧ q < w.heap.size ∧ PtsAt w q 0 (G i).n (G i).X (G i).Y
theorem Pts0.below {w w' : World} {n : Nat} {G : Nat → Feat} (h : Pts0 w n G) (hb : Below w.heap.size w w') : Pts0 w' n G := fun i hi => by
  obtain ⟨q, e1, e2, e3⟩ := h i hi
  exact ⟨q, e1, Nat.lt_of_lt_of_le e2 hb.size, e3.below hb e2⟩
theorem OwnFs.pts0 {w : World} {B b n : Nat} {F G : Nat → Feat} (h : OwnFs w B b n F G) : Pts0 w n G := fun i hi => by
  obtain ⟨_, q, e1, _, _, _, e5, e6⟩ := h.2.2.2 i hi
  exact ⟨q, e1, e5, e6⟩

set_option maxHeartbeats 4000000 in
theorem equalFunc_any (b d n m c c' : Nat) (G H : Nat → Feat) (w : World) (hg : FsAt w b 0 n G) (hh : FsAt w d 0 m H) (hb : b < w.heap.size) (hd : d < w.heap.size) (hpg : Pts0 w n G) (hph : Pts0 w m H) (hsg : SmallFs n G) (hsh : SmallFs m H) :
    Calls Try.prog 34 #[.slice (some ⟨b, 0, none⟩) n c, .slice (some ⟨d, 0, none⟩) m c', .func (.func 35) #[] #[]] w fun e w' => e = .returned (.bool (sameL n G m H)) ∧ Below w.heap.size w w' := by
  by_cases hnm : n = m
  rotate_left
  · have hne : ((n : Int) == (m : Int)) = false := by simp; omega
    have hn := hsg.1
    have hm := hsh.1
    have hz : Hid (sameL n G m H = false) := sameL_len hnm
    go_enter Try.func34, Try.ntmps34
    go_wp2
    go_ret
    exact ⟨ret_bool hz.out.symm, by (repeat (first | exact Below.refl _ _ | assumption | refine Below.drew ?_ | refine bl_alloc ?_ _ | refine bl_then ?_ (by assumption) | refine Below.setCell ?_ (by first | omega | (simp; done) | (simp; omega)) _ | refine bl_store ?_ ?_ _ _))⟩
  subst hnm
  have HG : Hid (FsAt w b 0 n G) := hg
  have HH : Hid (FsAt w d 0 n H) := hh
  have HPG : Hid (Pts0 w n G) := hpg
  have HPH : Hid (Pts0 w n H) := hph
  have HSG : Hid (SmallFs n G) := hsg
  have HSH : Hid (SmallFs n H) := hsh
  have hn := hsg.1
  clear hg hh hpg hph hsg hsh
  go_enter Try.func34, Try.ntmps34
  go_wp2
  go_loopw [17] (fun v wr => ∃ k : Nat, k ≤ n ∧ v = .int .i64 k ∧ (∀ j, j < k → sameF (G j) (H j) = true) ∧ Below w.heap.size w wr) (fun v _ => n - (intOf v).toNat)
  case atStart => exact ⟨0, by omega, rfl, by omega, Below.refl _ _⟩
  case round =>
    obtain ⟨k, hk, rfl, hA, hB⟩ := hrel
    have HA : Hid (∀ j, j < k → sameF (G j) (H j) = true) := hA
    have HB : Hid (Below w.heap.size w wr) := hB
    by_cases hlt : k < n
    · obtain ⟨⟨f0, f1, f2, f3, f4, f5, f6⟩, _⟩ := (HG.out.below hB hb) k hlt
      obtain ⟨⟨g0, g1, g2, g3, g4, g5, g6⟩, _⟩ := (HH.out.below hB hd) k hlt
      obtain ⟨q, eq, hql, hqp⟩ := (HPG.out.below hB) k hlt
      obtain ⟨r, er, hrl, hrp⟩ := (HPH.out.below hB) k hlt
      rw [eq] at f4
      rw [er] at g4
      simp only [Nat.zero_add] at f0 f1 f2 f3 f4 f5 f6 g0 g1 g2 g3 g4 g5 g6
      have KQ : Hid (PtsAt wr q 0 (G k).n (G k).X (G k).Y) := hqp
      have KR : Hid (PtsAt wr r 0 (H k).n (H k).X (H k).Y) := hrp
      have z1 := (HSG.out.2 k hlt).1
      have z2 := (HSH.out.2 k hlt).1
      have hdr : d < wr.heap.size := Nat.lt_of_lt_of_le hd hB.size
      have HLT : Hid (k < n) := hlt
      clear hB hA eq er hqp hrp
      have hi : (k : Int) < (n : Int) := by omega
      have hi0 : (0 : Int) ≤ (k : Int) := by omega
      go_wp2_with fail
      generalize hV : ((wr.alloc _).alloc _ : World) = V
      have hBV : Below wr.heap.size wr V := by subst hV; (repeat (first | exact Below.refl _ _ | assumption | refine Below.drew ?_ | refine bl_alloc ?_ _ | refine bl_then ?_ (by assumption) | refine Below.setCell ?_ (by first | omega | (simp; done) | (simp; omega)) _ | refine bl_store ?_ ?_ _ _))
      clear hV f0 f1 f2 f3 f4 f5 f6 g0 g1 g2 g3 g4 g5 g6
      refine (isSameFeature_any _ _ _ _ _ _ _ _ q r _ _ _ _ (G k).X (G k).Y (H k).X (H k).Y _ _ _ _ V (KQ.out.below hBV hql) (KR.out.below hBV hrl) (Nat.lt_of_lt_of_le hql hBV.size) (Nat.lt_of_lt_of_le hrl hBV.size) z1 z2).mono ?_
      rintro e w' ⟨rfl, hb'⟩
      have HB' : Hid (Below w.heap.size w w') := bl_then HB.out (bl_then hBV hb')
      clear hBV hb'
      cases hs : sameF (G k) (H k)
      · have hs' : (ptsEq (G k).n (G k).X (G k).Y (H k).n (H k).X (H k).Y && sameB (G k).id (G k).la (G k).ki (G k).wi (G k).lab (G k).pr (H k).id (H k).la (H k).ki (H k).wi (H k).lab (H k).pr) = false := hs
        rw [hs']
        have hz : Hid (sameL n G n H = false) := sameL_bad k HLT.out hs
        clear hs hs'
        go_wp2
        go_ret
        exact ⟨ret_bool hz.out.symm, HB'.out⟩
      · have hs' : (ptsEq (G k).n (G k).X (G k).Y (H k).n (H k).X (H k).Y && sameB (G k).id (G k).la (G k).ki (G k).wi (G k).lab (G k).pr (H k).id (H k).la (H k).ki (H k).wi (H k).lab (H k).pr) = true := hs
        rw [hs']
        have HE : Hid (sameF (G k) (H k) = true) := hs
        clear hs hs'
        go_wp2
        go_roundw
        case rel => exact ⟨k + 1, by have := HLT.out; omega, by go_num, fun j hj => by
            by_cases e : j = k
            · rw [e]; exact HE.out
            · exact HA.out j (by omega), HB'.out⟩
        case measure => have := HLT.out; simp [intOf]; omega
    · have hz : Hid (sameL n G n H = true) := sameL_ok (fun i hi => HA.out i (by omega))
      go_wp2
      go_ret
      exact ⟨ret_bool hz.out.symm, HB.out⟩
set_option maxHeartbeats 1000000 in
theorem impl_SameFeatures_any (b d n m c c' : Nat) (G H : Nat → Feat) (w : World) (hg : FsAt w b 0 n G) (hh : FsAt w d 0 m H) (hb : b < w.heap.size) (hd : d < w.heap.size) (hpg : Pts0 w n G) (hph : Pts0 w m H) (hsg : SmallFs n G) (hsh : SmallFs m H) :
    Calls Try.prog 11 #[.slice (some ⟨b, 0, none⟩) n c, .slice (some ⟨d, 0, none⟩) m c'] w fun e w' => e = .returned (.bool (sameL n G m H)) ∧ Below w.heap.size w w' := by
  have HX : Hid (Calls Try.prog 34 #[.slice (some ⟨b, 0, none⟩) n c, .slice (some ⟨d, 0, none⟩) m c', .func (.func 35) #[] #[]] w fun e w' => e = .returned (.bool (sameL n G m H)) ∧ Below w.heap.size w w') := equalFunc_any b d n m c c' G H w hg hh hb hd hpg hph hsg hsh
  clear hg hh hpg hph hsg hsh
  go_enter Try.func11, Try.ntmps11
  go_wp2_with fail
  refine HX.out.mono ?_
  rintro e w' ⟨rfl, hb'⟩
  go_wp2
  go_ret
  exact ⟨rfl, hb'⟩
end Go.Proofs.Ytijegoheilmmpaa
