/- Several texts in one. -/
import Derived.Test.YtjnglencgkhhaaaVSimples12
import Derived.Test.YtjnglencgkhhaaaVSimples43
import Derived.Test.YtjnglencgkhhaaaVSimples39
import Derived.Test.YtjnglencgkhhaaaVSimples41
import Derived.Test.YtjnglencgkhhaaaVSimples5

/- What goes of a line is near what stays. No program in sight. -/

namespace Go.Proofs.Ytjnglencgkhhaaa
set_option linter.unusedVariables false

/-- Point i is near one of the segments of the places of a list. -/
def Close (X Y : Nat → Int) (r : Int) (i : Nat) (l : List Nat) : Prop := ∃ k, k + 1 < l.length ∧ nearI X Y r (l.getD k 0) (l.getD (k + 1) 0) i = true
theorem Close.left {X Y : Nat → Int} {r : Int} {i : Nat} {l : List Nat} (l' : List Nat) (h : Close X Y r i l) : Close X Y r i (l ++ l') := by
  obtain ⟨k, hk, hn⟩ := h
  refine ⟨k, by simp; omega, ?_⟩
  rw [List.getD_eq_getElem?_getD, List.getD_eq_getElem?_getD, List.getElem?_append_left (by omega), List.getElem?_append_left (by omega), ← List.getD_eq_getElem?_getD, ← List.getD_eq_getElem?_getD]
  exact hn
theorem Close.right {X Y : Nat → Int} {r : Int} {i : Nat} {l : List Nat} (l' : List Nat) (h : Close X Y r i l) : Close X Y r i (l' ++ l) := by
  obtain ⟨k, hk, hn⟩ := h
  refine ⟨l'.length + k, by simp; omega, ?_⟩
  rw [List.getD_eq_getElem?_getD, List.getD_eq_getElem?_getD, List.getElem?_append_right (by omega), List.getElem?_append_right (by omega), show l'.length + k - l'.length = k by omega, show l'.length + k + 1 - l'.length = k + 1 by omega, ← List.getD_eq_getElem?_getD, ← List.getD_eq_getElem?_getD]
  exact hn
theorem Thin.head {X Y : Nat → Int} {r : Int} {f t : Nat} {l : List Nat} (h : Thin X Y r f t l) : ∃ l', l = f :: l' := by
  induction h with
  | near f t h0 => exact ⟨[], rfl⟩
  | split f t m l1 l2 h1 hm t1 t2 i1 i2 =>
    obtain ⟨l', rfl⟩ := i1
    exact ⟨l' ++ l2, rfl⟩
theorem Thin.close {X Y : Nat → Int} {r : Int} {f t : Nat} {l : List Nat} (h : Thin X Y r f t l) : ∀ i, f ≤ i → i ≤ t → f < t → Close X Y r i (l ++ [t]) := by
  induction h with
  | near f t h0 =>
    intro i h1 h2 h3
    refine ⟨0, by simp, ?_⟩
    simp
    by_cases e1 : i = f
    · subst e1; exact near_first _ _ _ _ _
    · by_cases e2 : i = t
      · subst e2; exact near_last _ _ _ _ _
      · cases hn : nearI X Y r f t i
        · have := (farB_iff X Y r f t).2 ⟨i, by omega, by omega, hn⟩
          rw [h0] at this; cases this
        · rfl
  | split f t m l1 l2 h1 hm t1 t2 i1 i2 =>
    intro i h2 h3 h4
    have a1 := hm.lo
    have a2 := hm.hi
    by_cases hi : i ≤ m
    · obtain ⟨l', rfl⟩ := t2.head
      have := (i1 i h2 hi (by omega)).left (l' ++ [t])
      simpa using this
    · have := (i2 i (by omega) h3 (by omega)).right l1
      simpa using this
end Go.Proofs.Ytjnglencgkhhaaa
/- What a feature becomes has no fault, and its first point is the first one, snapped. -/

namespace Go.Proofs.Ytjnglencgkhhaaa
open Go.RowKit
set_option linter.unusedSimpArgs false
set_option linter.unusedVariables false

theorem snapL_head (X Y : Nat → Int) (z : Int) : ∀ k, (snapL X Y z (k + 1)).head? = some (snapI z (X 0), snapI z (Y 0))
  | 0 => by
    unfold snapL
    simp [snapL]
  | k + 1 => by
    have ih := snapL_head X Y z k
    rw [snapL]
    split
    · exact ih
    · rw [List.head?_append, ih]; rfl
theorem px_head {l : List (Int × Int)} {p : Int × Int} (h : l.head? = some p) : px l 0 = p.1 ∧ py l 0 = p.2 := by
  cases l with
  | nil => cases h
  | cons q r =>
    simp at h
    subst h
    exact ⟨rfl, rfl⟩
theorem openL_head (l : List (Int × Int)) : (openL l).head? = l.head? := by
  unfold openL
  split
  · rename_i h
    match l, h with
    | a :: b :: r, _ => rfl
  · rfl
theorem simpT_head (ki z : Int) (n : Nat) (X Y : Nat → Int) (L : List Nat) (hn : 0 < n) (hL : 3 ≤ (snapL X Y z n).length → Thin (px (snapL X Y z n)) (py (snapL X Y z n)) (gridI z) 0 ((snapL X Y z n).length - 1) L) : (simpT ki z n X Y L).head? = some (snapI z (X 0), snapI z (Y 0)) := by
  obtain ⟨k, rfl⟩ : ∃ k, n = k + 1 := ⟨n - 1, by omega⟩
  have hs := snapL_head X Y z k
  have hp := px_head hs
  have h0 := snapL_pos X Y z (k + 1) (by omega)
  unfold simpT
  split
  · unfold ptsOf thinP
    split
    · rename_i hlt
      obtain ⟨m, hm⟩ : ∃ m, (snapL X Y z (k + 1)).length = m + 1 := ⟨_, (Nat.sub_add_cancel h0).symm⟩
      rw [hm, List.range_succ_eq_map]
      simp [hp.1, hp.2]
    · obtain ⟨l', rfl⟩ := (hL (by omega)).head
      simp [hp.1, hp.2]
  · split
    · rw [openL_head]; exact hs
    · exact hs
theorem fillL_head {k : Nat} {l : List (Int × Int)} {p : Int × Int} (h : l.head? = some p) : (fillL k l).head? = some p := by
  unfold fillL
  rw [List.head?_append, h]; rfl
theorem simpR_head (ki z : Int) (n : Nat) (X Y : Nat → Int) (L : List Nat) (hn : 0 < n) (hL : 3 ≤ (snapL X Y z n).length → Thin (px (snapL X Y z n)) (py (snapL X Y z n)) (gridI z) 0 ((snapL X Y z n).length - 1) L) : px (simpR 0 ki z n X Y L) 0 = snapI z (X 0) ∧ py (simpR 0 ki z n X Y L) 0 = snapI z (Y 0) := by
  rw [simpR, if_pos rfl]
  exact px_head (fillL_head (simpT_head ki z n X Y L hn hL))
theorem featC_again {id la ki wi : Int} {n m : Nat} {X Y X' Y' : Nat → Int} {lab : ByteArray} {pr : Int} (h : featC id la ki wi n X Y lab pr = 0) (hk : kindN ki m) (hm : m ≤ 12) (hin : ∀ i, inW (X' i) (Y' i) = true) : featC id la ki wi m X' Y' lab pr = 0 := by
  unfold featC at h ⊢
  split at h
  · rename_i h1
    rw [if_pos h1]
    split at h
    · split at h
      · split at h
        · rename_i h4
          have hs : sizeB ki (m : Int) = true := by
            rcases hk with ⟨rfl, rfl⟩ | ⟨rfl, h2⟩ | ⟨rfl, h2⟩
            · decide
            · simp [sizeB, inB]; omega
            · simp [sizeB, inB]; omega
          have hp : ptsIn m X' Y' = true := decide_eq_true (fun i _ => hin i)
          rw [if_pos hs, if_pos hp, if_pos h4]
        · cases h
      · cases h
    · cases h
  · cases h
theorem simpR_le {id la ki wi z : Int} {n : Nat} {X Y : Nat → Int} {lab : ByteArray} {pr : Int} {L : List Nat} (hfc : featC id la ki wi n X Y lab pr = 0)
    (hL : 3 ≤ (snapL X Y z n).length → Thin (px (snapL X Y z n)) (py (snapL X Y z n)) (gridI z) 0 ((snapL X Y z n).length - 1) L) : (simpR 0 ki z n X Y L).length ≤ n := by
  obtain ⟨hk, h0, h12, hkn, hin, _⟩ := featC_zero hfc
  have hT := simpT_le ki z n X Y L hL
  rw [simpR, if_pos rfl, fillL, List.length_append, List.length_replicate]
  omega
end Go.Proofs.Ytjnglencgkhhaaa
/- SimpleAt with and without a fault. -/

namespace Go.Proofs.Ytjnglencgkhhaaa
open Go.RowKit
set_option linter.unusedVariables false
theorem simple_ok {off : Nat} (id la ki wi z : Int) (b n cap : Nat) (X Y : Nat → Int) (lab : ByteArray) (pr : Int) (L : List Nat) (w : World) (hp : PtsAt w b off n X Y) (hbl : b < w.heap.size) (hn : n ≤ 1048576) (hcap : n ≤ cap) (hl : lab.size ≤ 1048576)
    (hL : 3 ≤ (snapL X Y z n).length → Thin (px (snapL X Y z n)) (py (snapL X Y z n)) (gridI z) 0 ((snapL X Y z n).length - 1) L) (hC : 0 = simpC z (featC id la ki wi n X Y lab pr)) (hR0 : 0 < (simpR 0 ki z n X Y L).length) :
    Calls Try.prog 12 #[.agg #[.int .i64 id, .int .i64 la, .int .i64 ki, .int .i64 wi, .slice (some ⟨b, off, none⟩) n cap, .string lab, .int .i64 pr], .int .i64 z] w fun e w' => ∃ g cg, e = .returned (.agg #[.int .i64 0, .int .i64 id, .int .i64 la, .int .i64 ki, .int .i64 wi, .slice (some ⟨g, 0, none⟩) (simpR 0 ki z n X Y L).length cg, .string lab, .int .i64 pr]) ∧ g < w'.heap.size ∧ (simpR 0 ki z n X Y L).length ≤ cg ∧ PtsAt w' g 0 (simpR 0 ki z n X Y L).length (px (simpR 0 ki z n X Y L)) (py (simpR 0 ki z n X Y L)) ∧ Below w.heap.size w w' :=
  (impl_SimpleAt_any id la ki wi z b n cap X Y lab pr L w hp hbl hn hcap hl hL 0 hC).mono fun e w' ⟨v, he, hR, hb⟩ => by
    obtain ⟨g, cg, hv, h1, h2, h3, h4⟩ := hR.at hR0
    refine ⟨g, cg, ?_, h2, h3, h4, hb⟩
    rw [he, hv]
    simp [zI, zS]
theorem simple_no {off : Nat} (id la ki wi z : Int) (b n cap : Nat) (X Y : Nat → Int) (lab : ByteArray) (pr : Int) (L : List Nat) (w : World) (hp : PtsAt w b off n X Y) (hbl : b < w.heap.size) (hn : n ≤ 1048576) (hcap : n ≤ cap) (hl : lab.size ≤ 1048576)
    (hL : 3 ≤ (snapL X Y z n).length → Thin (px (snapL X Y z n)) (py (snapL X Y z n)) (gridI z) 0 ((snapL X Y z n).length - 1) L) (C : Int) (hC : C = simpC z (featC id la ki wi n X Y lab pr)) (hC0 : C ≠ 0) :
    Calls Try.prog 12 #[.agg #[.int .i64 id, .int .i64 la, .int .i64 ki, .int .i64 wi, .slice (some ⟨b, off, none⟩) n cap, .string lab, .int .i64 pr], .int .i64 z] w fun e w' => ∃ a c, e = .returned (.agg #[.int .i64 C, .int .i64 0, .int .i64 0, .int .i64 0, .int .i64 0, .slice a 0 c, .string ⟨#[]⟩, .int .i64 0]) ∧ Below w.heap.size w w' :=
  (impl_SimpleAt_any id la ki wi z b n cap X Y lab pr L w hp hbl hn hcap hl hL C hC).mono fun e w' ⟨v, he, hR, hb⟩ => by
    rw [simpR, if_neg hC0] at hR
    obtain ⟨a, c, hv, _⟩ := hR.own
    refine ⟨a, c, ?_, hb⟩
    rw [he, hv]
    simp [zI, zS, hC0]
theorem simpS_ok {off : Nat} (id la ki wi z : Int) (b n cap : Nat) (X Y : Nat → Int) (lab : ByteArray) (pr : Int) (L : List Nat) (w : World) (hp : PtsAt w b off n X Y) (hbl : b < w.heap.size) (hn : n ≤ 1048576) (hcap : n ≤ cap) (hl : lab.size ≤ 1048576)
    (hL : 3 ≤ (snapL X Y z n).length → Thin (px (snapL X Y z n)) (py (snapL X Y z n)) (gridI z) 0 ((snapL X Y z n).length - 1) L) (hC : 0 = simpC z (featC id la ki wi n X Y lab pr)) (hR0 : 0 < (simpR 0 ki z n X Y L).length) :
    Calls Try.prog 13 #[.agg #[.int .i64 id, .int .i64 la, .int .i64 ki, .int .i64 wi, .slice (some ⟨b, off, none⟩) n cap, .string lab, .int .i64 pr], .int .i64 z] w fun e w' => ∃ g cg, e = .returned (.agg #[.int .i64 0, .int .i64 id, .int .i64 la, .int .i64 ki, .int .i64 wi, .slice (some ⟨g, 0, none⟩) (simpR 0 ki z n X Y L).length cg, .string lab, .int .i64 pr]) ∧ g < w'.heap.size ∧ (simpR 0 ki z n X Y L).length ≤ cg ∧ PtsAt w' g 0 (simpR 0 ki z n X Y L).length (px (simpR 0 ki z n X Y L)) (py (simpR 0 ki z n X Y L)) ∧ Below w.heap.size w w' :=
  (spec_SimpleAt_any id la ki wi z b n cap X Y lab pr L w hp hbl hn hcap hl hL 0 hC).mono fun e w' ⟨v, he, hR, hb⟩ => by
    obtain ⟨g, cg, hv, h1, h2, h3, h4⟩ := hR.at hR0
    refine ⟨g, cg, ?_, h2, h3, h4, hb⟩
    rw [he, hv]
    simp [zI, zS]
theorem simpS_no {off : Nat} (id la ki wi z : Int) (b n cap : Nat) (X Y : Nat → Int) (lab : ByteArray) (pr : Int) (L : List Nat) (w : World) (hp : PtsAt w b off n X Y) (hbl : b < w.heap.size) (hn : n ≤ 1048576) (hcap : n ≤ cap) (hl : lab.size ≤ 1048576)
    (hL : 3 ≤ (snapL X Y z n).length → Thin (px (snapL X Y z n)) (py (snapL X Y z n)) (gridI z) 0 ((snapL X Y z n).length - 1) L) (C : Int) (hC : C = simpC z (featC id la ki wi n X Y lab pr)) (hC0 : C ≠ 0) :
    Calls Try.prog 13 #[.agg #[.int .i64 id, .int .i64 la, .int .i64 ki, .int .i64 wi, .slice (some ⟨b, off, none⟩) n cap, .string lab, .int .i64 pr], .int .i64 z] w fun e w' => ∃ a c, e = .returned (.agg #[.int .i64 C, .int .i64 0, .int .i64 0, .int .i64 0, .int .i64 0, .slice a 0 c, .string ⟨#[]⟩, .int .i64 0]) ∧ Below w.heap.size w w' :=
  (spec_SimpleAt_any id la ki wi z b n cap X Y lab pr L w hp hbl hn hcap hl hL C hC).mono fun e w' ⟨v, he, hR, hb⟩ => by
    rw [simpR, if_neg hC0] at hR
    obtain ⟨a, c, hv, _⟩ := hR.own
    refine ⟨a, c, ?_, hb⟩
    rw [he, hv]
    simp [zI, zS, hC0]
end Go.Proofs.Ytjnglencgkhhaaa
/- szPointS counts the points. -/

namespace Go.Proofs.Ytjnglencgkhhaaa
open Go.RowKit
set_option linter.unusedSimpArgs false
set_option linter.unusedVariables false
end Go.Proofs.Ytjnglencgkhhaaa
