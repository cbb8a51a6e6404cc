/- DoesCover: the program and the model. -/
import Derived.Test.YtjnglencgkhhaacVReachBox36
import Derived.Test.YtjnglencgkhhaacVReachBox40
namespace Go.Proofs.Ytjnglencgkhhaac
open Go.RowKit
set_option linter.unusedSimpArgs false
set_option linter.unusedVariables false
set_option maxRecDepth 100000

theorem featC_point {id la wi : Int} {n : Nat} {X Y : Nat → Int} {lab : ByteArray} {pr : Int} (h : featC id la 1 wi n X Y lab pr = 0) : n = 1 := by
  unfold featC at h
  split at h
  · split at h
    · rename_i h2
      simp [sizeB] at h2
      omega
    · cases h
  · cases h
theorem inW_zero : inW 0 0 = true := by decide
/-- All points of a list lie in the world. -/
def allW (l : List (Int × Int)) : Prop := ∀ p ∈ l, inW p.1 p.2 = true
theorem allW.at {l : List (Int × Int)} (h : allW l) (i : Nat) : inW (px l i) (py l i) = true := by
  by_cases hi : i < l.length
  · have e1 : px l i = (l[i]).1 := by simp [px, List.getD_eq_getElem?_getD, List.getElem?_eq_getElem hi]
    have e2 : py l i = (l[i]).2 := by simp [py, List.getD_eq_getElem?_getD, List.getElem?_eq_getElem hi]
    rw [e1, e2]
    exact h _ (List.getElem_mem hi)
  · have e1 : px l i = 0 := by simp [px, List.getD_eq_getElem?_getD, List.getElem?_eq_none (Nat.le_of_not_lt hi)]
    have e2 : py l i = 0 := by simp [py, List.getD_eq_getElem?_getD, List.getElem?_eq_none (Nat.le_of_not_lt hi)]
    rw [e1, e2]
    exact inW_zero
theorem allW_fill {k : Nat} {l : List (Int × Int)} (h : allW l) : allW (fillL k l) := fun p hp => by
  unfold fillL at hp
  rcases List.mem_append.1 hp with hp | hp
  · exact h p hp
  · obtain ⟨_, rfl⟩ := List.mem_replicate.1 hp
    cases hl : l.getLast? with
    | none => rw [List.getLastD_eq_getLast?, hl]; exact inW_zero
    | some q => rw [List.getLastD_eq_getLast?, hl]; exact h q (List.mem_of_getLast? hl)
theorem allW_simpT (ki z : Int) (n : Nat) (X Y : Nat → Int) (L : List Nat) (hz : zoomB z = true) (hin : ∀ i, i < n → inW (X i) (Y i) = true) : allW (simpT ki z n X Y L) := by
  have hs : allW (snapL X Y z n) := snapL_in X Y z hz n hin
  unfold simpT
  split
  · intro p hp
    unfold ptsOf at hp
    obtain ⟨i, _, rfl⟩ := List.mem_map.1 hp
    exact hs.at i
  · split
    · unfold openL
      split
      · exact fun p hp => hs p (List.dropLast_subset _ hp)
      · exact hs
    · exact hs
/-- What a feature without a fault becomes. -/
theorem simpR_facts {id la ki wi z : Int} {n : Nat} {X Y : Nat → Int} {lab : ByteArray} {pr : Int} {L : List Nat} (hfc : featC id la ki wi n X Y lab pr = 0) (hz : zoomB z = true)
    (hL : 3 ≤ (snapL X Y z n).length → Thin (px (snapL X Y z n)) (py (snapL X Y z n)) (gridI z) 0 ((snapL X Y z n).length - 1) L) :
    kindN ki (simpR 0 ki z n X Y L).length ∧ (simpR 0 ki z n X Y L).length ≤ 12 ∧ allW (simpR 0 ki z n X Y L) := by
  obtain ⟨hk, h0, h12, hkn, hin, _⟩ := featC_zero hfc
  have hT := simpT_len ki z n X Y L h0 h12 hL
  have hl : (simpR 0 ki z n X Y L).length = (simpT ki z n X Y L).length + (ki.toNat - (simpT ki z n X Y L).length) := by
    rw [simpR, if_pos rfl, fillL, List.length_append, List.length_replicate]
  refine ⟨?_, by omega, by rw [simpR, if_pos rfl]; exact allW_fill (allW_simpT ki z n X Y L hz hin)⟩
  rcases hk with rfl | rfl | rfl
  · left
    have hn1 := featC_point hfc
    subst hn1
    have h1 := snapL_len X Y z 1
    have e : simpT 1 z 1 X Y L = snapL X Y z 1 := by simp [simpT]
    rw [e] at hl hT
    refine ⟨rfl, ?_⟩
    have : (1 : Int).toNat = 1 := rfl
    omega
  · right; left
    have : (2 : Int).toNat = 2 := rfl
    exact ⟨rfl, by omega⟩
  · right; right
    have : (3 : Int).toNat = 3 := rfl
    exact ⟨rfl, by omega⟩
/-- The answer of DoesCover. -/
def dcB (C ki wi z x y : Int) (R : List (Int × Int)) : Bool := decide (C = 0) && (pixB z x y && coverB ki wi z (centI z x) (centI z y) (dblL (px R) (py R) R.length))

theorem simple_ok {off : Nat} (id la ki wi z : Int) (b n cap : Nat) (X Y : Nat → Int) (lab : ByteArray) (pr : Int) (L : List Nat) (w : World) (hp : PtsAt w b off n X Y) (hbl : b < w.heap.size) (hn : n ≤ 1048576) (hcap : n ≤ cap) (hl : lab.size ≤ 1048576)
    (hL : 3 ≤ (snapL X Y z n).length → Thin (px (snapL X Y z n)) (py (snapL X Y z n)) (gridI z) 0 ((snapL X Y z n).length - 1) L) (hC : 0 = simpC z (featC id la ki wi n X Y lab pr)) (hR0 : 0 < (simpR 0 ki z n X Y L).length) :
    Calls Try.prog 16 #[.agg #[.int .i64 id, .int .i64 la, .int .i64 ki, .int .i64 wi, .slice (some ⟨b, off, none⟩) n cap, .string lab, .int .i64 pr], .int .i64 z] w fun e w' => ∃ g cg, e = .returned (.agg #[.int .i64 0, .int .i64 id, .int .i64 la, .int .i64 ki, .int .i64 wi, .slice (some ⟨g, 0, none⟩) (simpR 0 ki z n X Y L).length cg, .string lab, .int .i64 pr]) ∧ g < w'.heap.size ∧ (simpR 0 ki z n X Y L).length ≤ cg ∧ PtsAt w' g 0 (simpR 0 ki z n X Y L).length (px (simpR 0 ki z n X Y L)) (py (simpR 0 ki z n X Y L)) ∧ Below w.heap.size w w' :=
  (impl_SimpleAt_any id la ki wi z b n cap X Y lab pr L w hp hbl hn hcap hl hL 0 hC).mono fun e w' ⟨v, he, hR, hb⟩ => by
    obtain ⟨g, cg, hv, h1, h2, h3, h4⟩ := hR.at hR0
    refine ⟨g, cg, ?_, h2, h3, h4, hb⟩
    rw [he, hv]
    simp [zI, zS]
theorem simple_no {off : Nat} (id la ki wi z : Int) (b n cap : Nat) (X Y : Nat → Int) (lab : ByteArray) (pr : Int) (L : List Nat) (w : World) (hp : PtsAt w b off n X Y) (hbl : b < w.heap.size) (hn : n ≤ 1048576) (hcap : n ≤ cap) (hl : lab.size ≤ 1048576)
    (hL : 3 ≤ (snapL X Y z n).length → Thin (px (snapL X Y z n)) (py (snapL X Y z n)) (gridI z) 0 ((snapL X Y z n).length - 1) L) (C : Int) (hC : C = simpC z (featC id la ki wi n X Y lab pr)) (hC0 : C ≠ 0) :
    Calls Try.prog 16 #[.agg #[.int .i64 id, .int .i64 la, .int .i64 ki, .int .i64 wi, .slice (some ⟨b, off, none⟩) n cap, .string lab, .int .i64 pr], .int .i64 z] w fun e w' => ∃ a c, e = .returned (.agg #[.int .i64 C, .int .i64 0, .int .i64 0, .int .i64 0, .int .i64 0, .slice a 0 c, .string ⟨#[]⟩, .int .i64 0]) ∧ Below w.heap.size w w' :=
  (impl_SimpleAt_any id la ki wi z b n cap X Y lab pr L w hp hbl hn hcap hl hL C hC).mono fun e w' ⟨v, he, hR, hb⟩ => by
    rw [simpR, if_neg hC0] at hR
    obtain ⟨a, c, hv, _⟩ := hR.own
    refine ⟨a, c, ?_, hb⟩
    rw [he, hv]
    simp [zI, zS, hC0]
end Go.Proofs.Ytjnglencgkhhaac
