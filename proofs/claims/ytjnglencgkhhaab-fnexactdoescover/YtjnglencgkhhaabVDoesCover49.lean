/- DoesCover: the program and the model. -/
import Derived.Test.YtjnglencgkhhaabVDoesCover44
import Derived.Test.YtjnglencgkhhaabVDoesCover48
namespace Go.Proofs.Ytjnglencgkhhaab
open Go.RowKit
set_option linter.unusedSimpArgs false
set_option linter.unusedVariables false
set_option maxRecDepth 100000

theorem featC_point {id la wi : Int} {n : Nat} {X Y : Nat → Int} {lab : ByteArray} {pr : Int} (h : featC id la 1 wi n X Y lab pr = 0) : n = 1 := by
  unfold featC at h
  split at h
  · split at h
    · rename_i h2
      simp [sizeB] at h2
      omega
    · cases h
  · cases h
theorem inW_zero : inW 0 0 = true := by decide
/-- All points of a list lie in the world. -/
def allW (l : List (Int × Int)) : Prop := ∀ p ∈ l, inW p.1 p.2 = true
theorem allW.at {l : List (Int × Int)} (h : allW l) (i : Nat) : inW (px l i) (py l i) = true := by
  by_cases hi : i < l.length
  · have e1 : px l i = (l[i]).1 := by simp [px, List.getD_eq_getElem?_getD, List.getElem?_eq_getElem hi]
    have e2 : py l i = (l[i]).2 := by simp [py, List.getD_eq_getElem?_getD, List.getElem?_eq_getElem hi]
    rw [e1, e2]
    exact h _ (List.getElem_mem hi)
  · have e1 : px l i = 0 := by simp [px, List.getD_eq_getElem?_getD, List.getElem?_eq_none (Nat.le_of_not_lt hi)]
    have e2 : py l i = 0 := by simp [py, List.getD_eq_getElem?_getD, List.getElem?_eq_none (Nat.le_of_not_lt hi)]
    rw [e1, e2]
    exact inW_zero
theorem allW_fill {k : Nat} {l : List (Int × Int)} (h : allW l) : allW (fillL k l) := fun p hp => by
  unfold fillL at hp
  rcases List.mem_append.1 hp with hp | hp
  · exact h p hp
  · obtain ⟨_, rfl⟩ := List.mem_replicate.1 hp
    cases hl : l.getLast? with
    | none => rw [List.getLastD_eq_getLast?, hl]; exact inW_zero
    | some q => rw [List.getLastD_eq_getLast?, hl]; exact h q (List.mem_of_getLast? hl)
theorem allW_simpT (ki z : Int) (n : Nat) (X Y : Nat → Int) (L : List Nat) (hz : zoomB z = true) (hin : ∀ i, i < n → inW (X i) (Y i) = true) : allW (simpT ki z n X Y L) := by
  have hs : allW (snapL X Y z n) := snapL_in X Y z hz n hin
  unfold simpT
  split
  · intro p hp
    unfold ptsOf at hp
    obtain ⟨i, _, rfl⟩ := List.mem_map.1 hp
    exact hs.at i
  · split
    · unfold openL
      split
      · exact fun p hp => hs p (List.dropLast_subset _ hp)
      · exact hs
    · exact hs
/-- What a feature without a fault becomes. -/
theorem simpR_facts {id la ki wi z : Int} {n : Nat} {X Y : Nat → Int} {lab : ByteArray} {pr : Int} {L : List Nat} (hfc : featC id la ki wi n X Y lab pr = 0) (hz : zoomB z = true)
    (hL : 3 ≤ (snapL X Y z n).length → Thin (px (snapL X Y z n)) (py (snapL X Y z n)) (gridI z) 0 ((snapL X Y z n).length - 1) L) :
    kindN ki (simpR 0 ki z n X Y L).length ∧ (simpR 0 ki z n X Y L).length ≤ 12 ∧ allW (simpR 0 ki z n X Y L) := by
  obtain ⟨hk, h0, h12, hkn, hin, _⟩ := featC_zero hfc
  have hT := simpT_len ki z n X Y L h0 h12 hL
  have hl : (simpR 0 ki z n X Y L).length = (simpT ki z n X Y L).length + (ki.toNat - (simpT ki z n X Y L).length) := by
    rw [simpR, if_pos rfl, fillL, List.length_append, List.length_replicate]
  refine ⟨?_, by omega, by rw [simpR, if_pos rfl]; exact allW_fill (allW_simpT ki z n X Y L hz hin)⟩
  rcases hk with rfl | rfl | rfl
  · left
    have hn1 := featC_point hfc
    subst hn1
    have h1 := snapL_len X Y z 1
    have e : simpT 1 z 1 X Y L = snapL X Y z 1 := by simp [simpT]
    rw [e] at hl hT
    refine ⟨rfl, ?_⟩
    have : (1 : Int).toNat = 1 := rfl
    omega
  · right; left
    have : (2 : Int).toNat = 2 := rfl
    exact ⟨rfl, by omega⟩
  · right; right
    have : (3 : Int).toNat = 3 := rfl
    exact ⟨rfl, by omega⟩
/-- The answer of DoesCover. -/
def dcB (C ki wi z x y : Int) (R : List (Int × Int)) : Bool := decide (C = 0) && (pixB z x y && coverB ki wi z (centI z x) (centI z y) (dblL (px R) (py R) R.length))

theorem simple_ok {off : Nat} (id la ki wi z : Int) (b n cap : Nat) (X Y : Nat → Int) (lab : ByteArray) (pr : Int) (L : List Nat) (w : World) (hp : PtsAt w b off n X Y) (hbl : b < w.heap.size) (hn : n ≤ 1048576) (hcap : n ≤ cap) (hl : lab.size ≤ 1048576)
    (hL : 3 ≤ (snapL X Y z n).length → Thin (px (snapL X Y z n)) (py (snapL X Y z n)) (gridI z) 0 ((snapL X Y z n).length - 1) L) (hC : 0 = simpC z (featC id la ki wi n X Y lab pr)) (hR0 : 0 < (simpR 0 ki z n X Y L).length) :
    Calls Try.prog 55 #[.agg #[.int .i64 id, .int .i64 la, .int .i64 ki, .int .i64 wi, .slice (some ⟨b, off, none⟩) n cap, .string lab, .int .i64 pr], .int .i64 z] w fun e w' => ∃ g cg, e = .returned (.agg #[.int .i64 0, .int .i64 id, .int .i64 la, .int .i64 ki, .int .i64 wi, .slice (some ⟨g, 0, none⟩) (simpR 0 ki z n X Y L).length cg, .string lab, .int .i64 pr]) ∧ g < w'.heap.size ∧ (simpR 0 ki z n X Y L).length ≤ cg ∧ PtsAt w' g 0 (simpR 0 ki z n X Y L).length (px (simpR 0 ki z n X Y L)) (py (simpR 0 ki z n X Y L)) ∧ Below w.heap.size w w' :=
  (impl_SimpleAt_any id la ki wi z b n cap X Y lab pr L w hp hbl hn hcap hl hL 0 hC).mono fun e w' ⟨v, he, hR, hb⟩ => by
    obtain ⟨g, cg, hv, h1, h2, h3, h4⟩ := hR.at hR0
    refine ⟨g, cg, ?_, h2, h3, h4, hb⟩
    rw [he, hv]
    simp [zI, zS]
theorem simple_no {off : Nat} (id la ki wi z : Int) (b n cap : Nat) (X Y : Nat → Int) (lab : ByteArray) (pr : Int) (L : List Nat) (w : World) (hp : PtsAt w b off n X Y) (hbl : b < w.heap.size) (hn : n ≤ 1048576) (hcap : n ≤ cap) (hl : lab.size ≤ 1048576)
    (hL : 3 ≤ (snapL X Y z n).length → Thin (px (snapL X Y z n)) (py (snapL X Y z n)) (gridI z) 0 ((snapL X Y z n).length - 1) L) (C : Int) (hC : C = simpC z (featC id la ki wi n X Y lab pr)) (hC0 : C ≠ 0) :
    Calls Try.prog 55 #[.agg #[.int .i64 id, .int .i64 la, .int .i64 ki, .int .i64 wi, .slice (some ⟨b, off, none⟩) n cap, .string lab, .int .i64 pr], .int .i64 z] w fun e w' => ∃ a c, e = .returned (.agg #[.int .i64 C, .int .i64 0, .int .i64 0, .int .i64 0, .int .i64 0, .slice a 0 c, .string ⟨#[]⟩, .int .i64 0]) ∧ Below w.heap.size w w' :=
  (impl_SimpleAt_any id la ki wi z b n cap X Y lab pr L w hp hbl hn hcap hl hL C hC).mono fun e w' ⟨v, he, hR, hb⟩ => by
    rw [simpR, if_neg hC0] at hR
    obtain ⟨a, c, hv, _⟩ := hR.own
    refine ⟨a, c, ?_, hb⟩
    rw [he, hv]
    simp [zI, zS, hC0]
set_option maxHeartbeats 8000000 in
theorem impl_DoesCover_any {off : Nat} (id la ki wi z x y : Int) (b n cap : Nat) (X Y : Nat → Int) (lab : ByteArray) (pr : Int) (L : List Nat) (w : World) (hp : PtsAt w b off n X Y) (hbl : b < w.heap.size) (hn : n ≤ 1048576) (hcap : n ≤ cap) (hl : lab.size ≤ 1048576)
    (hL : 3 ≤ (snapL X Y z n).length → Thin (px (snapL X Y z n)) (py (snapL X Y z n)) (gridI z) 0 ((snapL X Y z n).length - 1) L) (C : Int) (hC : C = simpC z (featC id la ki wi n X Y lab pr)) :
    Calls Try.prog 29 #[.agg #[.int .i64 id, .int .i64 la, .int .i64 ki, .int .i64 wi, .slice (some ⟨b, off, none⟩) n cap, .string lab, .int .i64 pr], .int .i64 z, .int .i64 x, .int .i64 y] w fun e w' => e = .returned (.bool (dcB C ki wi z x y (simpR C ki z n X Y L))) ∧ Below w.heap.size w w' := by
  have HP : Hid (PtsAt w b off n X Y) := hp
  have HL := (show Hid _ from hL)
  have HC : Hid (C = simpC z (featC id la ki wi n X Y lab pr)) := hC
  clear hp hL hC
  go_enter Try.func29, Try.ntmps29
  go_wp2_with fail
  generalize hW : (w.alloc _ : World) = W
  have hB0 : Below w.heap.size w W := by subst hW; (repeat (first | exact Below.refl _ _ | assumption | refine Below.drew ?_ | refine bl_alloc ?_ _ | refine bl_then ?_ (by assumption) | refine Below.setCell ?_ (by first | omega | (simp; done) | (simp; omega)) _ | refine bl_store ?_ ?_ _ _))
  clear hW
  have HB0 : Hid (Below w.heap.size w W) := hB0
  have HPW : Hid (PtsAt W b off n X Y) := HP.out.below hB0 hbl
  have hblW : b < W.heap.size := Nat.lt_of_lt_of_le hbl hB0.size
  clear hB0
  by_cases hC0 : C = 0
  · subst hC0
    have hz : zoomB z = true := by
      have := HC.out
      unfold simpC at this
      split at this
      · assumption
      · omega
    have hfc : featC id la ki wi n X Y lab pr = 0 := by
      have := HC.out
      unfold simpC at this
      rw [if_pos hz] at this
      exact this.symm
    obtain ⟨hkn, hR12, hall⟩ := simpR_facts hfc hz HL.out
    have hwr := (featC_rng hfc).2.2.1
    have hR0 : 0 < (simpR 0 ki z n X Y L).length := by rcases hkn with ⟨_, h⟩ | ⟨_, h⟩ | ⟨_, h⟩ <;> omega
    have Hs := (show Hid _ from simple_ok id la ki wi z b n cap X Y lab pr L W HPW.out hblW hn hcap hl HL.out HC.out hR0)
    clear hfc
    refine Calls.mono Hs.out ?_
    clear Hs
    have HAL : Hid (allW (simpR 0 ki z n X Y L)) := hall
    clear hall hkn
    generalize hRe : simpR 0 ki z n X Y L = R at *
    have HRe : Hid (simpR 0 ki z n X Y L = R) := hRe
    clear hRe
    rintro e w1 ⟨g, cg, rfl, hgl, hcg, hPg, hb1⟩
    have hB1 : Below w.heap.size w w1 := bl_then HB0.out hb1
    have HPg : Hid (PtsAt w1 g 0 R.length (px R) (py R)) := hPg
    generalize hRn : R.length = N at *
    clear hPg hb1
    go_wp2_with fail
    obtain ⟨k0, k1, k2, hk⟩ : ∃ k0 k1 k2 : Int, centV z x y = .agg #[.int .i64 k0, .int .i64 k1, .int .i64 k2] := by
      unfold centV
      split <;> exact ⟨_, _, _, rfl⟩
    have Hce := (show Hid _ from impl_CentreOf_any z x y)
    refine (Hce.out _).mono ?_
    rintro e w2 ⟨rfl, hb2⟩
    rw [hk]
    have hB2 : Below w.heap.size w w2 := bl_then hB1 hb2
    have HP2 : Hid (PtsAt w2 g 0 N (px R) (py R)) := HPg.out.below hb2 hgl
    have hg2 : g < w2.heap.size := Nat.lt_of_lt_of_le hgl hb2.size
    clear HPg hb2 hB1 hgl
    cases hpx : pixB z x y
    · have HK : Hid (dcB 0 ki wi z x y R = false) := by show _ = _; simp [dcB, hpx]
      have hk0 : k0 = 3 := by
        rw [centV, hpx] at hk
        simp at hk
        exact hk.1.symm
      subst hk0
      go_wp2_with fail
      go_ret
      exact ⟨ret_bool (by rw [HRe.out]; exact HK.out.symm), by have hB2' := hB2; (repeat (first | exact Below.refl _ _ | assumption | refine Below.drew ?_ | refine bl_alloc ?_ _ | refine bl_then ?_ (by assumption) | refine Below.setCell ?_ (by first | omega | (simp; done) | (simp; omega)) _ | refine bl_store ?_ ?_ _ _))⟩
    · have HK : Hid (dcB 0 ki wi z x y R = coverB ki wi z (centI z x) (centI z y) (dblL (px R) (py R) N)) := by show _ = _; simp [dcB, hpx, hRn]
      have hkk : k0 = 0 ∧ k1 = centI z x ∧ k2 = centI z y := by
        rw [centV, hpx] at hk
        simp at hk
        exact ⟨hk.1.symm, hk.2.1.symm, hk.2.2.symm⟩
      obtain ⟨rfl, rfl, rfl⟩ := hkk
      clear hk
      generalize centI z x = cx at *
      generalize centI z y = cy at *
      go_wp2_with fail
      generalize hV : ((w2.alloc _).alloc _ : World) = V
      have hbV : Below w2.heap.size w2 V := by subst hV; (repeat (first | exact Below.refl _ _ | assumption | refine Below.drew ?_ | refine bl_alloc ?_ _ | refine bl_then ?_ (by assumption) | refine Below.setCell ?_ (by first | omega | (simp; done) | (simp; omega)) _ | refine bl_store ?_ ?_ _ _))
      clear hV
      refine (coversAsItIs_any id la ki wi z cx cy g N cg (px R) (py R) lab pr V (HP2.out.below hbV hg2) (Nat.lt_of_lt_of_le hg2 hbV.size) hR0 (by omega) (fun i _ => HAL.out.at i) hwr hz).mono ?_
      rintro e w3 ⟨rfl, hb3⟩
      go_wp2_with fail
      go_ret
      exact ⟨ret_bool (by rw [HRe.out]; exact HK.out.symm), bl_then hB2 (bl_then hbV hb3)⟩
  · have HK : Hid (∀ R, dcB C ki wi z x y R = false) := fun R => by simp [dcB, hC0]
    have hcb : (C != 0) = true := by simpa using hC0
    refine (simple_no id la ki wi z b n cap X Y lab pr L W HPW.out hblW hn hcap hl HL.out C HC.out hC0).mono ?_
    rintro e w1 ⟨a1, c1, rfl, hb1⟩
    have hB1 : Below w.heap.size w w1 := bl_then HB0.out hb1
    go_wp2_with fail
    obtain ⟨k0, k1, k2, hk⟩ : ∃ k0 k1 k2 : Int, centV z x y = .agg #[.int .i64 k0, .int .i64 k1, .int .i64 k2] := by
      unfold centV
      split <;> exact ⟨_, _, _, rfl⟩
    refine (impl_CentreOf_any z x y _).mono ?_
    rintro e w2 ⟨rfl, hb2⟩
    rw [hk]
    have hB2 : Below w.heap.size w w2 := bl_then hB1 hb2
    clear hk hb1 hb2 hB1
    go_wp2_with fail
    go_ret
    exact ⟨ret_bool (HK.out _).symm, by have hB2' := hB2; (repeat (first | exact Below.refl _ _ | assumption | refine Below.drew ?_ | refine bl_alloc ?_ _ | refine bl_then ?_ (by assumption) | refine Below.setCell ?_ (by first | omega | (simp; done) | (simp; omega)) _ | refine bl_store ?_ ?_ _ _))⟩
end Go.Proofs.Ytjnglencgkhhaab
