/- Several texts in one. -/
import Derived.Test.YthadmnhpjklmiaaGreatVServeTile24
import Derived.Test.YthadmnhpjklmiaaGreatVServeTile21
import Derived.Test.YthadmnhpjklmiaaGreatVServeTile3
import Derived.Test.YthadmnhpjklmiaaGreatVServeTile9

/- What a feature without a fault becomes: how many points, and where. -/

namespace Go.Proofs.YthadmnhpjklmiaaGreat
open Go.RowKit
set_option linter.unusedSimpArgs false
set_option linter.unusedVariables false

theorem inW_zero : inW 0 0 = true := by decide
/-- All points of a list lie in the world. -/
def allW (l : List (Int × Int)) : Prop := ∀ p ∈ l, inW p.1 p.2 = true
theorem allW.at {l : List (Int × Int)} (h : allW l) (i : Nat) : inW (px l i) (py l i) = true := by
  by_cases hi : i < l.length
  · have e1 : px l i = (l[i]).1 := by simp [px, List.getD_eq_getElem?_getD, List.getElem?_eq_getElem hi]
    have e2 : py l i = (l[i]).2 := by simp [py, List.getD_eq_getElem?_getD, List.getElem?_eq_getElem hi]
    rw [e1, e2]
    exact h _ (List.getElem_mem hi)
  · have e1 : px l i = 0 := by simp [px, List.getD_eq_getElem?_getD, List.getElem?_eq_none (Nat.le_of_not_lt hi)]
    have e2 : py l i = 0 := by simp [py, List.getD_eq_getElem?_getD, List.getElem?_eq_none (Nat.le_of_not_lt hi)]
    rw [e1, e2]
    exact inW_zero
theorem allW_fill {k : Nat} {l : List (Int × Int)} (h : allW l) : allW (fillL k l) := fun p hp => by
  unfold fillL at hp
  rcases List.mem_append.1 hp with hp | hp
  · exact h p hp
  · obtain ⟨_, rfl⟩ := List.mem_replicate.1 hp
    cases hl : l.getLast? with
    | none => rw [List.getLastD_eq_getLast?, hl]; exact inW_zero
    | some q => rw [List.getLastD_eq_getLast?, hl]; exact h q (List.mem_of_getLast? hl)
theorem allW_simpT (ki z : Int) (n : Nat) (X Y : Nat → Int) (L : List Nat) (hz : zoomB z = true) (hin : ∀ i, i < n → inW (X i) (Y i) = true) : allW (simpT ki z n X Y L) := by
  have hs : allW (snapL X Y z n) := snapL_in X Y z hz n hin
  unfold simpT
  split
  · intro p hp
    unfold ptsOf at hp
    obtain ⟨i, _, rfl⟩ := List.mem_map.1 hp
    exact hs.at i
  · split
    · unfold openL
      split
      · exact fun p hp => hs p (List.dropLast_subset _ hp)
      · exact hs
    · exact hs
/-- What a feature without a fault becomes. -/
theorem simpR_facts {id la ki wi z : Int} {n : Nat} {X Y : Nat → Int} {lab : ByteArray} {pr : Int} {L : List Nat} (hfc : featC id la ki wi n X Y lab pr = 0) (hz : zoomB z = true)
    (hL : 3 ≤ (snapL X Y z n).length → Thin (px (snapL X Y z n)) (py (snapL X Y z n)) (gridI z) 0 ((snapL X Y z n).length - 1) L) :
    kindN ki (simpR 0 ki z n X Y L).length ∧ (simpR 0 ki z n X Y L).length ≤ 12 ∧ allW (simpR 0 ki z n X Y L) := by
  obtain ⟨hk, h0, h12, hkn, hin, _⟩ := featC_zero hfc
  have hT := simpT_len ki z n X Y L h0 h12 hL
  have hl : (simpR 0 ki z n X Y L).length = (simpT ki z n X Y L).length + (ki.toNat - (simpT ki z n X Y L).length) := by
    rw [simpR, if_pos rfl, fillL, List.length_append, List.length_replicate]
  refine ⟨?_, by omega, by rw [simpR, if_pos rfl]; exact allW_fill (allW_simpT ki z n X Y L hz hin)⟩
  rcases hk with rfl | rfl | rfl
  · left
    have hn1 := featC_point hfc
    subst hn1
    have h1 := snapL_len X Y z 1
    have e : simpT 1 z 1 X Y L = snapL X Y z 1 := by simp [simpT]
    rw [e] at hl hT
    refine ⟨rfl, ?_⟩
    have : (1 : Int).toNat = 1 := rfl
    omega
  · right; left
    have : (2 : Int).toNat = 2 := rfl
    exact ⟨rfl, by omega⟩
  · right; right
    have : (3 : Int).toNat = 3 := rfl
    exact ⟨rfl, by omega⟩
theorem simpT_le (ki z : Int) (n : Nat) (X Y : Nat → Int) (L : List Nat) (hL : 3 ≤ (snapL X Y z n).length → Thin (px (snapL X Y z n)) (py (snapL X Y z n)) (gridI z) 0 ((snapL X Y z n).length - 1) L) : (simpT ki z n X Y L).length ≤ n := by
  have h1 := snapL_len X Y z n
  unfold simpT
  split
  · unfold ptsOf thinP
    rw [List.length_map]
    split
    · simp; omega
    · have := ((hL (by omega)).len _ _ (by omega)).1
      simp
      omega
  · split
    · unfold openL
      split
      · rw [List.length_dropLast]; omega
      · omega
    · omega
end Go.Proofs.YthadmnhpjklmiaaGreat
/- The model's farthest point. -/

namespace Go.Proofs.YthadmnhpjklmiaaGreat
open Go.RowKit
set_option linter.unusedSimpArgs false
set_option linter.unusedVariables false

set_option maxRecDepth 8000 in
set_option maxHeartbeats 4000000 in
theorem l3Farthest_any (b n cap f t : Nat) (X Y : Nat → Int) (w : World) (hp : PtsAt w b 0 n X Y) (hbl : b < w.heap.size) (hn : n ≤ 40) (hft : f + 1 < t) (htn : t < n) (hok : ∀ i, i < n → okP (X i) (Y i) = true) :
    Calls Tryz.prog 159 #[.slice (some ⟨b, 0, none⟩) n cap, .int .i64 (f : Int), .int .i64 (t : Int)] w fun e w' => ∃ m : Nat, e = .returned (.int .i64 (m : Int)) ∧ Far X Y f t (f + 1) t m ∧ Below w.heap.size w w' := by
  have HP : Hid (PtsAt w b 0 n X Y) := hp
  have HOK : Hid (∀ i, i < n → okP (X i) (Y i) = true) := hok
  have cm : ∀ i, i < n → ∀ W', Below w.heap.size w W' → W'.cell? ⟨b, i * 2, none⟩ = some (.int .i64 (X i)) ∧ W'.cell? ⟨b, i * 2 + 1, none⟩ = some (.int .i64 (Y i)) := fun i hi W' h => by
    have := (HP.out.below h hbl) i hi
    simpa using this
  have HCM : Hid _ := cm
  clear hp hok
  obtain ⟨k, hk⟩ : ∃ k, k = f + 1 := ⟨_, rfl⟩
  have hki : (f : Int) + 1 = (k : Int) := by omega
  have HK : Hid (k = f + 1) := hk
  have k0 : (0 : Int) ≤ (k : Int) := by omega
  have k1 : (k : Int) < (n : Int) := by omega
  have f0 : (0 : Int) ≤ (f : Int) := by omega
  have f1 : (f : Int) < (n : Int) := by omega
  have t0 : (0 : Int) ≤ (t : Int) := by omega
  have t1 : (t : Int) < (n : Int) := by omega
  have hkn : k < n := by omega
  have ck0 : ∀ W', Below w.heap.size w W' → W'.cell? ⟨b, k * 2, none⟩ = some (.int .i64 (X k)) := fun W' h => (cm k hkn W' h).1
  have ck1 : ∀ W', Below w.heap.size w W' → W'.cell? ⟨b, k * 2 + 1, none⟩ = some (.int .i64 (Y k)) := fun W' h => (cm k hkn W' h).2
  have cf0 : ∀ W', Below w.heap.size w W' → W'.cell? ⟨b, f * 2, none⟩ = some (.int .i64 (X f)) := fun W' h => (cm f (by omega) W' h).1
  have cf1 : ∀ W', Below w.heap.size w W' → W'.cell? ⟨b, f * 2 + 1, none⟩ = some (.int .i64 (Y f)) := fun W' h => (cm f (by omega) W' h).2
  have ct0 : ∀ W', Below w.heap.size w W' → W'.cell? ⟨b, t * 2, none⟩ = some (.int .i64 (X t)) := fun W' h => (cm t htn W' h).1
  have ct1 : ∀ W', Below w.heap.size w W' → W'.cell? ⟨b, t * 2 + 1, none⟩ = some (.int .i64 (Y t)) := fun W' h => (cm t htn W' h).2
  have hr : Below w.heap.size w w := Below.refl _ _
  clear cm hk
  go_enter Tryz.func159, Tryz.ntmps159
  go_wp2_with fail
  have HO3 : Hid (okP (X k) (Y k) = true ∧ okP (X f) (Y f) = true ∧ okP (X t) (Y t) = true) := ⟨HOK.out k hkn, HOK.out f (by omega), HOK.out t htn⟩
  go_cut [8, 9] (fun u d wc => u = .int .i64 (gO X Y f t k) ∧ d = .int .i64 (gU X Y f t k) ∧ Below w.heap.size w wc)
  case first =>
    go_region_held3 (fun W' => Below w.heap.size w W') ((repeat (first | exact Below.refl _ _ | assumption | refine Below.drew ?_ | refine bl_alloc ?_ _ | refine bl_then ?_ (by assumption) | refine Below.setCell ?_ (by first | omega | (simp; done) | (simp; omega)) _ | refine bl_store ?_ ?_ _ _)))
      (first | (go_at_call 165; refine (l3Far_any _ _ _ _ _ _ _ HO3.out.1 HO3.out.2.1 HO3.out.2.2).mono ?_; rintro e w' ⟨rfl, hb⟩))
    go_wp2_with fail
    go_meet
    case rel => exact ⟨rfl, rfl, by assumption⟩
  case rest =>
    obtain ⟨rfl, rfl, hbc⟩ := hcut
    have HBc : Hid (Below w.heap.size w wc) := hbc
    clear hbc
    generalize wc = wA at *
    go_wp2_with fail
    go_loopw [7, 8, 9, 10] (fun s7 s8 s9 s10 wr => ∃ i q : Nat, f + 2 ≤ i ∧ i ≤ t ∧ s10 = .int .i64 (i : Int) ∧ s7 = .int .i64 (q : Int) ∧ s8 = .int .i64 (gO X Y f t q) ∧ s9 = .int .i64 (gU X Y f t q) ∧ Far X Y f t (f + 1) i q ∧ Below w.heap.size w wr) (fun _ _ _ s10 _ => t - (intOf s10).toNat)
    case atStart =>
      have e := HK.out
      refine ⟨f + 2, k, by omega, by omega, by go_num, rfl, rfl, rfl, ?_, HBc.out⟩
      rw [e]
      exact Far.one X Y f t (f + 1)
    case round =>
      obtain ⟨i, q, hi2, hit, rfl, rfl, rfl, rfl, hF, hB⟩ := hrel
      have HF : Hid (Far X Y f t (f + 1) i q) := hF
      have HB : Hid (Below w.heap.size w wr) := hB
      have hqi : q < i := hF.hi
      clear hF hB ck0 ck1
      by_cases hlt : i < t
      · have hii : (i : Int) < (t : Int) := by omega
        have hin : i < n := by omega
        have i0 : (0 : Int) ≤ (i : Int) := by omega
        have i1 : (i : Int) < (n : Int) := by omega
        have ci0 : ∀ W', Below wr.heap.size wr W' → W'.cell? ⟨b, i * 2, none⟩ = some (.int .i64 (X i)) := fun W' h => (HCM.out i hin W' (bl_then HB.out h)).1
        have ci1 : ∀ W', Below wr.heap.size wr W' → W'.cell? ⟨b, i * 2 + 1, none⟩ = some (.int .i64 (Y i)) := fun W' h => (HCM.out i hin W' (bl_then HB.out h)).2
        have cg0 : ∀ W', Below wr.heap.size wr W' → W'.cell? ⟨b, f * 2, none⟩ = some (.int .i64 (X f)) := fun W' h => cf0 W' (bl_then HB.out h)
        have cg1 : ∀ W', Below wr.heap.size wr W' → W'.cell? ⟨b, f * 2 + 1, none⟩ = some (.int .i64 (Y f)) := fun W' h => cf1 W' (bl_then HB.out h)
        have cu0 : ∀ W', Below wr.heap.size wr W' → W'.cell? ⟨b, t * 2, none⟩ = some (.int .i64 (X t)) := fun W' h => ct0 W' (bl_then HB.out h)
        have cu1 : ∀ W', Below wr.heap.size wr W' → W'.cell? ⟨b, t * 2 + 1, none⟩ = some (.int .i64 (Y t)) := fun W' h => ct1 W' (bl_then HB.out h)
        have hrr : Below wr.heap.size wr wr := Below.refl _ _
        have HOi : Hid (okP (X i) (Y i) = true) := HOK.out i hin
        obtain ⟨a1, a2, a3, a4⟩ := gO_bd X Y (f := f) (t := t) (i := i) HO3.out.2.1 HO3.out.2.2 HOi.out
        obtain ⟨e1, e2, e3, e4⟩ := gO_bd X Y (f := f) (t := t) (i := q) HO3.out.2.1 HO3.out.2.2 (HOK.out q (by omega))
        clear cf0 cf1 ct0 ct1
        go_wp2_with fail
        go_cut [11, 12] (fun u d wc => u = .int .i64 (gO X Y f t i) ∧ d = .int .i64 (gU X Y f t i) ∧ Below wr.heap.size wr wc)
        case first =>
          go_region_held3 (fun W' => Below wr.heap.size wr W') ((repeat (first | exact Below.refl _ _ | assumption | refine Below.drew ?_ | refine bl_alloc ?_ _ | refine bl_then ?_ (by assumption) | refine Below.setCell ?_ (by first | omega | (simp; done) | (simp; omega)) _ | refine bl_store ?_ ?_ _ _)))
            (first | (go_at_call 165; refine (l3Far_any _ _ _ _ _ _ _ HOi.out HO3.out.2.1 HO3.out.2.2).mono ?_; rintro e w' ⟨rfl, hb⟩))
          go_wp2_with fail
          go_meet
          case rel => exact ⟨rfl, rfl, by assumption⟩
        case rest =>
          obtain ⟨rfl, rfl, hbd⟩ := hcut
          have HB2 : Hid (Below w.heap.size w wc) := bl_then HB.out hbd
          clear hbd ci0 ci1 cg0 cg1 cu0 cu1 hrr
          go_wp2_with fail
          refine (l3More_any _ _ _ _ _ a1 a2 a3 a4 e1 e2 e3 e4).mono ?_
          rintro e w3 ⟨rfl, hb3⟩
          have HB3 : Hid (Below w.heap.size w w3) := bl_then HB2.out hb3
          clear hb3
          have hga : aboveB (gO X Y f t i) (gU X Y f t i) (gO X Y f t q) (gU X Y f t q) = gA X Y f t i q := rfl
          rw [hga]
          clear hga
          cases hg : gA X Y f t i q
          · have HF2 : Hid (Far X Y f t (f + 1) (i + 1) q) := by
              show Far _ _ _ _ _ _ _
              have := HF.out.step X Y
              rw [hg] at this
              simpa using this
            clear a1 a2 a3 a4 e1 e2 e3 e4 hg
            go_wp2_with fail
            go_roundw
            case rel => exact ⟨i + 1, q, by omega, by omega, by go_num, rfl, rfl, rfl, HF2.out, HB3.out⟩
            case measure => simp [intOf]; omega
          · have HF2 : Hid (Far X Y f t (f + 1) (i + 1) i) := by
              show Far _ _ _ _ _ _ _
              have := HF.out.step X Y
              rw [hg] at this
              simpa using this
            clear a1 a2 a3 a4 e1 e2 e3 e4 hg
            go_wp2_with fail
            go_roundw
            case rel => exact ⟨i + 1, i, by omega, by omega, by go_num, rfl, rfl, rfl, HF2.out, HB3.out⟩
            case measure => simp [intOf]; omega
      · have hie : i = t := by omega
        subst hie
        go_wp2
        go_ret
        exact ⟨q, rfl, HF.out, HB.out⟩
end Go.Proofs.YthadmnhpjklmiaaGreat
/- The model's way to thin a line. -/

namespace Go.Proofs.YthadmnhpjklmiaaGreat
open Go.RowKit
set_option linter.unusedSimpArgs false
set_option linter.unusedVariables false

/-- One of those from f + 1 on, less than k, is not near. -/
def farTo (X Y : Nat → Int) (r : Int) (f t k : Nat) : Bool := decide (∃ i, i < k ∧ f < i ∧ nearI X Y r f t i = false)
theorem farTo_end (X Y : Nat → Int) (r : Int) (f t : Nat) : farTo X Y r f t t = farB X Y r f t := rfl
theorem farTo_one (X Y : Nat → Int) (r : Int) (f t : Nat) : farTo X Y r f t (f + 1) = false := by
  unfold farTo
  rw [decide_eq_false_iff_not]
  rintro ⟨i, h1, h2, _⟩
  omega
theorem farTo_step (X Y : Nat → Int) (r : Int) (f t k : Nat) (hk : f < k) : farTo X Y r f t (k + 1) = (farTo X Y r f t k || !nearI X Y r f t k) := by
  rw [Bool.eq_iff_iff]
  simp only [farTo, decide_eq_true_eq, Bool.or_eq_true, Bool.not_eq_true']
  constructor
  · rintro ⟨i, h1, h2, h3⟩
    by_cases e : i = k
    · subst e; exact .inr h3
    · exact .inl ⟨i, by omega, h2, h3⟩
  · rintro (⟨i, h1, h2, h3⟩ | h)
    · exact ⟨i, by omega, h2, h3⟩
    · exact ⟨k, by omega, hk, h⟩

theorem Row_mono {w : World} {b1 b2 n size : Nat} {e : TypeId} {v : Value} {xs : List Value} (h : w.ownsRow b1 e size v n xs) (hb : b2 ≤ b1) : w.ownsRow b2 e size v n xs := by
  obtain ⟨h1, h2 | ⟨g, cp, cur, hv, hg, hr⟩⟩ := h
  · exact ⟨h1, .inl h2⟩
  · exact ⟨h1, .inr ⟨g, cp, cur, hv, Nat.le_trans hb hg, hr⟩⟩

set_option maxRecDepth 8000 in
set_option maxHeartbeats 8000000 in
theorem l3Thin_any (b n cap : Nat) (X Y : Nat → Int) (r : Int) (hn : n ≤ 40) (hok : ∀ i, i < n → okP (X i) (Y i) = true) (hr0 : 0 ≤ r) (hr1 : r ≤ 4096) :
    ∀ d f t, t - f ≤ d → f < t → t < n → ∀ w, PtsAt w b 0 n X Y → b < w.heap.size →
    Calls Tryz.prog 139 #[.slice (some ⟨b, 0, none⟩) n cap, .int .i64 (f : Int), .int .i64 (t : Int), .int .i64 r] w fun e w' => ∃ v l, e = .returned v ∧ Thin X Y r f t l ∧ Row w.heap.size w' v (ptsOf X Y l) ∧ Below w.heap.size w w' := by
  intro d
  induction d with
  | zero => intro f t h1 h2; omega
  | succ d ih =>
    intro f t hd hft htn w hp hbl
    obtain ⟨i0, hi, hz0, hz1, hz2⟩ := info_parts (show (Tryz.prog.info? 84).map (fun i => (i.zero, i.size, i.bytes)) = some (some (.agg #[.int .i64 0, .int .i64 0]), 2, 16) by kernel_rfl)
    have IH := (show Hid _ from ih)
    have HP : Hid (PtsAt w b 0 n X Y) := hp
    have HOK : Hid (∀ i, i < n → okP (X i) (Y i) = true) := hok
    have cm : ∀ i, i < n → ∀ W', Below w.heap.size w W' → W'.cell? ⟨b, i * 2, none⟩ = some (.int .i64 (X i)) ∧ W'.cell? ⟨b, i * 2 + 1, none⟩ = some (.int .i64 (Y i)) := fun i hi W' h => by
      have := (HP.out.below h hbl) i hi
      simpa using this
    have HCM : Hid _ := cm
    have HD : Hid (t - f ≤ d + 1) := hd
    clear hp ih cm hd
    go_enter Tryz.func139, Tryz.ntmps139
    go_wp2_with fail
    go_loopw [9, 10] (fun s9 s10 wr => ∃ k : Nat, f + 1 ≤ k ∧ k ≤ t ∧ s10 = .int .i64 (k : Int) ∧ s9 = .bool (farTo X Y r f t k) ∧ Below w.heap.size w wr) (fun _ s10 _ => t - (intOf s10).toNat)
    case atStart => exact ⟨f + 1, by omega, by omega, by go_num, by rw [farTo_one], Below.refl _ _⟩
    case round =>
      obtain ⟨k, hk1, hk2, rfl, rfl, hB⟩ := hrel
      have HB : Hid (Below w.heap.size w wr) := hB
      clear hB
      by_cases hlt : k < t
      · have hki : (k : Int) < (t : Int) := by omega
        have hst := farTo_step X Y r f t k (by omega)
        cases hfar : farTo X Y r f t k
        · rw [hfar] at hst
          simp only [Bool.false_or] at hst
          have HST : Hid (farTo X Y r f t (k + 1) = !nearI X Y r f t k) := hst
          clear hst hfar
          have k0 : (0 : Int) ≤ (k : Int) := by omega
          have k1 : (k : Int) < (n : Int) := by omega
          have f0 : (0 : Int) ≤ (f : Int) := by omega
          have f1 : (f : Int) < (n : Int) := by omega
          have t0 : (0 : Int) ≤ (t : Int) := by omega
          have t1 : (t : Int) < (n : Int) := by omega
          have ck0 : ∀ W', Below wr.heap.size wr W' → W'.cell? ⟨b, k * 2, none⟩ = some (.int .i64 (X k)) := fun W' h => (HCM.out k (by omega) W' (bl_then HB.out h)).1
          have ck1 : ∀ W', Below wr.heap.size wr W' → W'.cell? ⟨b, k * 2 + 1, none⟩ = some (.int .i64 (Y k)) := fun W' h => (HCM.out k (by omega) W' (bl_then HB.out h)).2
          have cf0 : ∀ W', Below wr.heap.size wr W' → W'.cell? ⟨b, f * 2, none⟩ = some (.int .i64 (X f)) := fun W' h => (HCM.out f (by omega) W' (bl_then HB.out h)).1
          have cf1 : ∀ W', Below wr.heap.size wr W' → W'.cell? ⟨b, f * 2 + 1, none⟩ = some (.int .i64 (Y f)) := fun W' h => (HCM.out f (by omega) W' (bl_then HB.out h)).2
          have ct0 : ∀ W', Below wr.heap.size wr W' → W'.cell? ⟨b, t * 2, none⟩ = some (.int .i64 (X t)) := fun W' h => (HCM.out t (by omega) W' (bl_then HB.out h)).1
          have ct1 : ∀ W', Below wr.heap.size wr W' → W'.cell? ⟨b, t * 2 + 1, none⟩ = some (.int .i64 (Y t)) := fun W' h => (HCM.out t (by omega) W' (bl_then HB.out h)).2
          have HO3 : Hid (okP (X k) (Y k) = true ∧ okP (X f) (Y f) = true ∧ okP (X t) (Y t) = true) := ⟨HOK.out k (by omega), HOK.out f (by omega), HOK.out t (by omega)⟩
          go_wp2_with fail
          go_region_held3 (fun W' => Below wr.heap.size wr W') ((repeat (first | exact Below.refl _ _ | assumption | refine Below.drew ?_ | refine bl_alloc ?_ _ | refine bl_then ?_ (by assumption) | refine Below.setCell ?_ (by first | omega | (simp; done) | (simp; omega)) _ | refine bl_store ?_ ?_ _ _)))
            (first | (go_at_call 158; refine (l1Near_any _ _ _ _ _ _ _ _ HO3.out.1 HO3.out.2.1 HO3.out.2.2 hr0 hr1).mono ?_; rintro e w' ⟨rfl, hb⟩))
          go_wp2_with fail
          rename_i hfin
          go_roundw
          case rel => exact ⟨k + 1, by omega, by omega, by go_num, by rw [HST.out]; rfl, bl_then HB.out hfin⟩
          case measure => simp [intOf]; omega
        · rw [hfar] at hst
          simp only [Bool.true_or] at hst
          have HST : Hid (farTo X Y r f t (k + 1) = true) := hst
          clear hst hfar
          go_wp2_with fail
          refine wp_region_noPanic ?_
          refine wp_region_held_drew (S := fun W' => Below wr.heap.size wr W') (by kernel_rfl) (by (repeat (first | exact Below.refl _ _ | assumption | refine Below.drew ?_ | refine bl_alloc ?_ _ | refine bl_then ?_ (by assumption)))) (fun hHeld => ?_)
          refine takeD (i := 0) (d := some 19) (v := ?v0) rfl rfl (by kernel_rfl) (by kernel_rfl) (by kernel_rfl) (fun _ _ _ h => h) (Or.inl ⟨by rfl, ?hy0⟩) (by assumption) ?_
          case hy0 => (intro w hSw; (try dsimp only at hSw); go_simp <;> with_reducible rfl)
          simp only [Act.put, List.setIfInBounds_toArray, List.set_cons_zero, List.set_cons_succ]
          refine takeD (i := 1) (d := some 20) (v := ?v1) rfl rfl (by kernel_rfl) (by kernel_rfl) (by kernel_rfl) (fun _ _ _ h => h) (Or.inl ⟨by rfl, ?hy1⟩) (by assumption) ?_
          case hy1 => (intro w hSw; (try dsimp only at hSw); go_simp <;> with_reducible rfl)
          simp only [Act.put, List.setIfInBounds_toArray, List.set_cons_zero, List.set_cons_succ]
          refine passD (i := 2) (d := some 21) rfl rfl (by kernel_rfl) (by kernel_rfl) (by kernel_rfl) (fun _ _ _ h => h) (by rfl) (by assumption) ?_
          simp only [Act.put, List.setIfInBounds_toArray, List.set_cons_zero, List.set_cons_succ]
          refine passD (i := 3) (d := some 22) rfl rfl (by kernel_rfl) (by kernel_rfl) (by kernel_rfl) (fun _ _ _ h => h) (by rfl) (by assumption) ?_
          simp only [Act.put, List.setIfInBounds_toArray, List.set_cons_zero, List.set_cons_succ]
          refine passD (i := 4) (d := some 23) rfl rfl (by kernel_rfl) (by kernel_rfl) (by kernel_rfl) (fun _ _ _ h => h) (by rfl) (by assumption) ?_
          simp only [Act.put, List.setIfInBounds_toArray, List.set_cons_zero, List.set_cons_succ]
          refine passD (i := 5) (d := some 24) rfl rfl (by kernel_rfl) (by kernel_rfl) (by kernel_rfl) (fun _ _ _ h => h) (by rfl) (by assumption) ?_
          simp only [Act.put, List.setIfInBounds_toArray, List.set_cons_zero, List.set_cons_succ]
          refine passD (i := 6) (d := some 25) rfl rfl (by kernel_rfl) (by kernel_rfl) (by kernel_rfl) (fun _ _ _ h => h) (by rfl) (by assumption) ?_
          simp only [Act.put, List.setIfInBounds_toArray, List.set_cons_zero, List.set_cons_succ]
          refine passD (i := 7) (d := some 26) rfl rfl (by kernel_rfl) (by kernel_rfl) (by kernel_rfl) (fun _ _ _ h => h) (by rfl) (by assumption) ?_
          simp only [Act.put, List.setIfInBounds_toArray, List.set_cons_zero, List.set_cons_succ]
          refine passD (i := 8) (d := some 27) rfl rfl (by kernel_rfl) (by kernel_rfl) (by kernel_rfl) (fun _ _ _ h => h) (by rfl) (by assumption) ?_
          simp only [Act.put, List.setIfInBounds_toArray, List.set_cons_zero, List.set_cons_succ]
          refine passD (i := 9) (d := some 28) rfl rfl (by kernel_rfl) (by kernel_rfl) (by kernel_rfl) (fun _ _ _ h => h) (by rfl) (by assumption) ?_
          simp only [Act.put, List.setIfInBounds_toArray, List.set_cons_zero, List.set_cons_succ]
          refine passD (i := 10) (d := some 29) rfl rfl (by kernel_rfl) (by kernel_rfl) (by kernel_rfl) (fun _ _ _ h => h) (by rfl) (by assumption) ?_
          simp only [Act.put, List.setIfInBounds_toArray, List.set_cons_zero, List.set_cons_succ]
          refine passD (i := 11) (d := some 30) rfl rfl (by kernel_rfl) (by kernel_rfl) (by kernel_rfl) (fun _ _ _ h => h) (by rfl) (by assumption) ?_
          simp only [Act.put, List.setIfInBounds_toArray, List.set_cons_zero, List.set_cons_succ]
          refine passD (i := 12) (d := some 31) rfl rfl (by kernel_rfl) (by kernel_rfl) (by kernel_rfl) (fun _ _ _ h => h) (by rfl) (by assumption) ?_
          simp only [Act.put, List.setIfInBounds_toArray, List.set_cons_zero, List.set_cons_succ]
          refine passD (i := 13) (d := some 32) rfl rfl (by kernel_rfl) (by kernel_rfl) (by kernel_rfl) (fun _ _ _ h => h) (by rfl) (by assumption) ?_
          simp only [Act.put, List.setIfInBounds_toArray, List.set_cons_zero, List.set_cons_succ]
          refine passD (i := 14) (d := some 33) rfl rfl (by kernel_rfl) (by kernel_rfl) (by kernel_rfl) (fun _ _ _ h => h) (by rfl) (by assumption) ?_
          simp only [Act.put, List.setIfInBounds_toArray, List.set_cons_zero, List.set_cons_succ]
          refine passD (i := 15) (d := some 34) rfl rfl (by kernel_rfl) (by kernel_rfl) (by kernel_rfl) (fun _ _ _ h => h) (by rfl) (by assumption) ?_
          simp only [Act.put, List.setIfInBounds_toArray, List.set_cons_zero, List.set_cons_succ]
          refine passD (i := 16) (d := some 35) rfl rfl (by kernel_rfl) (by kernel_rfl) (by kernel_rfl) (fun _ _ _ h => h) (by rfl) (by assumption) ?_
          simp only [Act.put, List.setIfInBounds_toArray, List.set_cons_zero, List.set_cons_succ]
          refine takeD (i := 17) (d := some 36) (v := ?v17) rfl rfl (by kernel_rfl) (by kernel_rfl) (by kernel_rfl) (fun _ _ _ h => h) (Or.inl ⟨by rfl, ?hy17⟩) (by assumption) ?_
          case hy17 => (intro w hSw; (try dsimp only at hSw); go_simp <;> with_reducible rfl)
          simp only [Act.put, List.setIfInBounds_toArray, List.set_cons_zero, List.set_cons_succ]
          refine takeD (i := 18) (d := some 9) (v := ?v18) rfl rfl (by kernel_rfl) (by kernel_rfl) (by kernel_rfl) (fun _ _ _ h => h) (Or.inl ⟨by rfl, ?hy18⟩) (by assumption) ?_
          case hy18 => (intro w hSw; (try dsimp only at hSw); go_simp <;> with_reducible rfl)
          simp only [Act.put, List.setIfInBounds_toArray, List.set_cons_zero, List.set_cons_succ]
          refine wpAnyH_done (by kernel_rfl) ?_ _
          refine NoPanic.normal ?_
          go_wp2_with fail
          go_roundw
          case rel => exact ⟨k + 1, by omega, by omega, by go_num, by rw [HST.out], bl_then HB.out (by (repeat (first | exact Below.refl _ _ | assumption | refine Below.drew ?_ | refine bl_alloc ?_ _ | refine bl_then ?_ (by assumption) | refine Below.setCell ?_ (by first | omega | (simp; done) | (simp; omega)) _ | refine bl_store ?_ ?_ _ _)))⟩
          case measure => simp [intOf]; omega
      · have hke : k = t := by omega
        subst hke
        rw [farTo_end]
        obtain ⟨cf0, cf1⟩ := HCM.out f (by omega) wr HB.out
        have f0 : (0 : Int) ≤ (f : Int) := by omega
        have f1 : (f : Int) < (n : Int) := by omega
        cases hfar : farB X Y r f k
        · have HF : Hid (Thin X Y r f k [f]) := .near f k hfar
          have hs := HB.out.size
          clear hfar
          go_wp2_with fail
          go_ret
          refine ⟨_, [f], rfl, HF.out, ?_, by have HB' := HB.out; (repeat (first | exact Below.refl _ _ | assumption | refine Below.drew ?_ | refine bl_alloc ?_ _ | refine bl_then ?_ (by assumption) | refine Below.setCell ?_ (by first | omega | (simp; done) | (simp; omega)) _ | refine bl_store ?_ ?_ _ _))⟩
          have := World.ownsRow_lit (base := w.heap.size) (e := 84) (size := 2) wr #[.int .i64 (X f), .int .i64 (Y f)] 1 hs (by decide) rfl
          exact this
        · obtain ⟨j, q1, q2, _⟩ := (farB_iff X Y r f k).1 hfar
          have HFar : Hid (farB X Y r f k = true) := hfar
          clear hfar cf0 cf1
          go_wp2_with fail
          refine (l3Farthest_any b n cap f k X Y wr (HP.out.below HB.out hbl) (Nat.lt_of_lt_of_le hbl HB.out.size) hn (by omega) (by omega) HOK.out).mono ?_
          rintro e w1 ⟨m, rfl, hM, hb1⟩
          have m1 := hM.lo
          have m2 := hM.hi
          have HM : Hid (Far X Y f k (f + 1) k m) := hM
          have HB1 : Hid (Below w.heap.size w w1) := bl_then HB.out hb1
          clear hM hb1
          go_wp2_with fail
          refine (IH.out f m (by have := HD.out; omega) (by omega) (by omega) w1 (HP.out.below HB1.out hbl) (Nat.lt_of_lt_of_le hbl HB1.out.size)).mono ?_
          rintro e w2 ⟨v1, l1, rfl, hT1, hR1, hb2⟩
          have HT1 : Hid (Thin X Y r f m l1) := hT1
          have HR1 : Hid (Row w1.heap.size w2 v1 (ptsOf X Y l1)) := hR1
          have HB2 : Hid (Below w.heap.size w w2) := bl_then HB1.out hb2
          have hs12 := hb2.size
          clear hT1 hR1 hb2
          go_wp2_with fail
          refine (IH.out m k (by have := HD.out; omega) (by omega) (by omega) w2 (HP.out.below HB2.out hbl) (Nat.lt_of_lt_of_le hbl HB2.out.size)).mono ?_
          rintro e w3 ⟨v2, l2, rfl, hT2, hR2, hb3⟩
          obtain ⟨n1, n2, n3⟩ := HT1.out.len X Y (by omega)
          obtain ⟨n4, n5, n6⟩ := hT2.len X Y (by omega)
          have hlen2 : (ptsOf X Y l2).length = l2.length := by simp [ptsOf]
          have hlen1 : (ptsOf X Y l1).length = l1.length := by simp [ptsOf]
          have hl2 : 0 < l2.length := List.length_pos_iff.2 n6
          obtain ⟨g, cp, hv2⟩ : ∃ g cp, v2 = .slice (some ⟨g, 0, none⟩) (ptsOf X Y l2).length cp := by
            obtain ⟨av, cv, hv, _, h0 | ⟨g, rfl, _⟩⟩ := hR2.own
            · omega
            · exact ⟨g, cv, hv⟩
          have hc2 := World.ownsRow.cells hR2 (g := g) (by rw [hv2]; rfl)
          have HC2 := (show Hid _ from hc2)
          have HT : Hid (Thin X Y r f k (l1 ++ l2)) := .split f k m l1 l2 HFar.out HM.out HT1.out hT2
          have HR3 : Hid (Row w1.heap.size w3 v1 (ptsOf X Y l1)) := HR1.out.below hb3
          have HB3 : Hid (Below w.heap.size w w3) := bl_then HB2.out hb3
          have hs23 := hb3.size
          have HLL : Hid ((ptsOf X Y l2).length = l2.length ∧ (ptsOf X Y l1).length = l1.length) := ⟨hlen2, hlen1⟩
          subst hv2
          clear hT2 hR2 hb3 hc2 n2 n3 n5 n6 HR1 hlen1 hlen2
          go_wp2_with (first
            | (at_builtin; go_must (refine wpList_append_own _ rfl _ _ 53 rfl w1.heap.size 84 i0 (.agg #[.int .i64 0, .int .i64 0]) 2 16 Tryz.underlying53 hi hz0 hz1 hz2 rfl (by decide) _ (ptsOf X Y l1).length (cellsL (ptsOf X Y l1)) rfl HR3.out ⟨g, 0, none⟩ (ptsOf X Y l2).length cp (cellsL (ptsOf X Y l2)) rfl ?c0 ?c1 ?c2 ?c3 ?c4 ?c5 ?_)))
          case c0 => rw [cellsL_len]
          case c1 => exact HC2.out
          case c2 =>
            intro u hu
            unfold cellsL at hu
            rw [List.mem_flatMap] at hu
            obtain ⟨p, _, hp⟩ := hu
            simp at hp
            rcases hp with rfl | rfl <;> rfl
          case c3 => have := HLL.out; unfold maxLen; omega
          case c4 => have := HLL.out; omega
          case c5 => omega
          intro v' w4 hown' hgrow hnil
          clear hnil
          have HB4 : Hid (Below w.heap.size w w4) := HB3.out.trans ((Below.refl _ _).grown hgrow HB3.out.size (fun k hk => Nat.le_trans HB1.out.size (HR3.out.lt k hk).1))
          have HR4 : Hid (Row w.heap.size w4 v' (ptsOf X Y (l1 ++ l2))) := by
            show Row _ _ _ _
            have e1 : ptsOf X Y (l1 ++ l2) = ptsOf X Y l1 ++ ptsOf X Y l2 := by simp [ptsOf]
            have e2 : cellsL (ptsOf X Y l1 ++ ptsOf X Y l2) = cellsL (ptsOf X Y l1) ++ cellsL (ptsOf X Y l2) := by simp [cellsL]
            rw [e1]
            show World.ownsRow _ _ _ _ _ _ _
            rw [e2, List.length_append]
            exact Row_mono hown' HB1.out.size
          clear hown' hgrow
          go_wp2
          go_ret
          exact ⟨_, l1 ++ l2, rfl, HT.out, HR4.out, HB4.out⟩
end Go.Proofs.YthadmnhpjklmiaaGreat
