/- Rasters: what is wrong of one, which ref lies in which: the program and the model. -/
import Derived.Test.YtjkmjkfakolpfaaT2
import Derived.Test.YtjkmjkfakolpfaaRw0
import Derived.Test.YtjkmjkfakolpfaaTake
import Derived.Deep.RegionHeld3
namespace Go.Proofs.Ytjkmjkfakolpfaa
open Go.RowKit
set_option linter.unusedSimpArgs false
set_option linter.unusedVariables false
set_option maxRecDepth 100000

/-- The first n numbers are Ids. -/
def rasB (Z : Nat → Int) (n : Nat) : Bool := (List.range n).all fun i => inB (Z i) 0 999
def rasC (n : Nat) (Z : Nat → Int) : Int := if n = 64 then (if rasB Z 64 = true then 0 else 3) else 2
theorem rasB_add (Z : Nat → Int) (n : Nat) : rasB Z (n + 1) = (rasB Z n && inB (Z n) 0 999) := by simp [rasB, List.range_succ]
theorem rasB_at {Z : Nat → Int} {n i : Nat} (h : rasB Z n = true) (hi : i < n) : inB (Z i) 0 999 = true := by
  simp [rasB] at h
  exact h i hi
theorem rasB_no {Z : Nat → Int} {n i : Nat} (hi : i < n) (h : inB (Z i) 0 999 = false) : rasB Z n = false := by
  cases e : rasB Z n
  · rfl
  · rw [rasB_at e hi] at h; cases h
theorem rasC_cases (n : Nat) (Z : Nat → Int) : (rasC n Z = 2 ∧ n ≠ 64) ∨ (rasC n Z = 3 ∧ n = 64 ∧ rasB Z 64 = false) ∨ (rasC n Z = 0 ∧ n = 64 ∧ rasB Z 64 = true) := by
  unfold rasC
  by_cases h : n = 64
  · cases e : rasB Z 64 <;> simp [h]
  · simp [h]
set_option maxHeartbeats 1000000 in
theorem rasterFault_any (a : Option Addr) (n cap : Nat) (Z : Nat → Int) (w : World) (hp : IsNs w a n Z) (hn : n ≤ 1048576) :
    Calls Try.prog 26 #[.slice a n cap] w fun e w' => e = .returned (.int .i64 (rasC n Z)) ∧ w = w' := by
  by_cases h64 : n = 64
  · have HC : Hid (rasC n Z = if rasB Z 64 = true then 0 else 3) := by show _ = _; simp [rasC, h64]
    have HP : Hid (IsNs w a n Z) := hp
    subst h64
    clear hp
    go_enter Try.func26, Try.ntmps26
    go_wp2_with fail
    go_loopw [10] (fun i wr => ∃ k : Nat, k ≤ 64 ∧ i = .int .i64 (k : Int) ∧ rasB Z k = true ∧ w = wr) (fun i _ => 64 - (intOf i).toNat)
    case atStart => exact ⟨0, by omega, rfl, rfl, rfl⟩
    case round =>
      obtain ⟨k, hk, rfl, hB, rfl⟩ := hrel
      have HB : Hid (rasB Z k = true) := hB
      clear hB
      by_cases hlt : k < 64
      · rcases HP.out with h0 | ⟨b, off, rfl, hbl, hpt⟩
        · omega
        have hi : (k : Int) < 64 := by omega
        have hi0 : (0 : Int) ≤ (k : Int) := by omega
        have c0 : w.cell? ⟨b, off + k, none⟩ = some (.int .i64 (Z k)) := hpt k hlt
        have HA : Hid (rasB Z (k + 1) = inB (Z k) 0 999) := by show _ = _; rw [rasB_add, HB.out]; rfl
        have HN : Hid (inB (Z k) 0 999 = false → rasB Z 64 = false) := fun h => rasB_no hlt h
        clear hpt
        generalize hV : inB (Z k) 0 999 = V at *
        have HV : Hid (inB (Z k) 0 999 = V) := hV
        clear hV
        cases V
        · go_wp2_with (go_at_call 40; refine (isWithin_any _ _ _ _).mono ?_; rintro e w' ⟨rfl, rfl⟩; rw [HV.out])
          go_ret
          exact ⟨ret_int (by rw [HC.out, HN.out trivial]; rfl), rfl⟩
        · go_wp2_with (go_at_call 40; refine (isWithin_any _ _ _ _).mono ?_; rintro e w' ⟨rfl, rfl⟩; rw [HV.out])
          go_roundw
          case rel => exact ⟨k + 1, by omega, by go_num, HA.out, trivial⟩
          case measure => simp [intOf]; omega
      · have hke : k = 64 := by omega
        subst hke
        go_wp2
        go_ret
        exact ⟨ret_int (by rw [HC.out, HB.out]; rfl), rfl⟩
  · have HC : Hid (rasC n Z = 2) := by show _ = _; simp [rasC, h64]
    have h' : ((n : Int) == 64) = false := by
      have : (n : Int) ≠ 64 := by omega
      simpa using this
    go_enter Try.func26, Try.ntmps26
    go_wp2
    go_ret
    exact ⟨ret_int HC.out.symm, rfl⟩
set_option maxHeartbeats 1000000 in
theorem l8Ids_any (a : Option Addr) (n cap : Nat) (Z : Nat → Int) (w : World) (hp : IsNs w a n Z) (hn : n ≤ 1048576) :
    Calls Try.prog 32 #[.slice a n cap] w fun e w' => e = .returned (.int .i64 (rasC n Z)) ∧ w = w' := by
  by_cases h64 : n = 64
  · have HC : Hid (rasC n Z = if rasB Z 64 = true then 0 else 3) := by show _ = _; simp [rasC, h64]
    have HP : Hid (IsNs w a n Z) := hp
    subst h64
    clear hp
    go_enter Try.func32, Try.ntmps32
    go_wp2_with fail
    go_loopw [3] (fun i wr => ∃ k : Nat, k ≤ 64 ∧ i = .int .i64 (k : Int) ∧ rasB Z k = true ∧ w = wr) (fun i _ => 64 - (intOf i).toNat)
    case atStart => exact ⟨0, by omega, rfl, rfl, rfl⟩
    case round =>
      obtain ⟨k, hk, rfl, hB, rfl⟩ := hrel
      have HB : Hid (rasB Z k = true) := hB
      clear hB
      by_cases hlt : k < 64
      · rcases HP.out with h0 | ⟨b, off, rfl, hbl, hpt⟩
        · omega
        have hi : (k : Int) < 64 := by omega
        have hi0 : (0 : Int) ≤ (k : Int) := by omega
        have c0 : w.cell? ⟨b, off + k, none⟩ = some (.int .i64 (Z k)) := hpt k hlt
        have HA : Hid (rasB Z (k + 1) = inB (Z k) 0 999) := by show _ = _; rw [rasB_add, HB.out]; rfl
        have HN : Hid (inB (Z k) 0 999 = false → rasB Z 64 = false) := fun h => rasB_no hlt h
        clear hpt
        generalize hV : inB (Z k) 0 999 = V at *
        have HV : Hid (inB (Z k) 0 999 = V) := hV
        clear hV
        cases V
        · go_wp2_with (go_at_call 43; refine (l1In_any _ _ _ _).mono ?_; rintro e w' ⟨rfl, rfl⟩; rw [HV.out])
          go_ret
          exact ⟨ret_int (by rw [HC.out, HN.out trivial]; rfl), rfl⟩
        · go_wp2_with (go_at_call 43; refine (l1In_any _ _ _ _).mono ?_; rintro e w' ⟨rfl, rfl⟩; rw [HV.out])
          go_roundw
          case rel => exact ⟨k + 1, by omega, by go_num, HA.out, trivial⟩
          case measure => simp [intOf]; omega
      · have hke : k = 64 := by omega
        subst hke
        go_wp2
        go_ret
        exact ⟨ret_int (by rw [HC.out, HB.out]; rfl), rfl⟩
  · have HC : Hid (rasC n Z = 2) := by show _ = _; simp [rasC, h64]
    have h' : ((n : Int) == 64) = false := by
      have : (n : Int) ≠ 64 := by omega
      simpa using this
    go_enter Try.func32, Try.ntmps32
    go_wp2
    go_ret
    exact ⟨ret_int HC.out.symm, rfl⟩
theorem set3_atq {W : World} {r : Nat} {a b c : Value} (hT : There W r 3) :
    (((W.setCell ⟨r, 0, none⟩ a).setCell ⟨r, 1, none⟩ b).setCell ⟨r, 2, none⟩ c).cell? ⟨r, 0, none⟩ = some a ∧
    (((W.setCell ⟨r, 0, none⟩ a).setCell ⟨r, 1, none⟩ b).setCell ⟨r, 2, none⟩ c).cell? ⟨r, 1, none⟩ = some b ∧
    (((W.setCell ⟨r, 0, none⟩ a).setCell ⟨r, 1, none⟩ b).setCell ⟨r, 2, none⟩ c).cell? ⟨r, 2, none⟩ = some c := by
  obtain ⟨x0, h0⟩ := (hT 0 (by omega)).1
  obtain ⟨x1, h1⟩ := (hT 1 (by omega)).1
  obtain ⟨x2, h2⟩ := (hT 2 (by omega)).1
  have ne : ∀ i j : Nat, i ≠ j → (⟨r, i, none⟩ : Addr) ≠ ⟨r, j, none⟩ := fun i j hij h => hij (by injection h)
  refine ⟨?_, ?_, ?_⟩
  · rw [set1_other (ne 2 0 (by omega)), set1_other (ne 1 0 (by omega))]; exact set1_same h0
  · rw [set1_other (ne 2 1 (by omega))]; exact set1_same (by rw [set1_other (ne 0 1 (by omega))]; exact h1)
  · exact set1_same (by rw [set1_other (ne 1 2 (by omega)), set1_other (ne 0 2 (by omega))]; exact h2)
/-- x, halved k times. -/
def halv (x : Int) : Nat → Int
  | 0 => x
  | k + 1 => halv x k / 2
/-- The first ref is the second one, or lies above it. -/
def holdB (fz fx fy tz tx ty : Int) : Bool := decide (fz ≤ tz) && (halv tx (tz - fz).toNat == fx) && (halv ty (tz - fz).toNat == fy)
theorem refB_par {z x y : Int} (h : refB z x y = true) (hz : 0 < z) : refB (z - 1) (x / 2) (y / 2) = true := by
  obtain ⟨⟨x0, x1⟩, y0, y1⟩ := refB_in h
  rcases refB_zoom h with rfl | rfl | rfl | rfl
  · omega
  all_goals
    simp [lastI] at x1 y1
    simp [refB, zoomB, inB, lastI]
    omega
set_option maxHeartbeats 2000000 in
theorem holds_any (fz fx fy tz tx ty : Int) (w : World) (hf : refB fz fx fy = true) (ht : refB tz tx ty = true) :
    Calls Try.prog 28 #[refV fz fx fy, refV tz tx ty] w fun e w' => e = .returned (.bool (holdB fz fx fy tz tx ty)) ∧ Below w.heap.size w w' := by
  have HT : Hid (refB tz tx ty = true) := ht
  have HZ : Hid (0 ≤ fz ∧ fz ≤ 3) := (ref_bd hf).1
  have HZ' : Hid (0 ≤ tz ∧ tz ≤ 3) := (ref_bd ht).1
  clear hf ht
  go_enter Try.func28, Try.ntmps28
  go_wp2_with fail
  generalize hW : ((w.alloc _).alloc _ : World) = W
  have HB0 : Hid (Below w.heap.size w W) := by show Below _ _ _; subst hW; (repeat (first | exact Below.refl _ _ | assumption | refine Below.drew ?_ | refine bl_alloc ?_ _ | refine bl_then ?_ (by assumption) | refine Below.setCell ?_ (by first | omega | (simp; done) | (simp; omega)) _ | refine bl_store ?_ ?_ _ _))
  have c00 : ∀ W', Below W.heap.size W W' → W'.cell? ⟨w.heap.size, 0, none⟩ = some (.int .i64 fz) := fun W' h => by
    rw [h.cell (by subst hW; simp <;> omega)]; subst hW; simp [go_sem]
  have c01 : ∀ W', Below W.heap.size W W' → W'.cell? ⟨w.heap.size, 1, none⟩ = some (.int .i64 fx) := fun W' h => by
    rw [h.cell (by subst hW; simp <;> omega)]; subst hW; simp [go_sem]
  have c02 : ∀ W', Below W.heap.size W W' → W'.cell? ⟨w.heap.size, 2, none⟩ = some (.int .i64 fy) := fun W' h => by
    rw [h.cell (by subst hW; simp <;> omega)]; subst hW; simp [go_sem]
  have c10 : ∀ W', Below W.heap.size W W' → W'.cell? ⟨w.heap.size + 1, 0, none⟩ = some (.int .i64 tz) := fun W' h => by
    rw [h.cell (by subst hW; simp <;> omega)]; subst hW; simp [go_sem]
  have c11 : ∀ W', Below W.heap.size W W' → W'.cell? ⟨w.heap.size + 1, 1, none⟩ = some (.int .i64 tx) := fun W' h => by
    rw [h.cell (by subst hW; simp <;> omega)]; subst hW; simp [go_sem]
  have c12 : ∀ W', Below W.heap.size W W' → W'.cell? ⟨w.heap.size + 1, 2, none⟩ = some (.int .i64 ty) := fun W' h => by
    rw [h.cell (by subst hW; simp <;> omega)]; subst hW; simp [go_sem]
  have hT0 : There W (w.heap.size + 1) 3 := by
    subst hW
    have := there3r (w.alloc (.cells #[.int .i64 fz, .int .i64 fx, .int .i64 fy] 26)) (.int .i64 tz) (.int .i64 tx) (.int .i64 ty) 26
    simpa using this
  have hsz : w.heap.size + 2 = W.heap.size := by subst hW; simp
  clear hW
  have k0 := c10 W (Below.refl _ _)
  have k1 := c11 W (Below.refl _ _)
  have k2 := c12 W (Below.refl _ _)
  have c00' := c00
  go_loopw [] (fun wr => ∃ k : Nat, refB (tz - k) (halv tx k) (halv ty k) = true ∧ (k : Int) ≤ tz ∧ (k = 0 ∨ fz ≤ tz - k) ∧ wr.cell? ⟨w.heap.size + 1, 0, none⟩ = some (.int .i64 (tz - k)) ∧ wr.cell? ⟨w.heap.size + 1, 1, none⟩ = some (.int .i64 (halv tx k)) ∧ wr.cell? ⟨w.heap.size + 1, 2, none⟩ = some (.int .i64 (halv ty k)) ∧ There wr (w.heap.size + 1) 3 ∧ Below (w.heap.size + 1) W wr) (fun wr => match wr.cell? ⟨w.heap.size + 1, 0, none⟩ with | some v => (intOf v).toNat | none => 0)
  case atStart => exact ⟨0, by simpa [halv] using HT.out, by simpa using HZ'.out.1, .inl rfl, by simpa using k0, by simpa [halv] using k1, by simpa [halv] using k2, hT0, (Below.refl _ _)⟩
  case round =>
    obtain ⟨k, hr, hk, hkz, h0, h1, h2, hT, hB⟩ := hrel
    have hlw : w.heap.size + 1 < wr.heap.size := World.block_lt_of_cell? _ _ h0
    have e0 : ∀ W', Below wr.heap.size wr W' → W'.cell? ⟨w.heap.size, 0, none⟩ = some (.int .i64 fz) := fun W' h => by
      rw [h.cell (p := ⟨w.heap.size, 0, none⟩) (show w.heap.size < _ by omega), hB.cell (p := ⟨w.heap.size, 0, none⟩) (show w.heap.size < _ by omega)]; exact c00 W (Below.refl _ _)
    have e1 : ∀ W', Below wr.heap.size wr W' → W'.cell? ⟨w.heap.size, 1, none⟩ = some (.int .i64 fx) := fun W' h => by
      rw [h.cell (p := ⟨w.heap.size, 1, none⟩) (show w.heap.size < _ by omega), hB.cell (p := ⟨w.heap.size, 1, none⟩) (show w.heap.size < _ by omega)]; exact c01 W (Below.refl _ _)
    have e2 : ∀ W', Below wr.heap.size wr W' → W'.cell? ⟨w.heap.size, 2, none⟩ = some (.int .i64 fy) := fun W' h => by
      rw [h.cell (p := ⟨w.heap.size, 2, none⟩) (show w.heap.size < _ by omega), hB.cell (p := ⟨w.heap.size, 2, none⟩) (show w.heap.size < _ by omega)]; exact c02 W (Below.refl _ _)
    have f0 := e0 wr (Below.refl _ _)
    have f1 := e1 wr (Below.refl _ _)
    have f2 := e2 wr (Below.refl _ _)
    clear c00 c01 c02 c10 c11 c12 c00' k0 k1 k2 e0 e1 e2
    have HR : Hid (refB (tz - k) (halv tx k) (halv ty k) = true) := hr
    have HTr : Hid (There wr (w.heap.size + 1) 3) := hT
    have HB : Hid (Below (w.heap.size + 1) W wr) := hB
    have HD : Hid (fz < tz - k ∨ holdB fz fx fy tz tx ty = ((((tz - k) == fz) && (halv tx k == fx)) && (halv ty k == fy))) := by
      show _ ∨ _
      by_cases hgt : fz < tz - k
      · exact .inl hgt
      · right
        unfold holdB
        by_cases hle : fz ≤ tz
        · have hkk : tz - (k : Int) = fz := by omega
          have hkn : (tz - fz).toNat = k := by omega
          simp [hle, hkk, hkn]
        · have hk0 : k = 0 := by omega
          subst hk0
          have : ¬ (tz = fz) := by omega
          simp [hle, this]
    have HH : Hid (halv tx (k + 1) = halv tx k / 2 ∧ halv ty (k + 1) = halv ty k / 2) := ⟨rfl, rfl⟩
    have HK : Hid ((k : Int) ≤ tz) := hk
    generalize hX : halv tx k = X at *
    generalize hY : halv ty k = Y at *
    generalize hZ : tz - (k : Int) = Zz at *
    have HX : Hid (tz - (k : Int) = Zz ∧ halv tx k = X ∧ halv ty k = Y) := ⟨hZ, hX, hY⟩
    clear hX hY hZ hr hT hB hk
    by_cases hgt : fz < Zz
    · clear HD
      go_wp2_with fail
      refine (parent_any Zz X Y _ HR.out).mono ?_
      rintro e w2 ⟨rfl, hb2⟩
      have hT2 := HTr.out.below hb2
      have HT2 : Hid (There w2 (w.heap.size + 1) 3) := hT2
      have t0 := hT2.cell 0 (by omega)
      have t1 := hT2.cell 1 (by omega)
      have t2 := hT2.cell 2 (by omega)
      have u0 := (hT2 0 (by omega)).2
      have u1 := (hT2 1 (by omega)).2
      have u2 := (hT2 2 (by omega)).2
      have HB2 : Hid (Below (w.heap.size + 1) W w2) := HB.out.trans (hb2.mono (by omega))
      have h0' := bl_cellN hb2 h0
      clear hT2 hb2 h1 h2 f0 f1 f2
      go_wp2_with fail
      obtain ⟨q0, q1, q2⟩ := set3_atq (a := .int .i64 (Zz - 1)) (b := .int .i64 (X / 2)) (c := .int .i64 (Y / 2)) HT2.out
      go_roundw
      case rel =>
        obtain ⟨x1, x2, x3⟩ := HX.out
        obtain ⟨y1, y2⟩ := HH.out
        have hz0 := HZ.out
        have e1 : tz - ((k + 1 : Nat) : Int) = Zz - 1 := by omega
        refine ⟨k + 1, ?_, by omega, .inr (by omega), ?_, ?_, ?_, ((HT2.out.setN _ _).setN _ _).setN _ _, ((HB2.out.setCell (Nat.le_refl _) _).setCell (Nat.le_refl _) _).setCell (Nat.le_refl _) _⟩
        · rw [e1, y1, y2]; exact refB_par HR.out (by omega)
        · rw [e1]; exact q0
        · rw [y1]; exact q1
        · rw [y2]; exact q2
      case measure =>
        have hz0 := HZ.out
        rw [q0, h0]
        simp [intOf]
        omega
    · have hh : holdB fz fx fy tz tx ty = (((Zz == fz) && (X == fx)) && (Y == fy)) := by
        rcases HD.out with h | h
        · omega
        · exact h
      have HHd : Hid (holdB fz fx fy tz tx ty = (((Zz == fz) && (X == fx)) && (Y == fy))) := hh
      have HBw : Hid (Below w.heap.size w wr) := HB0.out.trans (HB.out.mono (by omega))
      clear hh HD HH
      go_wp2
      all_goals
        go_ret
        refine ⟨ret_bool ?_, HBw.out⟩
        refine Eq.symm (HHd.out.trans ?_)
        simp [*]
set_option maxHeartbeats 2000000 in
theorem l8Above_any (fz fx fy tz tx ty : Int) (w : World) (hf : refB fz fx fy = true) (ht : refB tz tx ty = true) :
    Calls Try.prog 34 #[refV fz fx fy, refV tz tx ty] w fun e w' => e = .returned (.bool (holdB fz fx fy tz tx ty)) ∧ Below w.heap.size w w' := by
  obtain ⟨hd, hhd⟩ : ∃ b, holdB fz fx fy tz tx ty = b := ⟨_, rfl⟩
  rw [hhd]
  have HHD : Hid (holdB fz fx fy tz tx ty = hd) := hhd
  clear hhd
  have HT : Hid (refB tz tx ty = true) := ht
  have HZ : Hid (0 ≤ fz ∧ fz ≤ 3) := (ref_bd hf).1
  have HZ' : Hid (0 ≤ tz ∧ tz ≤ 3) := (ref_bd ht).1
  clear hf ht
  go_enter Try.func34, Try.ntmps34
  go_wp2_with fail
  generalize hW : ((w.alloc _).alloc _ : World) = W
  have HB0 : Hid (Below w.heap.size w W) := by show Below _ _ _; subst hW; (repeat (first | exact Below.refl _ _ | assumption | refine Below.drew ?_ | refine bl_alloc ?_ _ | refine bl_then ?_ (by assumption) | refine Below.setCell ?_ (by first | omega | (simp; done) | (simp; omega)) _ | refine bl_store ?_ ?_ _ _))
  have c00 : ∀ W', Below W.heap.size W W' → W'.cell? ⟨w.heap.size, 0, none⟩ = some (.int .i64 fz) := fun W' h => by
    rw [h.cell (by subst hW; simp <;> omega)]; subst hW; simp [go_sem]
  have c01 : ∀ W', Below W.heap.size W W' → W'.cell? ⟨w.heap.size, 1, none⟩ = some (.int .i64 fx) := fun W' h => by
    rw [h.cell (by subst hW; simp <;> omega)]; subst hW; simp [go_sem]
  have c02 : ∀ W', Below W.heap.size W W' → W'.cell? ⟨w.heap.size, 2, none⟩ = some (.int .i64 fy) := fun W' h => by
    rw [h.cell (by subst hW; simp <;> omega)]; subst hW; simp [go_sem]
  have c10 : ∀ W', Below W.heap.size W W' → W'.cell? ⟨w.heap.size + 1, 0, none⟩ = some (.int .i64 tz) := fun W' h => by
    rw [h.cell (by subst hW; simp <;> omega)]; subst hW; simp [go_sem]
  have c11 : ∀ W', Below W.heap.size W W' → W'.cell? ⟨w.heap.size + 1, 1, none⟩ = some (.int .i64 tx) := fun W' h => by
    rw [h.cell (by subst hW; simp <;> omega)]; subst hW; simp [go_sem]
  have c12 : ∀ W', Below W.heap.size W W' → W'.cell? ⟨w.heap.size + 1, 2, none⟩ = some (.int .i64 ty) := fun W' h => by
    rw [h.cell (by subst hW; simp <;> omega)]; subst hW; simp [go_sem]
  have hT0 : There W (w.heap.size + 1) 3 := by
    subst hW
    have := there3r (w.alloc (.cells #[.int .i64 fz, .int .i64 fx, .int .i64 fy] 26)) (.int .i64 tz) (.int .i64 tx) (.int .i64 ty) 26
    simpa using this
  have hsz : w.heap.size + 2 = W.heap.size := by subst hW; simp
  clear hW
  have k0 := c10 W (Below.refl _ _)
  have k1 := c11 W (Below.refl _ _)
  have k2 := c12 W (Below.refl _ _)
  have c00' := c00
  go_loopw [] (fun wr => ∃ k : Nat, refB (tz - k) (halv tx k) (halv ty k) = true ∧ (k : Int) ≤ tz ∧ (k = 0 ∨ fz ≤ tz - k) ∧ wr.cell? ⟨w.heap.size + 1, 0, none⟩ = some (.int .i64 (tz - k)) ∧ wr.cell? ⟨w.heap.size + 1, 1, none⟩ = some (.int .i64 (halv tx k)) ∧ wr.cell? ⟨w.heap.size + 1, 2, none⟩ = some (.int .i64 (halv ty k)) ∧ There wr (w.heap.size + 1) 3 ∧ Below (w.heap.size + 1) W wr) (fun wr => match wr.cell? ⟨w.heap.size + 1, 0, none⟩ with | some v => (intOf v).toNat | none => 0)
  case atStart => exact ⟨0, by simpa [halv] using HT.out, by simpa using HZ'.out.1, .inl rfl, by simpa using k0, by simpa [halv] using k1, by simpa [halv] using k2, hT0, (Below.refl _ _)⟩
  case round =>
    obtain ⟨k, hr, hk, hkz, h0, h1, h2, hT, hB⟩ := hrel
    have hlw : w.heap.size + 1 < wr.heap.size := World.block_lt_of_cell? _ _ h0
    have e0 : ∀ W', Below wr.heap.size wr W' → W'.cell? ⟨w.heap.size, 0, none⟩ = some (.int .i64 fz) := fun W' h => by
      rw [h.cell (p := ⟨w.heap.size, 0, none⟩) (show w.heap.size < _ by omega), hB.cell (p := ⟨w.heap.size, 0, none⟩) (show w.heap.size < _ by omega)]; exact c00 W (Below.refl _ _)
    have e1 : ∀ W', Below wr.heap.size wr W' → W'.cell? ⟨w.heap.size, 1, none⟩ = some (.int .i64 fx) := fun W' h => by
      rw [h.cell (p := ⟨w.heap.size, 1, none⟩) (show w.heap.size < _ by omega), hB.cell (p := ⟨w.heap.size, 1, none⟩) (show w.heap.size < _ by omega)]; exact c01 W (Below.refl _ _)
    have e2 : ∀ W', Below wr.heap.size wr W' → W'.cell? ⟨w.heap.size, 2, none⟩ = some (.int .i64 fy) := fun W' h => by
      rw [h.cell (p := ⟨w.heap.size, 2, none⟩) (show w.heap.size < _ by omega), hB.cell (p := ⟨w.heap.size, 2, none⟩) (show w.heap.size < _ by omega)]; exact c02 W (Below.refl _ _)
    have f0 := e0 wr (Below.refl _ _)
    have f1 := e1 wr (Below.refl _ _)
    have f2 := e2 wr (Below.refl _ _)
    clear c00 c01 c02 c10 c11 c12 c00' k0 k1 k2 e0 e1 e2
    have HR : Hid (refB (tz - k) (halv tx k) (halv ty k) = true) := hr
    have HTr : Hid (There wr (w.heap.size + 1) 3) := hT
    have HB : Hid (Below (w.heap.size + 1) W wr) := hB
    have HD : Hid (fz < tz - k ∨ holdB fz fx fy tz tx ty = (((fz == (tz - k)) && (fx == halv tx k)) && (fy == halv ty k))) := by
      show _ ∨ _
      by_cases hgt : fz < tz - k
      · exact .inl hgt
      · right
        unfold holdB
        by_cases hle : fz ≤ tz
        · have hkk : tz - (k : Int) = fz := by omega
          have hkn : (tz - fz).toNat = k := by omega
          rw [hkk, hkn]; simp [hle, Bool.beq_comm (a := fx), Bool.beq_comm (a := fy)]
        · have hk0 : k = 0 := by omega
          subst hk0
          have : ¬ (fz = tz) := by omega
          simp [hle, this]
    have HH : Hid (halv tx (k + 1) = halv tx k / 2 ∧ halv ty (k + 1) = halv ty k / 2) := ⟨rfl, rfl⟩
    have HK : Hid ((k : Int) ≤ tz) := hk
    generalize hX : halv tx k = X at *
    generalize hY : halv ty k = Y at *
    generalize hZ : tz - (k : Int) = Zz at *
    have HX : Hid (tz - (k : Int) = Zz ∧ halv tx k = X ∧ halv ty k = Y) := ⟨hZ, hX, hY⟩
    clear hX hY hZ hr hT hB hk
    by_cases hgt : fz < Zz
    · clear HD
      go_wp2_with fail
      refine (l7Parent_any Zz X Y _ HR.out).mono ?_
      rintro e w2 ⟨rfl, hb2⟩
      have hT2 := HTr.out.below hb2
      have HT2 : Hid (There w2 (w.heap.size + 1) 3) := hT2
      have t0 := hT2.cell 0 (by omega)
      have t1 := hT2.cell 1 (by omega)
      have t2 := hT2.cell 2 (by omega)
      have u0 := (hT2 0 (by omega)).2
      have u1 := (hT2 1 (by omega)).2
      have u2 := (hT2 2 (by omega)).2
      have HB2 : Hid (Below (w.heap.size + 1) W w2) := HB.out.trans (hb2.mono (by omega))
      have h0' := bl_cellN hb2 h0
      clear hT2 hb2 h1 h2 f0 f1 f2
      go_wp2_with fail
      obtain ⟨q0, q1, q2⟩ := set3_atq (a := .int .i64 (Zz - 1)) (b := .int .i64 (X / 2)) (c := .int .i64 (Y / 2)) HT2.out
      go_roundw
      case rel =>
        obtain ⟨x1, x2, x3⟩ := HX.out
        obtain ⟨y1, y2⟩ := HH.out
        have hz0 := HZ.out
        have e1 : tz - ((k + 1 : Nat) : Int) = Zz - 1 := by omega
        refine ⟨k + 1, ?_, by omega, .inr (by omega), ?_, ?_, ?_, ((HT2.out.setN _ _).setN _ _).setN _ _, ((HB2.out.setCell (Nat.le_refl _) _).setCell (Nat.le_refl _) _).setCell (Nat.le_refl _) _⟩
        · rw [e1, y1, y2]; exact refB_par HR.out (by omega)
        · rw [e1]; exact q0
        · rw [y1]; exact q1
        · rw [y2]; exact q2
      case measure =>
        have hz0 := HZ.out
        rw [q0, h0]
        simp [intOf]
        omega
    · have hh : holdB fz fx fy tz tx ty = (((fz == Zz) && (fx == X)) && (fy == Y)) := by
        rcases HD.out with h | h
        · omega
        · exact h
      have HHd : Hid (hd = (((fz == Zz) && (fx == X)) && (fy == Y))) := HHD.out.symm.trans hh
      have HBw : Hid (Below w.heap.size w wr) := HB0.out.trans (HB.out.mono (by omega))
      clear hh HD HH
      go_wp2
      all_goals
        go_ret
        refine ⟨ret_bool ?_, HBw.out⟩
        refine Eq.symm (HHd.out.trans ?_)
        simp [*]
end Go.Proofs.Ytjkmjkfakolpfaa
