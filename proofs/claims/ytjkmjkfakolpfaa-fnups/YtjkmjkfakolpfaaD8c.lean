/- What rasters for themselves and by two zooms are: plain facts; numbers are held against numbers. -/
import Derived.Test.YtjkmjkfakolpfaaU8d
namespace Go.Proofs.Ytjkmjkfakolpfaa
open Go.RowKit
set_option linter.unusedSimpArgs false
set_option linter.unusedVariables false
set_option maxRecDepth 100000

theorem rows_at (G : Int → Int → Int) (x y : Int) {i : Nat} (hi : i < 64) : nz (rowsL G x y 8 8) i = G (x + ((i % 8 : Nat) : Int)) (y + ((i / 8 : Nat) : Int)) := by
  rw [rowsL_64]
  unfold nz
  rw [List.getD_eq_getElem?_getD, List.getElem?_map, List.getElem?_range hi]
  rfl
theorem halv_half (x : Int) : ∀ k, halv (x / 2) k = halv x (k + 1)
  | 0 => rfl
  | k + 1 => by
    show halv (x / 2) k / 2 = halv x (k + 1) / 2
    rw [halv_half x k]
theorem IsNs.congr {w : World} {a : Option Addr} {n : Nat} {Z Z' : Nat → Int} (h : IsNs w a n Z) (he : ∀ i, i < n → Z i = Z' i) : IsNs w a n Z' := by
  rcases h with h | ⟨b, off, e, hb, hz⟩
  · exact .inl h
  · exact .inr ⟨b, off, e, hb, fun i hi => by rw [← he i hi]; exact hz i hi⟩
theorem up_same (fx fy : Int) (Z : Nat → Int) {i : Nat} (hi : i < 64) : nz (rowsL (upI 0 fx fy Z) (fx * 8) (fy * 8) 8 8) i = Z i := by
  rw [rows_at _ _ _ hi]
  unfold upI
  congr 1
  simp only [halv]
  omega
theorem up_two {k : Nat} {fx fy tx ty : Int} (Z : Nat → Int) {i : Nat} (hi : i < 64) :
    nz (rowsL (upI 1 (tx / 2) (ty / 2) (nz (rowsL (upI k fx fy Z) (tx / 2 * 8) (ty / 2 * 8) 8 8))) (tx * 8) (ty * 8) 8 8) i = nz (rowsL (upI (k + 1) fx fy Z) (tx * 8) (ty * 8) 8 8) i := by
  rw [rows_at _ _ _ hi, rows_at _ _ _ hi]
  generalize hX : tx * 8 + ((i % 8 : Nat) : Int) = X
  generalize hY : ty * 8 + ((i / 8 : Nat) : Int) = Y
  have hx := up_in (t := tx) (f := tx / 2) (c := i % 8) (k := 1) (by omega) (by omega) rfl
  have hy := up_in (t := ty) (f := ty / 2) (c := i / 8) (k := 1) (by omega) (by omega) rfl
  rw [hX] at hx
  rw [hY] at hy
  show nz _ ((halv Y 1 - ty / 2 * 8) * 8 + (halv X 1 - tx / 2 * 8)).toNat = _
  have e1 : halv X 1 = X / 2 := rfl
  have e2 : halv Y 1 = Y / 2 := rfl
  rw [e1] at hx ⊢
  rw [e2] at hy ⊢
  generalize hj : ((Y / 2 - ty / 2 * 8) * 8 + (X / 2 - tx / 2 * 8)).toNat = j
  have hj64 : j < 64 := by omega
  rw [rows_at _ _ _ hj64]
  have e3 : tx / 2 * 8 + ((j % 8 : Nat) : Int) = X / 2 := by omega
  have e4 : ty / 2 * 8 + ((j / 8 : Nat) : Int) = Y / 2 := by omega
  rw [e3, e4]
  unfold upI
  rw [halv_half, halv_half]
theorem up_has {k : Nat} {fx fy tx ty : Int} (Z : Nat → Int) {i : Nat} (hi : i < 64) (hk : k ≤ 3) (hx : halv tx k = fx) (hy : halv ty k = fy) : ∃ j, j < 64 ∧ nz (rowsL (upI k fx fy Z) (tx * 8) (ty * 8) 8 8) i = Z j := by
  rw [rows_at _ _ _ hi]
  have h1 := up_in (t := tx) (f := fx) (c := i % 8) (k := k) hk (by omega) hx
  have h2 := up_in (t := ty) (f := fy) (c := i / 8) (k := k) hk (by omega) hy
  exact ⟨_, by omega, rfl⟩
theorem rasB_all {Z : Nat → Int} {n : Nat} (h : ∀ i, i < n → inB (Z i) 0 999 = true) : rasB Z n = true := by
  simp [rasB]
  exact h
/-- Where UpRaster tells no code. -/
theorem upC_zero {n : Nat} {Z : Nat → Int} {fz fx fy tz tx ty : Int} (h : upC n Z fz fx fy tz tx ty = 0) : n = 64 ∧ rasB Z 64 = true ∧ refB fz fx fy = true ∧ refB tz tx ty = true ∧ holdB fz fx fy tz tx ty = true := by
  unfold upC at h
  split at h
  · rename_i h1
    split at h
    · rename_i h2
      split at h
      · rename_i h3
        split at h
        · rename_i h4
          refine ⟨?_, ?_, ?_, ?_, h4⟩
          · rcases rasC_cases n Z with ⟨h, _⟩ | ⟨h, _⟩ | ⟨_, h⟩
            · omega
            · omega
            · exact h.1
          · rcases rasC_cases n Z with ⟨h, _⟩ | ⟨h, _⟩ | ⟨_, h⟩
            · omega
            · omega
            · exact h.2
          · rcases refC_cases fz fx fy with ⟨_, h⟩ | ⟨h, _⟩
            · exact h
            · omega
          · rcases refC_cases tz tx ty with ⟨_, h⟩ | ⟨h, _⟩
            · exact h
            · omega
        · omega
      · omega
    · omega
  · rename_i h1
    exact absurd h h1
theorem upC_ok {Z : Nat → Int} {fz fx fy tz tx ty : Int} (h1 : rasB Z 64 = true) (h2 : refB fz fx fy = true) (h3 : refB tz tx ty = true) (h4 : holdB fz fx fy tz tx ty = true) : upC 64 Z fz fx fy tz tx ty = 0 := by
  simp [upC, rasC, refC, h1, h2, h3, h4]
theorem holdB_self (z x y : Int) : holdB z x y z x y = true := by simp [holdB, halv]
/-- What holds of a ref that lies in another. -/
theorem holdB_facts {fz fx fy tz tx ty : Int} (h : holdB fz fx fy tz tx ty = true) : fz ≤ tz ∧ halv tx (tz - fz).toNat = fx ∧ halv ty (tz - fz).toNat = fy := by
  simp [holdB] at h
  exact ⟨h.1.1, h.1.2, h.2⟩
theorem holdB_mk {fz fx fy tz tx ty : Int} (h1 : fz ≤ tz) (h2 : halv tx (tz - fz).toNat = fx) (h3 : halv ty (tz - fz).toNat = fy) : holdB fz fx fy tz tx ty = true := by
  simp [holdB, h1, h2, h3]
set_option maxHeartbeats 1000000 in
theorem lwNums_any (a c : Option Addr) (n capa capc : Nat) (Z : Nat → Int) (w : World) (hp : IsNs w a n Z) (hq : IsNs w c n Z) (hmax : n ≤ 1048576) :
    Calls Try.prog 10 #[.slice a n capa, .slice c n capc] w fun e w' => e = .returned (.bool true) ∧ Below w.heap.size w w' := by
  have HP : Hid (IsNs w a n Z) := hp
  have HQ : Hid (IsNs w c n Z) := hq
  clear hp hq
  go_enter Try.func10, Try.ntmps10
  go_wp2
  go_loopw [5] (fun i wr => ∃ k : Nat, k ≤ n ∧ i = .int .i64 k ∧ Below w.heap.size w wr) (fun i _ => n - (intOf i).toNat)
  case atStart => exact ⟨0, by omega, rfl, Below.refl _ _⟩
  case round =>
    obtain ⟨k, hk, rfl, hB⟩ := hrel
    by_cases hlt : k < n
    · rcases HP.out with h0 | ⟨b, off, rfl, hbl, hpt⟩
      · omega
      rcases HQ.out with h0 | ⟨d, offd, rfl, hdl, hqt⟩
      · omega
      have c0 : ∀ W', Below wr.heap.size wr W' → W'.cell? ⟨b, off + k, none⟩ = some (.int .i64 (Z k)) := fun W' h => by
        rw [h.cell (Nat.lt_of_lt_of_le hbl hB.size)]; exact (hB.cell (p := ⟨b, off + k, none⟩) hbl).trans (hpt k hlt)
      have e0 : ∀ W', Below wr.heap.size wr W' → W'.cell? ⟨d, offd + k, none⟩ = some (.int .i64 (Z k)) := fun W' h => by
        rw [h.cell (Nat.lt_of_lt_of_le hdl hB.size)]; exact (hB.cell (p := ⟨d, offd + k, none⟩) hdl).trans (hqt k hlt)
      have HB : Hid (Below w.heap.size w wr) := hB
      clear hB hpt hqt
      have hi : (k : Int) < (n : Int) := by omega
      have hi0 : (0 : Int) ≤ (k : Int) := by omega
      go_wp2
      go_region_held3 (fun W' => Below wr.heap.size wr W') ((repeat (first | exact Below.refl _ _ | assumption | refine Below.drew ?_ | refine bl_alloc ?_ _ | refine bl_then ?_ (by assumption) | refine Below.setCell ?_ (by first | omega | (simp; done) | (simp; omega)) _ | refine bl_store ?_ ?_ _ _))) (fail)
      go_wp2
      go_roundw
      case rel => exact ⟨k + 1, by omega, by go_num, bl_then HB.out (by assumption)⟩
      case measure => simp [intOf]; omega
    · go_wp2
      go_ret
      exact ⟨rfl, hB⟩
set_option maxHeartbeats 1000000 in
theorem lwHas_any (a : Option Addr) (n cap j : Nat) (Z : Nat → Int) (w : World) (hp : IsNs w a n Z) (hj : j < n) (hmax : n ≤ 1048576) :
    Calls Try.prog 11 #[.slice a n cap, .int .i64 (Z j)] w fun e w' => e = .returned (.bool true) ∧ w = w' := by
  have HP : Hid (IsNs w a n Z) := hp
  clear hp
  go_enter Try.func11, Try.ntmps11
  go_wp2
  go_loopw [5] (fun i wr => ∃ k : Nat, k ≤ j ∧ i = .int .i64 k ∧ w = wr) (fun i _ => n - (intOf i).toNat)
  case atStart => exact ⟨0, by omega, rfl, rfl⟩
  case round =>
    obtain ⟨k, hk, rfl, rfl⟩ := hrel
    rcases HP.out with h0 | ⟨b, off, rfl, hbl, hpt⟩
    · omega
    have c0 := hpt k (by omega)
    have hi : (k : Int) < (n : Int) := by omega
    have hi0 : (0 : Int) ≤ (k : Int) := by omega
    clear hpt
    by_cases he : Z k = Z j
    · rw [he] at c0
      generalize Z j = x at *
      go_wp2
      go_ret
      exact ⟨rfl, rfl⟩
    · have hkj : k ≠ j := fun e => he (by rw [e])
      have he' : (Z k == Z j) = false := by simpa using he
      generalize Z k = y at *
      generalize Z j = x at *
      go_wp2
      go_roundw
      case rel => exact ⟨k + 1, by omega, by go_num, trivial⟩
      case measure => simp [intOf]; omega
end Go.Proofs.Ytjkmjkfakolpfaa
