/- The raster of a tile as far as that of one above it has it: the model. -/
import Derived.Test.YtjkmjkfakolpfaaU8c
import Derived.Test.YtjkmjkfakolpfaaUntil
namespace Go.Proofs.Ytjkmjkfakolpfaa
open Go.RowKit
set_option linter.unusedSimpArgs false
set_option linter.unusedVariables false
set_option maxRecDepth 100000

theorem ownsRow_succ8 {w : World} {base : Nat} {t : TypeId} {s : Nat} {v : Value} {n : Nat} {l : List Value} (h : w.ownsRow base t s v (n + 1) l) : ∃ a c, v = .slice a (n + 1) c := by
  obtain ⟨_, h2 | ⟨g, cp, cur, hv, _⟩⟩ := h
  · exact absurd h2.2 (by omega)
  · exact ⟨_, _, hv⟩
/-- The rows of a raster as one row. -/
theorem rowsL_64 (G : Int → Int → Int) (x y : Int) : rowsL G x y 8 8 = (List.range 64).map fun (k : Nat) => G (x + ((k % 8 : Nat) : Int)) (y + ((k / 8 : Nat) : Int)) := rfl
def upK (G : Int → Int → Int) (x y : Int) (k : Nat) : List Int := (List.range k).map fun (k : Nat) => G (x + ((k % 8 : Nat) : Int)) (y + ((k / 8 : Nat) : Int))
theorem upK_add (G : Int → Int → Int) (x y : Int) (k : Nat) : upK G x y (k + 1) = upK G x y k ++ [G (x + ((k % 8 : Nat) : Int)) (y + ((k / 8 : Nat) : Int))] := by simp [upK, List.range_succ]
theorem upK_len (G : Int → Int → Int) (x y : Int) (k : Nat) : (upK G x y k).length = k := by simp [upK]
set_option maxHeartbeats 2000000 in
theorem l8Up_any (b off cap k : Nat) (fz fx fy tz x y : Int) (Z : Nat → Int) (w : World) (hk : k ≤ 3) (htz : tz - fz = (k : Int)) (hfz : 0 ≤ fz ∧ fz ≤ 3)
    (hz : NsAt w b off 64 Z) (hbl : b < w.heap.size) (hfx : 0 ≤ fx ∧ fx ≤ 7) (hfy : 0 ≤ fy ∧ fy ≤ 7) (hx : 0 ≤ x ∧ x ≤ 1000) (hy : 0 ≤ y ∧ y ≤ 1000)
    (hi : 0 ≤ halv x k - fx * 8 ∧ halv x k - fx * 8 ≤ 7) (hj : 0 ≤ halv y k - fy * 8 ∧ halv y k - fy * 8 ≤ 7) :
    Calls Try.prog 35 #[.slice (some ⟨b, off, none⟩) 64 cap, refV fz fx fy, .int .i64 tz, .int .i64 x, .int .i64 y] w fun e w' => e = .returned (.int .i64 (upI k fx fy Z x y)) ∧ Below w.heap.size w w' := by
  obtain ⟨xi, hxi⟩ : ∃ i : Int, halv x k - fx * 8 = i := ⟨_, rfl⟩
  obtain ⟨yi, hyi⟩ : ∃ i : Int, halv y k - fy * 8 = i := ⟨_, rfl⟩
  have HU : Hid (upI k fx fy Z x y = Z (yi * 8 + xi).toNat) := by show _ = _; unfold upI; rw [hxi, hyi]
  rw [hxi] at hi
  rw [hyi] at hj
  have e1 : x / 2 ^ k - fx * 8 = xi := by rw [← halv_pow _ hk]; exact hxi
  have e2 : y / 2 ^ k - fy * 8 = yi := by rw [← halv_pow _ hk]; exact hyi
  obtain ⟨xk, hxk⟩ : ∃ i : Int, x / 2 ^ k = i := ⟨_, rfl⟩
  obtain ⟨yk, hyk⟩ : ∃ i : Int, y / 2 ^ k = i := ⟨_, rfl⟩
  rw [hxk] at e1
  rw [hyk] at e2
  have kk : w.cell? ⟨b, off + (yi * 8 + xi).toNat, none⟩ = some (.int .i64 (Z (yi * 8 + xi).toNat)) := hz _ (by omega)
  have hk0 : (0 : Int) ≤ (k : Int) := by omega
  have hk1 : (k : Int) ≤ 64 := by omega
  have s0 : IntKind.i64.wrap xi = xi := IntWalk.i64_in _ (by omega)
  have s1 : IntKind.i64.wrap yi = yi := IntWalk.i64_in _ (by omega)
  have m0 : IntKind.i64.wrap (fx * 8) = fx * 8 := IntWalk.i64_in _ (by omega)
  have m1 : IntKind.i64.wrap (fy * 8) = fy * 8 := IntWalk.i64_in _ (by omega)
  have hix : (0 : Int) ≤ yi * 8 + xi := by omega
  have hix' : yi * 8 + xi < 64 := by omega
  clear hxi hyi hz
  go_enter Try.func35, Try.ntmps35
  go_wp2
  go_ret
  exact ⟨ret_int HU.out.symm, by (repeat (first | exact Below.refl _ _ | assumption | refine Below.drew ?_ | refine bl_alloc ?_ _ | refine bl_then ?_ (by assumption) | refine Below.setCell ?_ (by first | omega | (simp; done) | (simp; omega)) _ | refine bl_store ?_ ?_ _ _))⟩
set_option maxHeartbeats 8000000 in
theorem spec_UpRaster_any (a : Option Addr) (n cap : Nat) (Z : Nat → Int) (fz fx fy tz tx ty : Int) (w : World) (hp : IsNs w a n Z) (hn : n ≤ 1048576) :
    Calls Try.prog 8 #[.slice a n cap, refV fz fx fy, refV tz tx ty] w fun e w' => ∃ v, e = .returned (.agg #[.int .i64 (upC n Z fz fx fy tz tx ty), v]) ∧ OwnN w' w.heap.size v (upL n Z fz fx fy tz tx ty).length (nz (upL n Z fz fx fy tz tx ty)) ∧ Below w.heap.size w w' := by
  obtain ⟨ii, hi, hz0, hz1, hz2⟩ := info_parts info_n64
  have HP : Hid (IsNs w a n Z) := hp
  clear hp
  have HC : Hid (upC n Z fz fx fy tz tx ty = if rasC n Z = 0 then (if refC fz fx fy = 0 then (if refC tz tx ty = 0 then (if holdB fz fx fy tz tx ty = true then 0 else 1) else 3) else 3) else rasC n Z) := rfl
  have HN : Hid (upC n Z fz fx fy tz tx ty ≠ 0 → upL n Z fz fx fy tz tx ty = []) := fun h => by unfold upL; rw [if_neg h]
  go_enter Try.func8, Try.ntmps8
  go_wp2_with fail
  generalize hW : (((w.alloc _).alloc _).alloc _ : World) = W
  have HB0 : Hid (Below w.heap.size w W) := by show Below _ _ _; subst hW; (repeat (first | exact Below.refl _ _ | assumption | refine Below.drew ?_ | refine bl_alloc ?_ _ | refine bl_then ?_ (by assumption) | refine Below.setCell ?_ (by first | omega | (simp; done) | (simp; omega)) _ | refine bl_store ?_ ?_ _ _))
  have hsz : W.heap.size = w.heap.size + 3 := by subst hW; simp
  have HT : Hid (There W (w.heap.size + 2) 2) := by
    show There _ _ _
    subst hW
    have := there2u ((w.alloc (.cells #[.int .i64 fz, .int .i64 fx, .int .i64 fy] 26)).alloc (.cells #[.int .i64 tz, .int .i64 tx, .int .i64 ty] 26)) (.int .i64 0) (.slice none 0 0) 30
    simpa using this
  have f0 : ∀ W', Below W.heap.size W W' → W'.cell? ⟨w.heap.size, 0, none⟩ = some (.int .i64 fz) := fun W' h => by
    rw [h.cell (by rw [hsz]; simp <;> omega)]; subst hW; simp [go_sem]
  have f1 : ∀ W', Below W.heap.size W W' → W'.cell? ⟨w.heap.size, 1, none⟩ = some (.int .i64 fx) := fun W' h => by
    rw [h.cell (by rw [hsz]; simp <;> omega)]; subst hW; simp [go_sem]
  have f2 : ∀ W', Below W.heap.size W W' → W'.cell? ⟨w.heap.size, 2, none⟩ = some (.int .i64 fy) := fun W' h => by
    rw [h.cell (by rw [hsz]; simp <;> omega)]; subst hW; simp [go_sem]
  have t0 : ∀ W', Below W.heap.size W W' → W'.cell? ⟨w.heap.size + 1, 0, none⟩ = some (.int .i64 tz) := fun W' h => by
    rw [h.cell (by rw [hsz]; simp <;> omega)]; subst hW; simp [go_sem]
  have t1 : ∀ W', Below W.heap.size W W' → W'.cell? ⟨w.heap.size + 1, 1, none⟩ = some (.int .i64 tx) := fun W' h => by
    rw [h.cell (by rw [hsz]; simp <;> omega)]; subst hW; simp [go_sem]
  have t2 : ∀ W', Below W.heap.size W W' → W'.cell? ⟨w.heap.size + 1, 2, none⟩ = some (.int .i64 ty) := fun W' h => by
    rw [h.cell (by rw [hsz]; simp <;> omega)]; subst hW; simp [go_sem]
  clear hW
  have HSZ : Hid (W.heap.size = w.heap.size + 3) := hsz
  clear hsz
  have HPW : Hid (IsNs W a n Z) := HP.out.below HB0.out
  have hT0 := HT.out
  have r0 := hT0.cell 0 (by omega)
  have r1 := hT0.cell 1 (by omega)
  have u0 := (hT0 0 (by omega)).2
  have u1 := (hT0 1 (by omega)).2
  clear hT0
  refine (l8Ids_any a n cap Z _ HPW.out hn).mono ?_
  rintro e w1 ⟨rfl, rfl⟩
  by_cases hk0 : rasC n Z = 0
  · have hr : n = 64 := by
      rcases rasC_cases n Z with ⟨h, _⟩ | ⟨h, _⟩ | ⟨_, h⟩
      · omega
      · omega
      · exact h.1
    subst hr
    simp only [hk0]
    have HC1 : Hid (upC 64 Z fz fx fy tz tx ty = if refC fz fx fy = 0 then (if refC tz tx ty = 0 then (if holdB fz fx fy tz tx ty = true then 0 else 1) else 3) else 3) := by
      show _ = _
      rw [HC.out, if_pos hk0]
    clear HC hk0
    clear r0 r1 u0 u1
    have g0 := f0 _ (Below.refl _ _)
    have g1 := f1 _ (Below.refl _ _)
    have g2 := f2 _ (Below.refl _ _)
    have h0 := t0 _ (Below.refl _ _)
    have h1 := t1 _ (Below.refl _ _)
    have h2 := t2 _ (Below.refl _ _)
    go_wp2_with fail
    refine (l7Fault_any fz fx fy _).mono ?_
    rintro e w2 ⟨rfl, hb2⟩
    have g0' := f0 _ hb2
    have g1' := f1 _ hb2
    have g2' := f2 _ hb2
    have h0' := t0 _ hb2
    have h1' := t1 _ hb2
    have h2' := t2 _ hb2
    clear g0 g1 g2 h0 h1 h2
    rcases refC_cases fz fx fy with ⟨hcf, hf⟩ | ⟨hcf, hf⟩
    · rw [hcf]
      have HF : Hid (refB fz fx fy = true) := hf
      have HCF : Hid (refC fz fx fy = 0) := hcf
      clear hf hcf
      go_wp2_with fail
      refine (l7Fault_any tz tx ty _).mono ?_
      rintro e w3 ⟨rfl, hb3⟩
      have hB3 := bl_then hb2 hb3
      have g0 := f0 _ hB3
      have g1 := f1 _ hB3
      have g2 := f2 _ hB3
      have h0 := t0 _ hB3
      have h1 := t1 _ hB3
      have h2 := t2 _ hB3
      clear g0' g1' g2' h0' h1' h2' hb2 hb3
      rcases refC_cases tz tx ty with ⟨hct, ht⟩ | ⟨hct, ht⟩
      · rw [hct]
        have HTo : Hid (refB tz tx ty = true) := ht
        have HC2 : Hid (upC 64 Z fz fx fy tz tx ty = if holdB fz fx fy tz tx ty = true then 0 else 1) := by
          show _ = _
          rw [HC1.out, if_pos HCF.out, if_pos hct]
        clear ht hct HC1 HCF
        go_wp2_with fail
        refine (l8Above_any fz fx fy tz tx ty _ HF.out HTo.out).mono ?_
        rintro e w4 ⟨rfl, hb4⟩
        have hB4 := bl_then hB3 hb4
        have g0' := f0 _ hB4
        have g1' := f1 _ hB4
        have g2' := f2 _ hB4
        have h0' := t0 _ hB4
        have h1' := t1 _ hB4
        have h2' := t2 _ hB4
        clear g0 g1 g2 h0 h1 h2 hB3 hb4
        cases hH : holdB fz fx fy tz tx ty
        · have HQ : Hid (upC 64 Z fz fx fy tz tx ty = 1) := by show _ = _; rw [HC2.out, hH]; rfl
          have hTx := HT.out.below hB4
          have r0 := hTx.cell 0 (by omega)
          have r1 := hTx.cell 1 (by omega)
          have u0 := (hTx 0 (by omega)).2
          have u1 := (hTx 1 (by omega)).2
          clear hTx
          go_wp2_with fail
          obtain ⟨q0, q1⟩ := set2_at (u := .int .i64 1) (v := .slice none 0 0) (show (0 : Nat) ≠ 1 by omega) (by rw [r0]; rfl) (by rw [r1]; rfl)
          refine bodyPost_ret (v := .agg #[.int .i64 1, .slice none 0 0]) (by simp [results, Try.results8, go_sem, q0, q1]) rfl ⟨.slice none 0 0, by rw [HQ.out], by rw [HN.out (by rw [HQ.out]; omega)]; exact OwnN.nil _ _ _, ?_⟩
          have HB := bl_then HB0.out hB4
          (repeat (first | exact Below.refl _ _ | assumption | refine Below.drew ?_ | refine bl_alloc ?_ _ | refine bl_then ?_ (by assumption) | refine Below.setCell ?_ (by first | omega | (simp; done) | (simp; omega)) _ | refine bl_store ?_ ?_ _ _))
        · have HQ : Hid (upC 64 Z fz fx fy tz tx ty = 0) := by show _ = _; rw [HC2.out, hH]; rfl
          have HH : Hid (holdB fz fx fy tz tx ty = true) := hH
          clear hH HC2 HN
          obtain ⟨⟨fz0, fz1⟩, ⟨fx0, fx1⟩, fy0, fy1⟩ := ref_bd HF.out
          obtain ⟨⟨tz0, tz1⟩, ⟨tx0, tx1⟩, ty0, ty1⟩ := ref_bd HTo.out
          obtain ⟨k, hkz⟩ : ∃ k : Nat, (tz - fz).toNat = k := ⟨_, rfl⟩
          have hle : fz ≤ tz := by
            have := HH.out
            simp [holdB] at this
            exact this.1.1
          have hkk : tz - fz = (k : Int) := by omega
          have hk3 : k ≤ 3 := by omega
          have hhx : halv tx k = fx ∧ halv ty k = fy := by
            have := HH.out
            simp [holdB, hkz] at this
            exact ⟨this.1.2, this.2⟩
          have HL : Hid (upL 64 Z fz fx fy tz tx ty = upK (upI k fx fy Z) (tx * 8) (ty * 8) 64) := by show _ = _; unfold upL; rw [if_pos HQ.out, hkz, rowsL_64]; rfl
          have HHX : Hid (halv tx k = fx ∧ halv ty k = fy) := hhx
          have HKK : Hid (tz - fz = (k : Int)) := hkk
          clear hhx hkz hkk
          rcases HPW.out with hx0 | ⟨b, off, rfl, hbl, hzs⟩
          · omega
          have HZS : Hid (NsAt W b off 64 Z) := hzs
          have HZ1 : Hid (b < w.heap.size) := by
            show b < _
            rcases HP.out with hx | ⟨b', off', e', hl', _⟩
            · omega
            · injection e' with e'
              injection e' with e1 e2
              subst e1
              exact hl'
          have HUP : Hid (∀ W' (j : Nat), Below W.heap.size W W' → j < 64 → Calls Try.prog 35 #[.slice (some ⟨b, off, none⟩) 64 cap, refV fz fx fy, .int .i64 tz, .int .i64 (tx * 8 + ((j % 8 : Nat) : Int)), .int .i64 (ty * 8 + ((j / 8 : Nat) : Int))] W' fun e w' => e = .returned (.int .i64 (upI k fx fy Z (tx * 8 + ((j % 8 : Nat) : Int)) (ty * 8 + ((j / 8 : Nat) : Int)))) ∧ Below W'.heap.size W' w') := fun W' j hb hj =>
            l8Up_any b off cap k fz fx fy tz _ _ Z W' hk3 HKK.out ⟨fz0, fz1⟩ (HZS.out.below hb hbl) (Nat.lt_of_lt_of_le hbl hb.size) ⟨fx0, fx1⟩ ⟨fy0, fy1⟩ (by omega) (by omega) (up_in hk3 (by omega) HHX.out.1) (up_in hk3 (by omega) HHX.out.2)
          clear hzs
          go_wp2_with fail
          generalize hV5 : (w4.alloc _ : World) = W5
          have hb5 : Below w4.heap.size w4 W5 := by subst hV5; (repeat (first | exact Below.refl _ _ | assumption | refine Below.drew ?_ | refine bl_alloc ?_ _ | refine bl_then ?_ (by assumption) | refine Below.setCell ?_ (by first | omega | (simp; done) | (simp; omega)) _ | refine bl_store ?_ ?_ _ _))
          have hs5 : W5.heap.size = w4.heap.size + 1 := by subst hV5; simp
          have HT5 : Hid (There W5 w4.heap.size 2) := by
            show There _ _ _
            subst hV5
            exact there2u w4 (.int .i64 0) (.slice none 0 0) 30
          have p0 : W5.cell? ⟨w4.heap.size, 0, none⟩ = some (.int .i64 0) := by subst hV5; simp [go_sem]
          have p1 : W5.cell? ⟨w4.heap.size, 1, none⟩ = some (.slice none 0 0) := by subst hV5; simp [go_sem]
          clear hV5
          have HS5 : Hid (W5.heap.size = w4.heap.size + 1) := hs5
          have hle4 : w.heap.size + 2 < w4.heap.size := by have := hB4.size; have := HSZ.out; omega
          have hB5 := bl_then hB4 hb5
          clear hs5 g0' g1' g2' h0' h1' h2'
          go_loopw [9] (fun j wr => ∃ (i : Nat) (v : Value), i ≤ 64 ∧ j = .int .i64 (i : Int) ∧ RowN W5.heap.size wr v (upK (upI k fx fy Z) (tx * 8) (ty * 8) i) ∧ wr.cell? ⟨w4.heap.size, 0, none⟩ = some (.int .i64 0) ∧ wr.cell? ⟨w4.heap.size, 1, none⟩ = some v ∧ There wr w4.heap.size 2 ∧ Below w4.heap.size w4 wr ∧ W5.heap.size ≤ wr.heap.size) (fun j _ => 64 - (intOf j).toNat)
          case atStart => exact ⟨0, .slice none 0 0, by omega, rfl, RowN.no _ _, p0, p1, HT5.out, hb5, Nat.le_refl _⟩
          case round =>
            obtain ⟨i, v, hi64, rfl, hO, q0, q1, hT6, hB6, hs6⟩ := hrel
            have HO : Hid (RowN W5.heap.size wr v (upK (upI k fx fy Z) (tx * 8) (ty * 8) i)) := hO
            have HT6 : Hid (There wr w4.heap.size 2) := hT6
            have HB6 : Hid (Below w4.heap.size w4 wr) := hB6
            have HBW : Hid (Below W.heap.size W wr) := hB4.trans (hB6.mono hB4.size)
            clear hO hT6 hB6 p0 p1 hb5 HT5 hB5
            by_cases hlt : i < 64
            · have hi' : (i : Int) < 64 := by omega
              obtain ⟨m, hm⟩ : ∃ m : Nat, m = i % 8 := ⟨_, rfl⟩
              obtain ⟨q, hq⟩ : ∃ q : Nat, q = i / 8 := ⟨_, rfl⟩
              have hmb : m < 8 := by omega
              have hqb : q < 8 := by omega
              have em : (i : Int).tmod 8 = (m : Int) := by rw [Int.tmod_eq_emod_of_nonneg (by omega)]; omega
              have eq' : (i : Int).tdiv 8 = (q : Int) := by rw [Int.tdiv_eq_ediv_of_nonneg (by omega)]; omega
              have HSK : Hid (upK (upI k fx fy Z) (tx * 8) (ty * 8) (i + 1) = upK (upI k fx fy Z) (tx * 8) (ty * 8) i ++ [upI k fx fy Z (tx * 8 + (m : Int)) (ty * 8 + (q : Int))]) := by show _ = _; rw [upK_add, hm, hq]
              have HLn : Hid ((upK (upI k fx fy Z) (tx * 8) (ty * 8) i).length = i) := upK_len _ _ _ _
              have HCU : Hid (∀ W', Below W.heap.size W W' → Calls Try.prog 35 #[.slice (some ⟨b, off, none⟩) 64 cap, refV fz fx fy, .int .i64 tz, .int .i64 (tx * 8 + (m : Int)), .int .i64 (ty * 8 + (q : Int))] W' fun e w' => e = .returned (.int .i64 (upI k fx fy Z (tx * 8 + (m : Int)) (ty * 8 + (q : Int)))) ∧ Below W'.heap.size W' w') := fun W' hb => by have := HUP.out W' i hb hlt; rw [hm, hq]; exact this
              clear hm hq
              have hlW : W.heap.size < W5.heap.size := by have := HS5.out; have := HSZ.out; have := hB4.size; omega
              have c0 : ∀ W', Below W5.heap.size wr W' → W'.cell? ⟨w.heap.size, 0, none⟩ = some (.int .i64 fz) := fun W' h => f0 W' (HBW.out.trans (h.mono (Nat.le_of_lt hlW)))
              have c1 : ∀ W', Below W5.heap.size wr W' → W'.cell? ⟨w.heap.size, 1, none⟩ = some (.int .i64 fx) := fun W' h => f1 W' (HBW.out.trans (h.mono (Nat.le_of_lt hlW)))
              have c2 : ∀ W', Below W5.heap.size wr W' → W'.cell? ⟨w.heap.size, 2, none⟩ = some (.int .i64 fy) := fun W' h => f2 W' (HBW.out.trans (h.mono (Nat.le_of_lt hlW)))
              have d0 : ∀ W', Below W5.heap.size wr W' → W'.cell? ⟨w.heap.size + 1, 0, none⟩ = some (.int .i64 tz) := fun W' h => t0 W' (HBW.out.trans (h.mono (Nat.le_of_lt hlW)))
              have d1 : ∀ W', Below W5.heap.size wr W' → W'.cell? ⟨w.heap.size + 1, 1, none⟩ = some (.int .i64 tx) := fun W' h => t1 W' (HBW.out.trans (h.mono (Nat.le_of_lt hlW)))
              have d2 : ∀ W', Below W5.heap.size wr W' → W'.cell? ⟨w.heap.size + 1, 2, none⟩ = some (.int .i64 ty) := fun W' h => t2 W' (HBW.out.trans (h.mono (Nat.le_of_lt hlW)))
              have h45 : w4.heap.size < W5.heap.size := by have := HS5.out; omega
              have e1 : ∀ W', Below W5.heap.size wr W' → W'.cell? ⟨w4.heap.size, 1, none⟩ = some v := fun W' h => (h.cell (p := ⟨w4.heap.size, 1, none⟩) h45).trans q1
              have HE0 : Hid (∀ W', Below W5.heap.size wr W' → W'.cell? ⟨w4.heap.size, 0, none⟩ = some (.int .i64 0)) := fun W' h => (h.cell (p := ⟨w4.heap.size, 0, none⟩) h45).trans q0
              obtain ⟨va, vn, vc, hvs⟩ : ∃ va vn vc, v = .slice va vn vc := by
                obtain ⟨a', c', e', _, _⟩ := HO.out.own
                exact ⟨_, _, _, e'⟩
              subst hvs
              have hbs : ∀ b, (Value.slice va vn vc).ownBlock = some b → W5.heap.size ≤ b := fun b hb => (World.ownsRow.lt HO.out b hb).1
              have HBS := (show Hid _ from hbs)
              clear hbs q0 q1 f0 f1 f2 t0 t1 t2 HUP
              have mm0 : IntKind.i64.wrap (tx * 8) = tx * 8 := IntWalk.i64_in _ (by omega)
              have mm1 : IntKind.i64.wrap (ty * 8) = ty * 8 := IntWalk.i64_in _ (by omega)
              have ss0 : IntKind.i64.wrap (tx * 8 + (m : Int)) = tx * 8 + (m : Int) := IntWalk.i64_in _ (by omega)
              have ss1 : IntKind.i64.wrap (ty * 8 + (q : Int)) = ty * 8 + (q : Int) := IntWalk.i64_in _ (by omega)
              have qq1 : IntKind.i64.wrap (q : Int) = (q : Int) := IntWalk.i64_in _ (by omega)
              have qq0 : IntKind.i64.wrap (m : Int) = (m : Int) := IntWalk.i64_in _ (by omega)
              generalize upI k fx fy Z (tx * 8 + (m : Int)) (ty * 8 + (q : Int)) = G0 at *
              go_wp2_with fail
              refine wp_region_noPanic ?_
              refine wp_region_L (S := fun W' => Below W5.heap.size wr W') (z := 22) (by kernel_rfl) ?_
              have hSd : Below W5.heap.size wr wr.drew := by (repeat (first | exact Below.refl _ _ | assumption | refine Below.drew ?_ | refine bl_alloc ?_ _ | refine bl_then ?_ (by assumption) | refine Below.setCell ?_ (by first | omega | (simp; done) | (simp; omega)) _ | refine bl_store ?_ ?_ _ _))
              refine wpAnyL_take (i := 0) (v := ?w0) rfl (by kernel_rfl) (by kernel_rfl) (by kernel_rfl) (by kernel_rfl) (fun _ _ _ h => h) (Or.inl ⟨by rfl, ?hw0⟩) hSd ?_
              case hw0 => (intro w hSw; (try dsimp only at hSw); go_simp <;> with_reducible rfl)
              try simp only [Act.put, List.setIfInBounds_toArray, List.set_cons_zero, List.set_cons_succ]
              refine wpAnyL_take (i := 1) (v := ?w1) rfl (by kernel_rfl) (by kernel_rfl) (by kernel_rfl) (by kernel_rfl) (fun _ _ _ h => h) (Or.inl ⟨by rfl, ?hw1⟩) hSd ?_
              case hw1 => (intro w hSw; (try dsimp only at hSw); go_simp <;> with_reducible rfl)
              try simp only [Act.put, List.setIfInBounds_toArray, List.set_cons_zero, List.set_cons_succ]
              refine wpAnyL_take (i := 2) (v := ?w2) rfl (by kernel_rfl) (by kernel_rfl) (by kernel_rfl) (by kernel_rfl) (fun _ _ _ h => h) (Or.inl ⟨by rfl, ?hw2⟩) hSd ?_
              case hw2 => (intro w hSw; (try dsimp only at hSw); go_simp <;> with_reducible rfl)
              try simp only [Act.put, List.setIfInBounds_toArray, List.set_cons_zero, List.set_cons_succ]
              refine wpAnyL_take (i := 3) (v := ?w3) rfl (by kernel_rfl) (by kernel_rfl) (by kernel_rfl) (by kernel_rfl) (fun _ _ _ h => h) (Or.inl ⟨by rfl, ?hw3⟩) hSd ?_
              case hw3 => (intro w hSw; (try dsimp only at hSw); go_simp <;> with_reducible rfl)
              try simp only [Act.put, List.setIfInBounds_toArray, List.set_cons_zero, List.set_cons_succ]
              refine wpAnyL_take (i := 4) (v := ?w4) rfl (by kernel_rfl) (by kernel_rfl) (by kernel_rfl) (by kernel_rfl) (fun _ _ _ h => h) (Or.inl ⟨by rfl, ?hw4⟩) hSd ?_
              case hw4 => (intro w hSw; (try dsimp only at hSw); go_simp <;> with_reducible rfl)
              try simp only [Act.put, List.setIfInBounds_toArray, List.set_cons_zero, List.set_cons_succ]
              refine wpAnyL_take (i := 5) (v := ?w5) rfl (by kernel_rfl) (by kernel_rfl) (by kernel_rfl) (by kernel_rfl) (fun _ _ _ h => h) (Or.inl ⟨by rfl, ?hw5⟩) hSd ?_
              case hw5 => (intro w hSw; (try dsimp only at hSw); go_simp <;> with_reducible rfl)
              try simp only [Act.put, List.setIfInBounds_toArray, List.set_cons_zero, List.set_cons_succ]
              refine wpAnyL_take (i := 6) (v := ?w6) rfl (by kernel_rfl) (by kernel_rfl) (by kernel_rfl) (by kernel_rfl) (fun _ _ _ h => h) (Or.inl ⟨by rfl, ?hw6⟩) hSd ?_
              case hw6 => (intro w hSw; (try dsimp only at hSw); go_simp <;> with_reducible rfl)
              try simp only [Act.put, List.setIfInBounds_toArray, List.set_cons_zero, List.set_cons_succ]
              refine wpAnyL_take (i := 7) (v := ?w7) rfl (by kernel_rfl) (by kernel_rfl) (by kernel_rfl) (by kernel_rfl) (fun _ _ _ h => h) (Or.inl ⟨by rfl, ?hw7⟩) hSd ?_
              case hw7 => (intro w hSw; (try dsimp only at hSw); go_simp <;> with_reducible rfl)
              try simp only [Act.put, List.setIfInBounds_toArray, List.set_cons_zero, List.set_cons_succ]
              refine wpAnyL_take (i := 8) (v := ?w8) rfl (by kernel_rfl) (by kernel_rfl) (by kernel_rfl) (by kernel_rfl) (fun _ _ _ h => h) (Or.inl ⟨by rfl, ?hw8⟩) hSd ?_
              case hw8 => (intro w hSw; (try dsimp only at hSw); go_simp <;> with_reducible rfl)
              try simp only [Act.put, List.setIfInBounds_toArray, List.set_cons_zero, List.set_cons_succ]
              refine wpAnyL_take (i := 9) (v := ?w9) rfl (by kernel_rfl) (by kernel_rfl) (by kernel_rfl) (by kernel_rfl) (fun _ _ _ h => h) (Or.inl ⟨by rfl, ?hw9⟩) hSd ?_
              case hw9 => (intro w hSw; (try dsimp only at hSw); go_simp <;> with_reducible rfl)
              try simp only [Act.put, List.setIfInBounds_toArray, List.set_cons_zero, List.set_cons_succ]
              refine wpAnyL_take (i := 10) (v := ?w10) rfl (by kernel_rfl) (by kernel_rfl) (by kernel_rfl) (by kernel_rfl) (fun _ _ _ h => h) (Or.inl ⟨by rfl, ?hw10⟩) hSd ?_
              case hw10 => (intro w hSw; (try dsimp only at hSw); go_simp <;> with_reducible rfl)
              try simp only [Act.put, List.setIfInBounds_toArray, List.set_cons_zero, List.set_cons_succ]
              refine wpAnyL_take (i := 11) (v := ?w11) rfl (by kernel_rfl) (by kernel_rfl) (by kernel_rfl) (by kernel_rfl) (fun _ _ _ h => h) (Or.inl ⟨by rfl, ?hw11⟩) hSd ?_
              case hw11 => (intro w hSw; (try dsimp only at hSw); go_simp <;> with_reducible rfl)
              try simp only [Act.put, List.setIfInBounds_toArray, List.set_cons_zero, List.set_cons_succ]
              refine wpAnyL_take (i := 12) (v := ?w12) rfl (by kernel_rfl) (by kernel_rfl) (by kernel_rfl) (by kernel_rfl) (fun _ _ _ h => h) (Or.inl ⟨by rfl, ?hw12⟩) hSd ?_
              case hw12 => (intro w hSw; (try dsimp only at hSw); go_simp <;> with_reducible rfl)
              try simp only [Act.put, List.setIfInBounds_toArray, List.set_cons_zero, List.set_cons_succ]
              refine wpAnyL_take (i := 13) (v := ?w13) rfl (by kernel_rfl) (by kernel_rfl) (by kernel_rfl) (by kernel_rfl) (fun _ _ _ h => h) (Or.inl ⟨by rfl, ?hw13⟩) hSd ?_
              case hw13 => (intro w hSw; (try dsimp only at hSw); go_simp <;> with_reducible rfl)
              try simp only [Act.put, List.setIfInBounds_toArray, List.set_cons_zero, List.set_cons_succ]
              refine wpAnyL_take (i := 14) (v := ?w14) rfl (by kernel_rfl) (by kernel_rfl) (by kernel_rfl) (by kernel_rfl) (fun _ _ _ h => h) (Or.inl ⟨by rfl, ?hw14⟩) hSd ?_
              case hw14 => (intro w hSw; (try dsimp only at hSw); go_simp <;> with_reducible rfl)
              try simp only [Act.put, List.setIfInBounds_toArray, List.set_cons_zero, List.set_cons_succ]
              refine wpAnyL_take (i := 15) (v := ?w15) rfl (by kernel_rfl) (by kernel_rfl) (by kernel_rfl) (by kernel_rfl) (fun _ _ _ h => h) (Or.inl ⟨by rfl, ?hw15⟩) hSd ?_
              case hw15 => (intro w hSw; (try dsimp only at hSw); go_simp <;> with_reducible rfl)
              try simp only [Act.put, List.setIfInBounds_toArray, List.set_cons_zero, List.set_cons_succ]
              refine wpAnyL_take (i := 16) (v := ?w16) rfl (by kernel_rfl) (by kernel_rfl) (by kernel_rfl) (by kernel_rfl) (fun _ _ _ h => h) (Or.inl ⟨by rfl, ?hw16⟩) hSd ?_
              case hw16 => (intro w hSw; (try dsimp only at hSw); go_simp <;> with_reducible rfl)
              try simp only [Act.put, List.setIfInBounds_toArray, List.set_cons_zero, List.set_cons_succ]
              refine wpAnyL_take (i := 17) (v := ?w17) rfl (by kernel_rfl) (by kernel_rfl) (by kernel_rfl) (by kernel_rfl) (fun _ _ _ h => h) (Or.inl ⟨by rfl, ?hw17⟩) hSd ?_
              case hw17 => (intro w hSw; (try dsimp only at hSw); go_simp <;> with_reducible rfl)
              try simp only [Act.put, List.setIfInBounds_toArray, List.set_cons_zero, List.set_cons_succ]
              refine wpAnyL_one (i := 18) (by kernel_rfl) rfl (fun K hK => ?_)
              go_simp
              refine Calls.mono (HCU.out _ (HBW.out.trans (hSd.mono (Nat.le_of_lt hlW)))) ?_
              rintro e wB ⟨rfl, hbB⟩
              have hdr : wr.drew.heap.size = wr.heap.size := rfl
              have hSB : Below W5.heap.size wr wB := hSd.trans (hbB.mono (by rw [hdr]; exact hs6))
              have HOB : Hid (RowN W5.heap.size wB (.slice va vn vc) (upK (upI k fx fy Z) (tx * 8) (ty * 8) i)) := by
                have h1 : RowN W5.heap.size wr.drew (.slice va vn vc) (upK (upI k fx fy Z) (tx * 8) (ty * 8) i) := HO.out.below (by (repeat (first | exact Below.refl _ _ | assumption | refine Below.drew ?_ | refine bl_alloc ?_ _ | refine bl_then ?_ (by assumption) | refine Below.setCell ?_ (by first | omega | (simp; done) | (simp; omega)) _ | refine bl_store ?_ ?_ _ _)))
                exact h1.below hbB
              have hsB : W5.heap.size ≤ wB.heap.size := Nat.le_trans hs6 (by have := hbB.size; rw [hdr] at this; exact this)
              go_wp2_with fail
              refine hK.out _ _ (fun _ => hSB) ?_
              clear hK K hbB hdr
              try simp only [Act.put, List.setIfInBounds_toArray, List.set_cons_zero, List.set_cons_succ]
              refine wpAnyL_one (i := 19) (by kernel_rfl) rfl (fun K hK => ?_)
              go_simp
              generalize hwA : (World.alloc _ _ : World) = wA
              have hbA : Below wB.heap.size wB wA := by subst hwA; (repeat (first | exact Below.refl _ _ | assumption | refine Below.drew ?_ | refine bl_alloc ?_ _ | refine bl_then ?_ (by assumption) | refine Below.setCell ?_ (by first | omega | (simp; done) | (simp; omega)) _ | refine bl_store ?_ ?_ _ _))
              have a0 : wA.cell? ⟨wB.heap.size, 0, none⟩ = some (.int .i64 G0) := by subst hwA; simp [go_sem]
              have hszA : wA.heap.size = wB.heap.size + 1 := by subst hwA; simp
              have HOA : Hid (wA.ownsRow W5.heap.size 2 1 (.slice va vn vc) (upK (upI k fx fy Z) (tx * 8) (ty * 8) i).length ((upK (upI k fx fy Z) (tx * 8) (ty * 8) i).map (.int .i64 ·))) := by subst hwA; exact World.ownsRow.alloc HOB.out _
              have hSA : Below W5.heap.size wr wA := hSB.trans (hbA.mono hsB)
              clear hwA
              refine hK.out _ _ (fun _ => hSA) ?_
              clear hK K
              try simp only [Act.put, List.setIfInBounds_toArray, List.set_cons_zero, List.set_cons_succ]
              have hlen := HLn.out
              refine wpAnyL_one (i := 20) (by kernel_rfl) rfl (fun K hK => ?_)
              refine step_append_own rfl (.tmp 36) (.tmp 54) 24 rfl W5.heap.size 2 ii (.int .i64 0) 1 8 Try.underlying24 hi hz0 hz1 hz2 rfl (by decide) (.slice va vn vc) (upK (upI k fx fy Z) (tx * 8) (ty * 8) i).length ((upK (upI k fx fy Z) (tx * 8) (ty * 8) i).map (.int .i64 ·)) rfl HOA.out ⟨wB.heap.size, 0, none⟩ 1 1 [.int .i64 G0] rfl rfl ?c1 ?c2 ?c3 ?c4 ?c5 ?_
              case c1 =>
                intro q u hq
                match q, hq with
                | 0, hq => exact (Option.some.inj hq) ▸ a0
                | q + 1, hq => cases hq
              case c2 => intro u hu; simp at hu; subst hu; rfl
              case c3 => unfold maxLen; omega
              case c4 => omega
              case c5 => first | omega | (simp; omega)
              intro v' w3' hown' hgrow hnil
              clear hnil
              have hBg : Below W5.heap.size wA w3' := (Below.refl _ _).grown hgrow (by omega) (fun b hb => HBS.out b hb)
              have hB3 : Below W5.heap.size wr w3' := hSA.trans hBg
              have n0 := HE0.out _ hB3
              have n1 := e1 _ hB3
              have HU4 : Hid (There w3' w4.heap.size 2) := fun o ho => by
                obtain ⟨⟨x, hx⟩, hf⟩ := HT6.out o ho
                exact ⟨⟨x, (hB3.cell (p := ⟨w4.heap.size, o, none⟩) h45).trans hx⟩, (hB3.frozen (p := ⟨w4.heap.size, o, none⟩) h45).trans hf⟩
              have u1' := (HU4.out 1 (by omega)).2
              have HB4' : Hid (Below w4.heap.size w4 w3') := HB6.out.trans (hB3.mono (Nat.le_of_lt h45))
              have hsz4 : W5.heap.size ≤ w3'.heap.size := Nat.le_trans hs6 hB3.size
              have HO4 : Hid (RowN W5.heap.size w3' v' (upK (upI k fx fy Z) (tx * 8) (ty * 8) (i + 1))) := by
                show RowN _ _ _ _
                rw [HSK.out]
                show World.ownsRow _ _ _ _ _ _ _
                rw [List.length_append, List.map_append]
                exact hown'
              rw [hlen] at hown'
              obtain ⟨ga, gc, rfl⟩ := ownsRow_succ8 hown'
              show K (Act.put _ (some 55) _) w3'
              refine hK.out _ _ (fun _ => hB3) ?_
              clear hK K hown' hgrow hBg
              try simp only [Act.put, List.setIfInBounds_toArray, List.set_cons_zero, List.set_cons_succ]
              refine wpAnyL_take (i := 21) (v := ?w21) rfl (by kernel_rfl) (by kernel_rfl) (by kernel_rfl) (by kernel_rfl) (fun _ _ _ h => h) (Or.inl ⟨by rfl, ?hw21⟩) hB3 ?_
              case hw21 => (intro w hSw; (try dsimp only at hSw); go_simp <;> with_reducible rfl)
              try simp only [Act.put, List.setIfInBounds_toArray, List.set_cons_zero, List.set_cons_succ]
              refine wpAnyL_one (i := 22) (by kernel_rfl) rfl (fun K hK => ?_)
              go_simp
              refine hK.out _ _ (fun h => absurd rfl h) ?_
              clear hK K
              try simp only [Act.put, List.setIfInBounds_toArray, List.set_cons_zero, List.set_cons_succ]
              refine wpAnyL_done (by kernel_rfl) ?_ _
              refine NoPanic.normal ?_
              clear hB3 hSA hSB hSd hbA a0 hszA HOA c0 c1 c2 d0 d1 d2 e1
              go_wp2_with fail
              go_roundw
              case rel =>
                refine ⟨i + 1, _, by omega, by go_num, HO4.out.other h45, ?_, set1_same n1, HU4.out.setN _ _, HB4'.out.setCell (Nat.le_refl _) _, by simpa [World.setCell] using hsz4⟩
                rw [set1_other (fun e => by injection e with _ e; omega)]; exact n0
              case measure => simp [intOf]; omega
            · have hie : i = 64 := by omega
              subst hie
              obtain ⟨va, vc, hvs, _, _⟩ := HO.out.own
              subst hvs
              have hBr := HBW.out
              have hTx := HT.out.below hBr
              have r0 := hTx.cell 0 (by omega)
              have r1 := hTx.cell 1 (by omega)
              have u0 := (hTx 0 (by omega)).2
              have u1 := (hTx 1 (by omega)).2
              have HON' : Hid (OwnN wr W5.heap.size (.slice va (upK (upI k fx fy Z) (tx * 8) (ty * 8) 64).length vc) (upK (upI k fx fy Z) (tx * 8) (ty * 8) 64).length (nz (upK (upI k fx fy Z) (tx * 8) (ty * 8) 64))) := HO.out.own
              have HBf : Hid (Below w.heap.size w wr) := bl_then HB0.out hBr
              clear hTx hBr
              generalize upK (upI k fx fy Z) (tx * 8) (ty * 8) 64 = L at *
              go_wp2_with fail
              obtain ⟨x0, x1⟩ := set2_at (r := w.heap.size + 2) (u := .int .i64 0) (v := .slice va L.length vc) (show (0 : Nat) ≠ 1 by omega) (by rw [r0]; rfl) (by rw [r1]; rfl)
              have hs5' := HS5.out
              refine bodyPost_ret (v := .agg #[.int .i64 0, .slice va L.length vc]) (by simp [results, Try.results8, go_sem, x0, x1]) rfl ⟨.slice va L.length vc, by rw [HQ.out], by rw [HL.out]; exact ((HON'.out.set (by omega)).set (by omega)).widen (by omega), ?_⟩
              have HB := HBf.out
              (repeat (first | exact Below.refl _ _ | assumption | refine Below.drew ?_ | refine bl_alloc ?_ _ | refine bl_then ?_ (by assumption) | refine Below.setCell ?_ (by first | omega | (simp; done) | (simp; omega)) _ | refine bl_store ?_ ?_ _ _))
      · have HQ : Hid (upC 64 Z fz fx fy tz tx ty = 3) := by show _ = _; rw [HC1.out]; rw [if_pos HCF.out, if_neg (by rw [hct]; omega)]
        have hTx := HT.out.below hB3
        have r0 := hTx.cell 0 (by omega)
        have r1 := hTx.cell 1 (by omega)
        have u0 := (hTx 0 (by omega)).2
        have u1 := (hTx 1 (by omega)).2
        clear hTx
        rw [hct]
        go_wp2_with fail
        obtain ⟨q0, q1⟩ := set2_at (u := .int .i64 3) (v := .slice none 0 0) (show (0 : Nat) ≠ 1 by omega) (by rw [r0]; rfl) (by rw [r1]; rfl)
        refine bodyPost_ret (v := .agg #[.int .i64 3, .slice none 0 0]) (by simp [results, Try.results8, go_sem, q0, q1]) rfl ⟨.slice none 0 0, by rw [HQ.out], by rw [HN.out (by rw [HQ.out]; omega)]; exact OwnN.nil _ _ _, ?_⟩
        have HB := bl_then HB0.out hB3
        (repeat (first | exact Below.refl _ _ | assumption | refine Below.drew ?_ | refine bl_alloc ?_ _ | refine bl_then ?_ (by assumption) | refine Below.setCell ?_ (by first | omega | (simp; done) | (simp; omega)) _ | refine bl_store ?_ ?_ _ _))
    · have HQ : Hid (upC 64 Z fz fx fy tz tx ty = 3) := by show _ = _; rw [HC1.out]; rw [if_neg (by rw [hcf]; omega)]
      have hTx := HT.out.below hb2
      have r0 := hTx.cell 0 (by omega)
      have r1 := hTx.cell 1 (by omega)
      have u0 := (hTx 0 (by omega)).2
      have u1 := (hTx 1 (by omega)).2
      clear hTx
      rw [hcf]
      go_wp2_with fail
      obtain ⟨q0, q1⟩ := set2_at (u := .int .i64 3) (v := .slice none 0 0) (show (0 : Nat) ≠ 1 by omega) (by rw [r0]; rfl) (by rw [r1]; rfl)
      refine bodyPost_ret (v := .agg #[.int .i64 3, .slice none 0 0]) (by simp [results, Try.results8, go_sem, q0, q1]) rfl ⟨.slice none 0 0, by rw [HQ.out], by rw [HN.out (by rw [HQ.out]; omega)]; exact OwnN.nil _ _ _, ?_⟩
      have HB := bl_then HB0.out hb2
      (repeat (first | exact Below.refl _ _ | assumption | refine Below.drew ?_ | refine bl_alloc ?_ _ | refine bl_then ?_ (by assumption) | refine Below.setCell ?_ (by first | omega | (simp; done) | (simp; omega)) _ | refine bl_store ?_ ?_ _ _))
  · have HQ : Hid (upC n Z fz fx fy tz tx ty = rasC n Z) := by show _ = _; rw [HC.out, if_neg hk0]
    generalize rasC n Z = k at *
    have hk' : (k == 0) = false := by simpa using hk0
    go_wp2_with fail
    obtain ⟨q0, q1⟩ := set2_at (u := .int .i64 k) (v := .slice none 0 0) (show (0 : Nat) ≠ 1 by omega) (by rw [r0]; rfl) (by rw [r1]; rfl)
    refine bodyPost_ret (v := .agg #[.int .i64 k, .slice none 0 0]) (by simp [results, Try.results8, go_sem, q0, q1]) rfl ⟨.slice none 0 0, by rw [HQ.out], by rw [HN.out (by rw [HQ.out]; exact hk0)]; exact OwnN.nil _ _ _, ?_⟩
    have HB := HB0.out
    (repeat (first | exact Below.refl _ _ | assumption | refine Below.drew ?_ | refine bl_alloc ?_ _ | refine bl_then ?_ (by assumption) | refine Below.setCell ?_ (by first | omega | (simp; done) | (simp; omega)) _ | refine bl_store ?_ ?_ _ _))
end Go.Proofs.Ytjkmjkfakolpfaa
