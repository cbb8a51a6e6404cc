/- Several texts in one. -/
import Derived.Test.YtcbpaockahkakaaVUnpackList5
import Derived.Test.YtcbpaockahkakaaVUnpackList3

/- A number is read from what is left of bytes: the program's way. -/

namespace Go.Proofs.Ytcbpaockahkakaa
open Go.RowKit
set_option linter.unusedSimpArgs false
set_option linter.unusedVariables false
set_option maxRecDepth 100000

theorem UpAt.keeps {w w' : World} {p B n q : Nat} {Z : Nat → Int} (h : UpAt w p B n Z) (hk : Keeps q w w') (hpq : p ≠ q) (hB : B ≤ q) (hp : p < w.heap.size) (hl : B ≤ w.heap.size) : UpAt w' p B n Z := by
  obtain ⟨a, cap, h0, h1, h2, h3⟩ := h
  exact ⟨a, cap, (hk.cell (p := ⟨p, 0, none⟩) hp hpq).trans h0, (hk.frozen (p := ⟨p, 0, none⟩) hp hpq).trans h1, h2, h3.keeps hk hB hl⟩
theorem UpAt.same {w : World} {p B n m : Nat} {Z Y : Nat → Int} (h : UpAt w p B n Z) (hn : n = m) (hZ : ∀ i, i < n → Z i = Y i) : UpAt w p B m Y := by
  subst hn
  obtain ⟨a, cap, h0, h1, h2, h3⟩ := h
  refine ⟨a, cap, h0, h1, h2, ?_⟩
  rcases h3 with h3 | ⟨b, off, e, hb, hz⟩
  · exact .inl h3
  · exact .inr ⟨b, off, e, hb, fun i hi => by rw [← hZ i hi]; exact hz i hi⟩

/-- What number tells, by what there is to be read. -/
def NumP (p B n : Nat) (Z : Nat → Int) (w : World) (e : Ending) (w' : World) : Prop :=
  match rd Z n with
  | none => Pan e ∧ Keeps p w w'
  | some x => e = .returned (.int .u64 (x.1 : Int)) ∧ UpAt w' p B (n - x.2) (fun i => Z (i + x.2)) ∧ Keeps p w w'
theorem NumP.none {p B n : Nat} {Z : Nat → Int} {w w' : World} {e : Ending} (h : rd Z n = none) (he : Pan e) (hk : Keeps p w w') : NumP p B n Z w e w' := by
  unfold NumP; rw [h]; exact ⟨he, hk⟩
theorem NumP.some {p B n : Nat} {Z : Nat → Int} {w w' : World} {e : Ending} {x y : Nat} (h : rd Z n = some (x, y)) (he : e = .returned (.int .u64 (x : Int))) (hu : UpAt w' p B (n - y) (fun i => Z (i + y))) (hk : Keeps p w w') : NumP p B n Z w e w' := by
  unfold NumP; rw [h]; exact ⟨he, hu, hk⟩

set_option maxHeartbeats 4000000 in
theorem number_any (p B n : Nat) (Z : Nat → Int) (w : World) (h : UpAt w p B n Z) (hB : B ≤ p) (hp : p < w.heap.size) (hr : ∀ i, 0 ≤ Z i ∧ Z i ≤ 255) (hmax : n ≤ 1048576) :
    Calls Try.prog 88 #[.pointer (some ⟨p, 0, none⟩)] w fun e w' => NumP p B n Z w e w' := by
  have HU : Hid (UpAt w p B n Z) := h
  have HR : Hid (∀ i, 0 ≤ Z i ∧ Z i ≤ 255) := hr
  clear h hr
  go_enter Try.func88, Try.ntmps88
  go_wp2
  go_loopw [3, 6] (fun x i wr => ∃ (k f A : Nat), i = .int .i64 (k : Int) ∧ x = .int .u64 (A : Int) ∧ k + f = 6 ∧ k ≤ n ∧ Hid (A < 128 ^ k ∧ rdFrom Z n f k A = rd Z n) ∧ UpAt wr p B (n - k) (fun i => Z (i + k)) ∧ Keeps p w wr) (fun _ i _ => 6 - (intOf i).toNat)
  case atStart => exact ⟨0, 6, 0, rfl, rfl, rfl, by omega, ⟨by simp, rfl⟩, HU.out, Keeps.refl _ _⟩
  case round =>
    obtain ⟨k, f, A, rfl, rfl, hkf, hkn, HK, hU, hK⟩ := hrel
    have HU1 : Hid (UpAt wr p B (n - k) (fun i => Z (i + k))) := hU
    have HK1 : Hid (Keeps p w wr) := hK
    have hpw : p < wr.heap.size := Nat.lt_of_lt_of_le hp hK.size
    clear hU hK HU
    by_cases hk6 : k < 6
    · have hk6' : (k : Int) < 6 := by omega
      obtain ⟨f, rfl⟩ : ∃ g, f = g + 1 := ⟨f - 1, by omega⟩
      by_cases hlt : k < n
      · have hT := take_some p B (n - k) 1 (fun i => Z (i + k)) wr HU1.out hB hpw (by omega) (by omega) (by omega)
        have HT := (show Hid _ from hT)
        clear hT
        obtain ⟨hA, hrd⟩ := HK.out
        obtain ⟨z1, z2⟩ := HR.out k
        obtain ⟨z, hz⟩ : ∃ z : Nat, Z k = (z : Int) := ⟨(Z k).toNat, by omega⟩
        obtain ⟨u1, u2⟩ := pow_bd (k := k) (by omega)
        obtain ⟨p1, p2⟩ := part_bd (z := z) u2
        have hor := or_part (z := z) hA (by omega)
        obtain ⟨P, hP⟩ : ∃ P, z % 128 * 128 ^ k = P := ⟨_, rfl⟩
        rw [hP] at p1 p2 hor
        have hAP : Hid (A + P < 128 ^ (k + 1)) := by show _ < _; rw [Nat.pow_succ]; omega
        have HM : Hid (rdFrom Z n (f + 1) k A = rd Z n) := hrd
        have HZ : Hid (Z k = (z : Int)) := hz
        have hPU : Hid (z % 128 * 128 ^ k = P) := hP
        have hzb : z ≤ 255 := by omega
        go_wp2_with fail
        refine Calls.mono HT.out ?_
        rintro e w1 ⟨g, rfl, hg1, hg2, hbs, hup, hke⟩
        have hx : w1.cell? ⟨g, 0, none⟩ = some (.int .u8 (z : Int)) := by have := hbs 0 (by omega); simpa [hz] using this
        have HU2 : Hid (UpAt w1 p B (n - (k + 1)) (fun i => Z (i + (k + 1)))) := hup.same (by omega) (fun i _ => by congr 1; omega)
        have HK2 : Hid (Keeps p w w1) := HK1.out.trans hke
        have hA2 : Hid (A < 128 ^ k) := hA
        clear hbs hup hke hrd hz z1 z2 hP HK hA HT
        have e1 : IntKind.u8.wrap ((z : Int) % 128) = (z : Int) % 128 := by rw [IntKind.wrap_u8]; omega
        have e3 : (z : Int).tmod 128 = (z : Int) % 128 := Int.tmod_eq_emod_of_nonneg (by omega)
        have e4 : IntKind.u64.wrap ((z : Int) % 128) = (z : Int) % 128 := by rw [IntKind.wrap_u64]; omega
        have e5 : IntKind.u64.wrap ((z : Int) % 128 * 2 ^ (k * 7)) = (P : Int) := by
          have : (z : Int) % 128 * 2 ^ (k * 7) = (P : Int) := by
            rw [← hPU.out, ← pow7]; simp
          rw [this, IntKind.wrap_u64]; omega
        have e6 : bits .or .u64 (A : Int) (P : Int) = (A : Int) + (P : Int) := by rw [hor]; simp
        clear hor
        by_cases h8 : z < 128
        · have HL : Hid (rd Z n = if (0 < k ∧ z = 0) ∨ 1099511627776 < A + P then none else some (A + P, k + 1)) := by show _ = _; rw [← HM.out, rdFrom_last hlt HZ.out h8 hPU.out]
          have h8' : ¬ (128 : Int) ≤ (z : Int) := by omega
          by_cases hkz : 0 < k ∧ z = 0
          · have HN : Hid (rd Z n = none) := by show _ = _; rw [HL.out, if_pos (.inl hkz)]
            obtain ⟨hk0, rfl⟩ := hkz
            have hk0' : (0 : Int) < (k : Int) := by omega
            clear HL HM HZ hPU hAP
            go_wp2
            exact ⟨rfl, NumP.none HN.out ⟨_, _, rfl⟩ HK2.out⟩
          · by_cases h40 : 1099511627776 < A + P
            · have HN : Hid (rd Z n = none) := by show _ = _; rw [HL.out, if_pos (.inr h40)]
              have hk1 : 0 < k := by
                rcases Nat.eq_zero_or_pos k with h | h
                · subst h; have := hPU.out; have := hA2.out; simp at *; omega
                · exact h
              have hz0 : ¬ z = 0 := fun h => hkz ⟨hk1, h⟩
              have hz0' : ¬ (z : Int) = 0 := by omega
              have hk0' : (0 : Int) < (k : Int) := by omega
              have h40' : (1099511627776 : Int) < (A : Int) + (P : Int) := by omega
              clear HL HM HZ hPU hAP hkz
              go_wp2
              exact ⟨rfl, NumP.none HN.out ⟨_, _, rfl⟩ HK2.out⟩
            · have HN : Hid (rd Z n = some (A + P, k + 1)) := by show _ = _; rw [HL.out, if_neg (by omega)]
              have h40' : ¬ (1099511627776 : Int) < (A : Int) + (P : Int) := by omega
              by_cases hz0 : z = 0
              · have hk0 : k = 0 := by omega
                have hP0 : P = 0 := by have := hPU.out; rw [hz0] at this; simpa using this.symm
                have hk0' : ¬ (0 : Int) < (k : Int) := by omega
                subst hz0
                have e7 : IntKind.u64.wrap 0 = 0 := rfl
                rw [hP0] at e6
                simp only [Int.natCast_zero, Int.add_zero] at e6
                have hA3 : ¬ (1099511627776 : Int) < (A : Int) := by omega
                clear HL HM HZ hPU hAP hkz
                go_wp2
                go_ret
                exact NumP.some HN.out (by simp [hP0]) HU2.out HK2.out
              · have hz0' : ¬ (z : Int) = 0 := by omega
                clear HL HM HZ hPU hAP hkz
                go_wp2
                go_ret
                exact NumP.some HN.out (by simp) HU2.out HK2.out
        · have h8' : (128 : Int) ≤ (z : Int) := by omega
          go_wp2
          go_roundw
          case rel => exact ⟨k + 1, f, A + P, by go_num, by go_num, by omega, by omega, ⟨hAP.out, by rw [← HM.out, rdFrom_more hlt HZ.out h8 hPU.out]⟩, HU2.out, HK2.out⟩
          case measure => simp [intOf]; omega
      · have hT := take_none p B (n - k) 1 (fun i => Z (i + k)) wr HU1.out (by omega) (by omega) (by omega)
        have HT := (show Hid _ from hT)
        clear hT
        have HN : Hid (rd Z n = none) := by show _ = _; rw [← HK.out.2, rdFrom_end _ _ _ _ _ hlt]
        clear HK
        go_wp2_with fail
        refine Calls.mono HT.out ?_
        rintro e w1 ⟨⟨u, pv, rfl⟩, rfl⟩
        exact ⟨rfl, NumP.none HN.out ⟨_, _, rfl⟩ HK1.out⟩
    · have hk6' : ¬ (k : Int) < 6 := by omega
      have HN : Hid (rd Z n = none) := by
        show _ = _
        obtain rfl : f = 0 := by omega
        rw [← HK.out.2]; rfl
      clear HK
      go_wp2
      exact ⟨rfl, NumP.none HN.out ⟨_, _, rfl⟩ HK1.out⟩
end Go.Proofs.Ytcbpaockahkakaa
/- What the small functions of points answer, and that they write nothing that was there. -/

namespace Go.Proofs.Ytcbpaockahkakaa
open Go.RowKit
set_option linter.unusedSimpArgs false
set_option linter.unusedVariables false

/-- Both within 5120, either way. -/
def Df (x y : Int) : Prop := (-5120 ≤ x ∧ x ≤ 5120) ∧ (-5120 ≤ y ∧ y ≤ 5120)

/-- Whether a is above b neither in X nor in Y. -/
def upB (ax ay bx by' : Int) : Bool := decide (ax ≤ bx) && decide (ay ≤ by')
theorem eqPoint_any (ax ay : Int) (w : World) :
    Calls Try.prog 109 #[.agg #[.int .i64 ax, .int .i64 ay], .agg #[.int .i64 ax, .int .i64 ay]] w fun e w' => e = .returned (.bool true) ∧ Below w.heap.size w w' := by
  go_enter Try.func109, Try.ntmps109
  go_wp2
  go_ret
  exact ⟨rfl, by (repeat (first | exact Below.refl _ _ | assumption | refine Below.drew ?_ | refine bl_alloc ?_ _ | refine bl_then ?_ (by assumption) | refine Below.setCell ?_ (by first | omega | (simp; done) | (simp; omega)) _ | refine bl_store ?_ ?_ _ _))⟩

end Go.Proofs.Ytcbpaockahkakaa
/- Numbers on either side of 0 are folded, and unfolded. -/

namespace Go.Proofs.Ytcbpaockahkakaa
open Go.RowKit
set_option linter.unusedSimpArgs false
set_option linter.unusedVariables false

/-- A number, folded. -/
def foldI (n : Int) : Int := if n < 0 then -2 * n - 1 else 2 * n
/-- A number, unfolded. -/
def unfoldI (n : Int) : Int := if n % 2 = 1 then -(n / 2) - 1 else n / 2
/-- The answer of FoldNumber. -/
def foldV (n : Int) : Value := if inB n (-1073741824) 1073741824 = true then .agg #[.int .i64 0, .int .i64 (foldI n)] else .agg #[.int .i64 3, .int .i64 0]
def unfoldV (n : Int) : Value := if inB n 0 2147483648 = true then .agg #[.int .i64 0, .int .i64 (unfoldI n)] else .agg #[.int .i64 3, .int .i64 0]
theorem unfold_fold (n : Int) : unfoldI (foldI n) = n := by unfold unfoldI foldI; split <;> split <;> omega
theorem fold_unfold (n : Int) (h : 0 ≤ n) : foldI (unfoldI n) = n := by unfold unfoldI foldI; split <;> split <;> omega
theorem foldI_bd {n B : Int} (h : -B ≤ n) (h' : n ≤ B) : 0 ≤ foldI n ∧ foldI n ≤ 2 * B := by unfold foldI; split <;> omega
theorem unfoldI_bd {n B : Int} (h : 0 ≤ n) (h' : n ≤ 2 * B) : -B ≤ unfoldI n ∧ unfoldI n ≤ B := by unfold unfoldI; split <;> omega
theorem inB_bd {n lo hi : Int} (h : inB n lo hi = true) : lo ≤ n ∧ n ≤ hi := by simpa [inB] using h

theorem impl_fold_any (n : Int) (w : World) (h1 : -1099511627776 ≤ n) (h2 : n ≤ 1099511627776) : Calls Try.prog 99 #[.int .i64 n] w fun e w' => e = .returned (.int .u64 (foldI n)) ∧ w = w' := by
  unfold foldI
  by_cases hn : n < 0
  · rw [if_pos hn]
    have e1 : IntKind.u64.wrap (-n) = -n := by rw [IntKind.wrap_u64]; omega
    have e2 : IntKind.u64.wrap (2 * -n) = 2 * -n := by rw [IntKind.wrap_u64]; omega
    have e3 : IntKind.u64.wrap (2 * -n - 1) = 2 * -n - 1 := by rw [IntKind.wrap_u64]; omega
    have e0 : IntKind.i64.wrap (-n) = -n := IntWalk.i64_in _ (by omega)
    go_enter Try.func99, Try.ntmps99
    go_wp2
    go_ret
    exact ⟨ret_int (by omega), rfl⟩
  · rw [if_neg hn]
    have e1 : IntKind.u64.wrap n = n := by rw [IntKind.wrap_u64]; omega
    have e2 : IntKind.u64.wrap (2 * n) = 2 * n := by rw [IntKind.wrap_u64]; omega
    go_enter Try.func99, Try.ntmps99
    go_wp2
    go_ret
    exact ⟨ret_int (by omega), rfl⟩
theorem impl_unfold_any (n : Int) (w : World) (h1 : 0 ≤ n) (h2 : n ≤ 1099511627776) : Calls Try.prog 110 #[.int .u64 n] w fun e w' => e = .returned (.int .i64 (unfoldI n)) ∧ w = w' := by
  unfold unfoldI
  have e1 : IntKind.u64.wrap (n / 2) = n / 2 := by rw [IntKind.wrap_u64]; omega
  have e2 : IntKind.i64.wrap (n / 2) = n / 2 := IntWalk.i64_in _ (by omega)
  have e3 : IntKind.i64.wrap (-(n / 2)) = -(n / 2) := IntWalk.i64_in _ (by omega)
  have e4 : IntKind.i64.wrap (-(n / 2) - 1) = -(n / 2) - 1 := IntWalk.i64_in _ (by omega)
  have e5 : IntKind.u64.wrap (n % 2) = n % 2 := by rw [IntKind.wrap_u64]; omega
  have t1 : n.tdiv 2 = n / 2 := Int.tdiv_eq_ediv_of_nonneg h1
  have t2 : n.tmod 2 = n % 2 := Int.tmod_eq_emod_of_nonneg h1
  by_cases hn : n % 2 = 1
  · rw [if_pos hn]
    go_enter Try.func110, Try.ntmps110
    go_wp2
    go_ret
    exact ⟨ret_int (by omega), rfl⟩
  · rw [if_neg hn]
    go_enter Try.func110, Try.ntmps110
    go_wp2
    go_ret
    exact ⟨ret_int (by omega), rfl⟩
theorem l6Fold_any (n : Int) (w : World) (h1 : -1099511627776 ≤ n) (h2 : n ≤ 1099511627776) : Calls Try.prog 86 #[.int .i64 n] w fun e w' => e = .returned (.int .i64 (foldI n)) ∧ w = w' := by
  unfold foldI
  by_cases hn : n < 0
  · rw [if_pos hn]
    have hn' : ¬ 0 ≤ n := by omega
    go_enter Try.func86, Try.ntmps86
    go_wp2
    go_ret
    exact ⟨ret_int (by omega), rfl⟩
  · rw [if_neg hn]
    have hn' : 0 ≤ n := by omega
    go_enter Try.func86, Try.ntmps86
    go_wp2
    go_ret
    exact ⟨ret_int (by omega), rfl⟩
theorem l6Unfold_any (n : Int) (w : World) (h1 : 0 ≤ n) (h2 : n ≤ 1099511627776) : Calls Try.prog 91 #[.int .i64 n] w fun e w' => e = .returned (.int .i64 (unfoldI n)) ∧ w = w' := by
  unfold unfoldI
  have t1 : n.tdiv 2 = n / 2 := Int.tdiv_eq_ediv_of_nonneg h1
  have t2 : n.tmod 2 = n % 2 := Int.tmod_eq_emod_of_nonneg h1
  have t3 : (-(n + 1)).tdiv 2 = -((n + 1) / 2) := by rw [Int.neg_tdiv, Int.tdiv_eq_ediv_of_nonneg (by omega)]
  by_cases hn : n % 2 = 1
  · rw [if_pos hn]
    have hn' : ¬ n % 2 = 0 := by omega
    go_enter Try.func91, Try.ntmps91
    go_wp2
    go_ret
    exact ⟨ret_int (by omega), rfl⟩
  · rw [if_neg hn]
    have hn' : n % 2 = 0 := by omega
    go_enter Try.func91, Try.ntmps91
    go_wp2
    go_ret
    exact ⟨ret_int (by omega), rfl⟩
end Go.Proofs.Ytcbpaockahkakaa
