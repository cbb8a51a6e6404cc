/- The law of ReadNumber returns true at every list of bytes. -/
import Derived.Test.YtdkjbfppogdokaaRf
namespace Go.Proofs.Ytdkjbfppogdokaa
open Go.RowKit
set_option linter.unusedSimpArgs false
set_option linter.unusedVariables false
set_option maxRecDepth 100000

theorem eqNumberResult_any (c v u : Int) (w : World) :
    Calls Try.prog 24 #[.agg #[.int .i64 c, .int .i64 v, .int .i64 u], .agg #[.int .i64 c, .int .i64 v, .int .i64 u]] w fun e w' => e = .returned (.bool true) ∧ Below w.heap.size w w' := by
  go_enter Try.func24, Try.ntmps24
  go_wp2
  go_ret
  exact ⟨rfl, by (repeat (first | exact Below.refl _ _ | assumption | refine Below.drew ?_ | refine bl_alloc ?_ _ | refine bl_then ?_ (by assumption) | refine Below.setCell ?_ (by first | omega | (simp; done) | (simp; omega)) _ | refine bl_store ?_ ?_ _ _))⟩

set_option maxHeartbeats 2000000 in
theorem FnExactReadNumber_walk (a : Option Addr) (n cap : Nat) (Z : Nat → Int) (w : World) (h : IsBytes w a n Z ∧ (∀ i, 0 ≤ Z i ∧ Z i ≤ 255) ∧ n ≤ cap) :
    Calls Try.prog 5 #[.slice a n cap] w fun e w' => e = .returned (.bool true) ∧ Below w.heap.size w w' := by
  obtain ⟨hp, hr, hcap⟩ := h
  by_cases hbig : 1048576 < n
  · have hbi : (1048576 : Int) < (n : Int) := by omega
    go_enter Try.func5, Try.ntmps5
    go_wp2
    go_ret
    exact ⟨rfl, by (repeat (first | exact Below.refl _ _ | assumption | refine Below.drew ?_ | refine bl_alloc ?_ _ | refine bl_then ?_ (by assumption) | refine Below.setCell ?_ (by first | omega | (simp; done) | (simp; omega)) _ | refine bl_store ?_ ?_ _ _))⟩
  · have hn : n ≤ 1048576 := by omega
    have hbi : ¬ (1048576 : Int) < (n : Int) := by omega
    obtain ⟨c, v, u, hv⟩ : ∃ c v u : Int, rdV Z n = .agg #[.int .i64 c, .int .i64 v, .int .i64 u] := by
      unfold rdV
      split
      · exact ⟨_, _, _, rfl⟩
      · exact ⟨_, _, _, rfl⟩
    have Hs : Hid (∀ b W, BsAt W b 0 n Z → b < W.heap.size → Calls Try.prog 13 #[.slice (some ⟨b, 0, none⟩) n n] W fun e w' => e = .returned (.agg #[.int .i64 c, .int .i64 v, .int .i64 u]) ∧ Below W.heap.size W w') := fun b W h1 h2 => hv ▸ spec_ReadNumber_any _ n n Z W (h1.is h2) hr hn
    have Hi : Hid (∀ b W, BsAt W b 0 n Z → b < W.heap.size → Calls Try.prog 11 #[.slice (some ⟨b, 0, none⟩) n n] W fun e w' => e = .returned (.agg #[.int .i64 c, .int .i64 v, .int .i64 u]) ∧ Below W.heap.size W w') := fun b W h1 h2 => hv ▸ impl_ReadNumber_any _ n n Z W (h1.is h2) hr hn (Nat.le_refl _)
    have HI : Hid (IsBytes w a n Z) := hp
    clear hp hr hv hbig
    go_enter Try.func5, Try.ntmps5
    go_wp2_with fail
    refine (toByteS_own a n cap Z _ HI.out hn).mono ?_
    rintro e w1 ⟨b1, rfl, hle1, hlt1, hp1, ht1, hb1⟩
    have HP1 : Hid (BsAt w1 b1 0 n Z) := hp1
    clear hp1 ht1
    go_wp2_with fail
    refine (Hs.out _ _ HP1.out hlt1).mono ?_
    rintro e w2 ⟨rfl, hb2⟩
    have hB2 := bl_then hb1 hb2
    clear hb1 hb2 HP1 hlt1 hle1
    go_wp2_with fail
    generalize hW3 : (w2.alloc _ : World) = w3
    have hb23 : Below w2.heap.size w2 w3 := by subst hW3; (repeat (first | exact Below.refl _ _ | assumption | refine Below.drew ?_ | refine bl_alloc ?_ _ | refine bl_then ?_ (by assumption) | refine Below.setCell ?_ (by first | omega | (simp; done) | (simp; omega)) _ | refine bl_store ?_ ?_ _ _))
    have c0 : ∀ W', Below w3.heap.size w3 W' → W'.cell? ⟨w2.heap.size, 0, none⟩ = some (.int .i64 c) := fun W' h => by
      rw [h.cell (by subst hW3; simp)]; subst hW3; simp [go_sem]
    have c1 : ∀ W', Below w3.heap.size w3 W' → W'.cell? ⟨w2.heap.size, 1, none⟩ = some (.int .i64 v) := fun W' h => by
      rw [h.cell (by subst hW3; simp)]; subst hW3; simp [go_sem]
    have c2 : ∀ W', Below w3.heap.size w3 W' → W'.cell? ⟨w2.heap.size, 2, none⟩ = some (.int .i64 u) := fun W' h => by
      rw [h.cell (by subst hW3; simp)]; subst hW3; simp [go_sem]
    clear hW3
    have hB3 : Below w.heap.size w w3 := bl_then hB2 hb23
    clear hb23 hB2
    refine (toByteS_own a n cap Z _ (HI.out.below hB3) hn).mono ?_
    rintro e w4 ⟨b4, rfl, hle4, hlt4, hp4, ht4, hb4⟩
    have HP4 : Hid (BsAt w4 b4 0 n Z) := hp4
    clear hp4 ht4
    go_wp2_with fail
    refine (Hi.out _ _ HP4.out hlt4).mono ?_
    rintro e w5 ⟨rfl, hb5⟩
    have HP5 : Hid (BsAt w5 b4 0 n Z) := HP4.out.below hb5 hlt4
    have hlt5 : b4 < w5.heap.size := Nat.lt_of_lt_of_le hlt4 hb5.size
    have hB5 : Below w3.heap.size w3 w5 := bl_then hb4 hb5
    clear hb4 hb5 HP4
    have k0 := c0 w5 hB5
    have k1 := c1 w5 hB5
    have k2 := c2 w5 hB5
    have hlw : w2.heap.size < w5.heap.size := World.block_lt_of_cell? _ _ k0
    go_wp2_with fail
    generalize hW6 : (w5.alloc _ : World) = w6
    have hb56 : Below w5.heap.size w5 w6 := by subst hW6; (repeat (first | exact Below.refl _ _ | assumption | refine Below.drew ?_ | refine bl_alloc ?_ _ | refine bl_then ?_ (by assumption) | refine Below.setCell ?_ (by first | omega | (simp; done) | (simp; omega)) _ | refine bl_store ?_ ?_ _ _))
    clear hW6
    have HP6 : Hid (BsAt w6 b4 0 n Z) := HP5.out.below hb56 hlt5
    have hlt6 : b4 < w6.heap.size := Nat.lt_of_lt_of_le hlt5 hb56.size
    have hB6 : Below w.heap.size w w6 := bl_then hB3 (bl_then hB5 hb56)
    clear hb56 HP5 hB5 c0 c1 c2 k0 k1 k2
    refine (eqNumberResult_any _ _ _ _).mono ?_
    rintro e w7 ⟨rfl, hb7⟩
    have HP7 : Hid (BsAt w7 b4 0 n Z) := HP6.out.below hb7 hlt6
    have hlt7 : b4 < w7.heap.size := Nat.lt_of_lt_of_le hlt6 hb7.size
    have hB7 : Below w.heap.size w w7 := bl_then hB6 hb7
    clear hb7 HP6 hB6 hB3
    go_wp2_with fail
    refine (toByteS_own a n cap Z _ (HI.out.below hB7) hn).mono ?_
    rintro e w8 ⟨b8, rfl, hle8, hlt8, hp8, ht8, hb8⟩
    have HP8 : Hid (BsAt w8 b8 0 n Z) := hp8
    have HQ8 : Hid (BsAt w8 b4 0 n Z) := HP7.out.below hb8 hlt7
    have hltq : b4 < w8.heap.size := Nat.lt_of_lt_of_le hlt7 hb8.size
    have hB8 : Below w.heap.size w w8 := bl_then hB7 hb8
    clear hp8 ht8 HP7 hB7 hb8
    go_wp2_with fail
    refine (eqByteS_any _ _ _ _ _ Z _ (HQ8.out.is hltq) (HP8.out.is hlt8) hn).mono ?_
    rintro e w9 ⟨rfl, hb9⟩
    have hB9 : Below w.heap.size w w9 := bl_then hB8 hb9
    clear hb9 hB8
    go_wp2
    go_ret
    exact ⟨rfl, hB9⟩
end Go.Proofs.Ytdkjbfppogdokaa
