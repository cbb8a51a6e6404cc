/- The source of numbers: what l1Next keeps and how far it goes. -/
import Derived.Test.YtjkmjkfakolpfaaRows
import Derived.Test.YtjkmjkfakolpfaaPlain
import Derived.Test.YtjkmjkfakolpfaaReg
import Derived.Test.YtjkmjkfakolpfaaKeep
import Derived.WalkKit
import Derived.WalkSpells
import Derived.WalkLawsBesides
import Derived.Outline
import Derived.Deep.RegionHeld3
namespace Go.Proofs.Ytjkmjkfakolpfaa
open Go.RowKit
set_option linter.unusedSimpArgs false
set_option linter.unusedVariables false

/-- The bytes of a code: none, or they lie at an address below block s. -/
def Bytes (w : World) (a : Option Addr) (n s : Nat) (Z : Nat → Int) : Prop :=
  n = 0 ∨ ∃ b off, a = some ⟨b, off, none⟩ ∧ b < s ∧ ∀ i, i < n → w.cell? ⟨b, off + i, none⟩ = some (.int .u8 (Z i))
/-- A source at block s, from number t on. -/
structure Src (a : Option Addr) (n cap : Nat) (Z : Nat → Int) (s t : Nat) (w : World) : Prop where
  code : w.cell? ⟨s, 0, none⟩ = some (.slice a n cap)
  at' : w.cell? ⟨s, 1, none⟩ = some (.int .i64 t)
  wr : w.frozen? ⟨s, 1, none⟩ = false
  bytes : Bytes w a n s Z
  rng : ∀ i, 0 ≤ Z i ∧ Z i ≤ 255
  max : n ≤ 1048576
theorem Src.below {a : Option Addr} {n cap : Nat} {Z : Nat → Int} {s t : Nat} {w w' : World} (h : Src a n cap Z s t w) (hb : Below w.heap.size w w') : Src a n cap Z s t w' := by
  have hl := World.block_lt_of_cell? _ _ h.code
  refine ⟨(hb.cell (p := ⟨s, 0, none⟩) hl).trans h.code, (hb.cell (p := ⟨s, 1, none⟩) hl).trans h.at', (hb.frozen (p := ⟨s, 1, none⟩) hl).trans h.wr, ?_, h.rng, h.max⟩
  rcases h.bytes with h0 | ⟨b, off, e, hs, hz⟩
  · exact .inl h0
  · have hl' : s < w.heap.size := hl
    exact .inr ⟨b, off, e, hs, fun i hi => (hb.cell (p := ⟨b, off + i, none⟩) (show b < _ by omega)).trans (hz i hi)⟩
theorem Src.step {a : Option Addr} {n cap : Nat} {Z : Nat → Int} {s t : Nat} {w : World} (h : Src a n cap Z s t w) : Src a n cap Z s (t + 1) (w.setCell ⟨s, 1, none⟩ (.int .i64 ((t : Int) + 1))) := by
  refine ⟨?_, ?_, ?_, ?_, h.rng, h.max⟩
  · rw [World.cell?_setCell_other]
    · exact h.code
    · simp
  · exact World.cell?_setCell_same _ _ _ h.at'
  · rw [World.frozen?_setCell]; exact h.wr
  · rcases h.bytes with h0 | ⟨b, off, e, hs, hz⟩
    · exact .inl h0
    · refine .inr ⟨b, off, e, hs, fun i hi => ?_⟩
      rw [World.cell?_setCell_other]
      · exact hz i hi
      · intro hc; injection hc with hc; omega
theorem Src.drew {a : Option Addr} {n cap : Nat} {Z : Nat → Int} {s t : Nat} {w : World} (h : Src a n cap Z s t w) : Src a n cap Z s t w.drew := ⟨h.code, h.at', h.wr, h.bytes, h.rng, h.max⟩

set_option maxHeartbeats 2000000 in
theorem l1Next_none (a : Option Addr) (cap : Nat) (Z : Nat → Int) (s t m : Nat) (w : World) (h : Src a 0 cap Z s t w) (ht : t ≤ 1000) (hm : 0 < m) (hmx : m ≤ 100000) :
    Calls Try.prog 22 #[.pointer (some ⟨s, 0, none⟩), .int .i64 m] w fun e w' => ∃ v : Nat, e = .returned (.int .i64 v) ∧ v < m ∧ Src a 0 cap Z s (t + 1) w' ∧ Keeps s w w' := by
  have HS : Hid (Src a 0 cap Z s t w) := h
  have hc := h.code
  have ha := h.at'
  have hf := h.wr
  clear h
  obtain ⟨r, hr⟩ : ∃ r, (t * 7) % m = r := ⟨_, rfl⟩
  have hrl : r < m := by rw [← hr]; exact Nat.mod_lt _ hm
  have hme : ((t : Int) * 7) % (m : Int) = (r : Int) := by rw [← hr]; simp
  have hmt : ((t : Int) * 7).tmod (m : Int) = (r : Int) := by
    rw [Int.tmod_eq_emod_of_nonneg (by omega)]; exact hme
  have hm0 : ¬ m = 0 := by omega
  have hm1 : ¬ (m : Int) < 1 := by omega
  have hsame := World.cell?_setCell_same w ⟨s, 1, none⟩ (.int .i64 ((t : Int) + 1)) ha
  go_enter Try.func22, Try.ntmps22
  go_wp2
  go_ret
  exact ⟨r, rfl, hrl, HS.out.step, (Keeps.refl _ _).set _ _⟩

set_option maxHeartbeats 4000000 in
theorem l1Next_some (b off n cap : Nat) (Z : Nat → Int) (s t m : Nat) (w : World) (h : Src (some ⟨b, off, none⟩) n cap Z s t w) (hbs : b < s) (hz : ∀ i, i < n → w.cell? ⟨b, off + i, none⟩ = some (.int .u8 (Z i))) (hn : 0 < n) (hcap : n ≤ cap) (ht : t ≤ 1000) (hm : 0 < m) (hmx : m ≤ 100000) :
    Calls Try.prog 22 #[.pointer (some ⟨s, 0, none⟩), .int .i64 m] w fun e w' => ∃ v : Nat, e = .returned (.int .i64 v) ∧ v < m ∧ Src (some ⟨b, off, none⟩) n cap Z s (t + 1) w' ∧ Keeps s w w' := by
  have HS : Hid (Src (some ⟨b, off, none⟩) n cap Z s t w) := h
  have hmax := h.max
  have hc := h.code
  have ha := h.at'
  have hf := h.wr
  obtain ⟨i1, hi1⟩ : ∃ r, t % n = r := ⟨_, rfl⟩
  obtain ⟨i2, hi2⟩ : ∃ r, (t + 1) % n = r := ⟨_, rfl⟩
  obtain ⟨q, hq⟩ : ∃ r, t / n = r := ⟨_, rfl⟩
  have l1 : i1 < n := by rw [← hi1]; exact Nat.mod_lt _ hn
  have l2 : i2 < n := by rw [← hi2]; exact Nat.mod_lt _ hn
  have lq : q ≤ t := by rw [← hq]; exact Nat.div_le_self _ _
  have z1 := hz i1 l1
  have z2 := hz i2 l2
  have r1 := h.rng i1
  have r2 := h.rng i2
  generalize Z i1 = y1 at z1 r1
  generalize Z i2 = y2 at z2 r2
  clear h hz
  have hme : (t : Int) % (n : Int) = (i1 : Int) := by rw [← hi1]; simp
  have hmt : (t : Int).tmod (n : Int) = (i1 : Int) := by rw [Int.tmod_eq_emod_of_nonneg (by omega)]; exact hme
  have hne : ((t : Int) + 1) % (n : Int) = (i2 : Int) := by rw [← hi2]; simp
  have hnt : ((t : Int) + 1).tmod (n : Int) = (i2 : Int) := by rw [Int.tmod_eq_emod_of_nonneg (by omega)]; exact hne
  have hde : (t : Int) / (n : Int) = (q : Int) := by rw [← hq]; simp
  have hdt : (t : Int).tdiv (n : Int) = (q : Int) := by rw [Int.tdiv_eq_ediv_of_nonneg (by omega)]; exact hde
  clear hi1 hi2 hq
  have n0 : ¬ n = 0 := by omega
  have n0b : ((n : Int) == 0) = false := by simp; omega
  have m1 : ¬ (m : Int) < 1 := by omega
  have m0 : ¬ m = 0 := by omega
  have g1 : (i1 : Int) < (n : Int) := by omega
  have g2 : (i2 : Int) < (n : Int) := by omega
  have g3 : (0 : Int) ≤ (i1 : Int) := by omega
  have g4 : (0 : Int) ≤ (i2 : Int) := by omega
  obtain ⟨a1, a2⟩ := r1
  obtain ⟨b1, b2⟩ := r2
  have w0 : IntKind.i64.wrap y1 = y1 := IntWalk.i64_in _ (by omega)
  have w0' : IntKind.i64.wrap y2 = y2 := IntWalk.i64_in _ (by omega)
  have w1 : IntKind.i64.wrap (q : Int) = (q : Int) := IntWalk.i64_in _ (by omega)
  have w2 : IntKind.i64.wrap ((q : Int) * 37) = (q : Int) * 37 := IntWalk.i64_in _ (by omega)
  have w3 : IntKind.i64.wrap (y1 + (q : Int) * 37) = y1 + (q : Int) * 37 := IntWalk.i64_in _ (by omega)
  have w4 : IntKind.i64.wrap ((y1 + (q : Int) * 37) * 251) = (y1 + (q : Int) * 37) * 251 := IntWalk.i64_in _ (by omega)
  have w5 : IntKind.i64.wrap (y2 * 13) = y2 * 13 := IntWalk.i64_in _ (by omega)
  have w6 : IntKind.i64.wrap ((y1 + (q : Int) * 37) * 251 + y2 * 13) = (y1 + (q : Int) * 37) * 251 + y2 * 13 := IntWalk.i64_in _ (by omega)
  have w7 : IntKind.i64.wrap ((y1 + (q : Int) * 37) * 251 + y2 * 13 + (t : Int)) = (y1 + (q : Int) * 37) * 251 + y2 * 13 + (t : Int) := IntWalk.i64_in _ (by omega)
  have w8 : IntKind.i64.wrap ((t : Int) + 1) = (t : Int) + 1 := IntWalk.i64_in _ (by omega)
  have hsame : (w.setCell ⟨s, 1, none⟩ (.int .i64 ((t : Int) + 1))).cell? ⟨s, 1, none⟩ = some (.int .i64 ((t : Int) + 1)) := World.cell?_setCell_same _ _ _ ha
  have hcode : (w.setCell ⟨s, 1, none⟩ (.int .i64 ((t : Int) + 1))).cell? ⟨s, 0, none⟩ = some (.slice (some ⟨b, off, none⟩) n cap) := by
    rw [World.cell?_setCell_other]
    · exact hc
    · simp
  have hz1 : (w.setCell ⟨s, 1, none⟩ (.int .i64 ((t : Int) + 1))).cell? ⟨b, off + i1, none⟩ = some (.int .u8 y1) := by
    rw [World.cell?_setCell_other]
    · exact z1
    · intro e; injection e with e; omega
  have hz2 : (w.setCell ⟨s, 1, none⟩ (.int .i64 ((t : Int) + 1))).cell? ⟨b, off + i2, none⟩ = some (.int .u8 y2) := by
    rw [World.cell?_setCell_other]
    · exact z2
    · intro e; injection e with e; omega
  by_cases hbig : 200 < m
  · obtain ⟨v, hv⟩ : ∃ v : Nat, ((y1 + (q : Int) * 37) * 251 + y2 * 13 + (t : Int)) % (m : Int) = (v : Int) := ⟨(((y1 + (q : Int) * 37) * 251 + y2 * 13 + (t : Int)) % (m : Int)).toNat, by rw [Int.toNat_of_nonneg (Int.emod_nonneg _ (by omega))]⟩
    have hvl : v < m := by have := Int.emod_lt_of_pos ((y1 + (q : Int) * 37) * 251 + y2 * 13 + (t : Int)) (show (0 : Int) < (m : Int) by omega); omega
    have hvt : ((y1 + (q : Int) * 37) * 251 + y2 * 13 + (t : Int)).tmod (m : Int) = (v : Int) := by rw [Int.tmod_eq_emod_of_nonneg (by omega)]; exact hv
    have hbi : (200 : Int) < (m : Int) := by omega
    go_enter Try.func22, Try.ntmps22
    go_wp2
    generalize hV : (w.setCell ⟨s, 1, none⟩ (.int .i64 ((t : Int) + 1))) = V at *
    have HV := (show Hid _ from hV)
    clear hV
    go_region_held3 (fun W' => W' = V.drew) (first | rfl | assumption) (fail)
    go_wp2
    go_region_held3 (fun W' => W' = V.drew.drew) (first | rfl | assumption) (fail)
    go_wp2
    go_ret
    have e1 : Src (some ⟨b, off, none⟩) n cap Z s (t + 1) V := by rw [← HV.out]; exact HS.out.step
    have e2 : Keeps s w V := by rw [← HV.out]; exact (Keeps.refl _ _).set _ _
    exact ⟨v, rfl, hvl, e1.drew.drew, e2.drew.drew⟩
  · obtain ⟨v, hv⟩ : ∃ v : Nat, (y1 + (q : Int) * 37) % (m : Int) = (v : Int) := ⟨((y1 + (q : Int) * 37) % (m : Int)).toNat, by rw [Int.toNat_of_nonneg (Int.emod_nonneg _ (by omega))]⟩
    have hvl : v < m := by have := Int.emod_lt_of_pos (y1 + (q : Int) * 37) (show (0 : Int) < (m : Int) by omega); omega
    have hvt : (y1 + (q : Int) * 37).tmod (m : Int) = (v : Int) := by rw [Int.tmod_eq_emod_of_nonneg (by omega)]; exact hv
    have hbi : ¬ (200 : Int) < (m : Int) := by omega
    go_enter Try.func22, Try.ntmps22
    go_wp2
    generalize hV : (w.setCell ⟨s, 1, none⟩ (.int .i64 ((t : Int) + 1))) = V at *
    have HV := (show Hid _ from hV)
    clear hV
    go_region_held3 (fun W' => W' = V.drew) (first | rfl | assumption) (fail)
    go_wp2
    go_ret
    have e1 : Src (some ⟨b, off, none⟩) n cap Z s (t + 1) V := by rw [← HV.out]; exact HS.out.step
    have e2 : Keeps s w V := by rw [← HV.out]; exact (Keeps.refl _ _).set _ _
    exact ⟨v, rfl, hvl, e1.drew, e2.drew⟩

theorem l1Next_any (a : Option Addr) (n cap : Nat) (Z : Nat → Int) (s t m : Nat) (w : World) (h : Src a n cap Z s t w) (hcap : n ≤ cap) (ht : t ≤ 1000) (hm : 0 < m) (hmx : m ≤ 100000) :
    Calls Try.prog 22 #[.pointer (some ⟨s, 0, none⟩), .int .i64 m] w fun e w' => ∃ v : Nat, e = .returned (.int .i64 v) ∧ v < m ∧ Src a n cap Z s (t + 1) w' ∧ Keeps s w w' := by
  by_cases h0 : n = 0
  · subst h0
    exact l1Next_none a cap Z s t m w h ht hm hmx
  · rcases h.bytes with e | ⟨b, off, rfl, hs, hz⟩
    · omega
    · exact l1Next_some b off n cap Z s t m w h hs hz (by omega) hcap ht hm hmx
end Go.Proofs.Ytjkmjkfakolpfaa
