/- Several texts in one. -/
import Derived.Test.YtcbpaockahkakaaVReadTile2
import Derived.OwnWalk
import Derived.Deep.DeepMust
import Derived.Laws.Bits64b
import Derived.Test.YtcbpaockahkakaaVReadTile1

/- A number is put behind bytes: the program's and the model's way. -/

namespace Go.Proofs.Ytcbpaockahkakaa
open Go.RowKit
set_option linter.unusedSimpArgs false
set_option linter.unusedVariables false
set_option maxRecDepth 100000

/-- The bytes of a number. -/
def putI (n : Nat) : List Int := if n < 128 then [(n : Int)] else ((n % 128 + 128 : Nat) : Int) :: putI (n / 128)
termination_by n
decreasing_by omega
theorem putI_small {n : Nat} (h : n < 128) : putI n = [(n : Int)] := by rw [putI, if_pos h]
theorem putI_big {n : Nat} (h : ¬ n < 128) : putI n = ((n % 128 + 128 : Nat) : Int) :: putI (n / 128) := by rw [putI, if_neg h]
theorem putI_ne (n : Nat) : 0 < (putI n).length := by rw [putI]; split <;> simp
theorem putI_len : ∀ (k n : Nat), n < 128 ^ (k + 1) → (putI n).length ≤ k + 1
  | 0, n, h => by rw [putI_small (by omega)]; simp
  | k + 1, n, h => by
    by_cases hn : n < 128
    · rw [putI_small hn]; simp
    · rw [putI_big hn]
      have := putI_len k (n / 128) (by rw [Nat.div_lt_iff_lt_mul (by omega)]; rw [Nat.pow_succ] at h; omega)
      simp; omega
theorem putI_len6 (n : Nat) (h : n ≤ 1099511627776) : (putI n).length ≤ 6 := putI_len 5 n (by omega)
/-- The bytes and the code of PutNumber. -/
def pnC (n : Int) : Int := if inB n 0 1099511627776 = true then 0 else 3
def pnL (n : Int) : List Int := if inB n 0 1099511627776 = true then putI n.toNat else []

theorem or128_u8 (x : Nat) (h : x < 256) : bits .or .u8 (x : Int) 128 = ((x % 128 + 128 : Nat) : Int) := by
  have : ∀ y : Fin 256, bits .or .u8 (y.val : Int) 128 = ((y.val % 128 + 128 : Nat) : Int) := by decide
  exact this ⟨x, h⟩

set_option maxHeartbeats 4000000 in
theorem putNumber_any (base : Nat) (v : Value) (l : List Int) (n : Nat) (w : World) (hO : RowB base w v l) (hbase : base ≤ w.heap.size) (hn : n ≤ 1099511627776) (hl : l.length ≤ 2000) :
    Calls Try.prog 39 #[v, .int .u64 (n : Int)] w fun e w' => ∃ v', e = .returned v' ∧ RowB base w' v' (l ++ putI n) ∧ Below base w w' := by
  obtain ⟨i0, hi, hz0, hz1, hz2⟩ := info_parts info_u8
  have HO : Hid (RowB base w v l) := hO
  clear hO
  go_enter Try.func39, Try.ntmps39
  go_wp2_with fail
  go_loopw [0, 1] (fun u m wr => ∃ (k : Nat) (l' : List Int), m = .int .u64 (k : Int) ∧ k ≤ 1099511627776 ∧ l' ++ putI k = l ++ putI n ∧ RowB base wr u l' ∧ base ≤ wr.heap.size ∧ Below base w wr) (fun _ m _ => (intOf m).toNat)
  case atStart => exact ⟨n, l, rfl, hn, rfl, HO.out, hbase, Below.refl _ _⟩
  case round =>
    obtain ⟨k, l', rfl, hk, hlk, hO, hbs, hB⟩ := hrel
    have HL : Hid (l' ++ putI k = l ++ putI n) := hlk
    have HO' : Hid (RowB base wr u0 l') := hO
    have HB' : Hid (Below base w wr) := hB
    have hlen : l'.length ≤ 2006 := by have h6 := putI_len6 n hn; have h7 := congrArg List.length HL.out; simp at h7; omega
    clear hlk hO hB HO
    by_cases hlt : k < 128
    · have h1 : ¬ (128 : Int) ≤ (k : Int) := by omega
      have e1 : IntKind.u8.wrap (k : Int) = (k : Int) := by rw [IntKind.wrap_u8]; omega
      go_wp2_with (first
        | (at_builtin; go_must (refine wpList_append_own _ rfl _ _ 22 rfl base 5 i0 (.int .u8 0) 1 1 Try.underlying22 hi hz0 hz1 hz2 rfl (by decide) _ l'.length (cellsB l') rfl (HO'.out.alloc _) ⟨wr.heap.size, 0, none⟩ 1 1 [.int .u8 (k : Int)] rfl rfl ?c1 ?c2 ?c3 ?c4 ?c5 ?_)))
      case c2 => first | rfl | (intro u hu; simp at hu; subst hu; rfl)
      case c3 => unfold maxLen; omega
      case c4 => omega
      case c5 => first | (simp; omega) | omega
      intro v' w3 hown' hgrow hnil
      have hBa : Below base wr (wr.alloc (.cells #[.int .u8 (k : Int)] 5)) := (Below.refl _ _).alloc hbs _
      have hBg : Below base (wr.alloc (.cells #[.int .u8 (k : Int)] 5)) w3 := (Below.refl _ _).grown hgrow (by simp; omega) (fun k hk => (HO'.out.lt k hk).1)
      have HB3 : Hid (Below base w w3) := (HB'.out.trans hBa).trans hBg
      have HO3 : Hid (RowB base w3 v' (l' ++ [(k : Int)])) := by
        show RowB _ _ _ _
        unfold RowB
        rw [cellsB_add]
        simpa [cellsB] using hown'
      have HL3 : Hid (l' ++ [(k : Int)] = l ++ putI n) := by show _ = _; rw [← HL.out, putI_small hlt]
      clear hown' hgrow hnil hBa hBg HL HO' HB'
      go_wp2
      go_ret
      exact ⟨_, rfl, by rw [← HL3.out]; exact HO3.out, HB3.out⟩
    · have h1 : (128 : Int) ≤ (k : Int) := by omega
      have e1 : IntKind.u8.wrap (k : Int) = ((k % 256 : Nat) : Int) := by rw [IntKind.wrap_u8]; omega
      obtain ⟨q, hq⟩ : ∃ q : Nat, k % 128 + 128 = q := ⟨_, rfl⟩
      have e2 : bits .or .u8 ((k : Int) % 256) 128 = (q : Int) := by have := or128_u8 (k % 256) (by omega); rw [show ((k % 256 : Nat) : Int) = (k : Int) % 256 by omega] at this; rw [this]; omega
      have HQ : Hid (k % 128 + 128 = q) := hq
      clear hq
      clear e1
      go_wp2_with (first
        | (at_builtin; go_must (refine wpList_append_own _ rfl _ _ 22 rfl base 5 i0 (.int .u8 0) 1 1 Try.underlying22 hi hz0 hz1 hz2 rfl (by decide) _ l'.length (cellsB l') rfl (HO'.out.alloc _) ⟨wr.heap.size, 0, none⟩ 1 1 [.int .u8 (q : Int)] rfl rfl ?d1 ?d2 ?d3 ?d4 ?d5 ?_)))
      case d1 =>
        intro j u hj
        match j, hj with
        | 0, hj => simp at hj; subst hj; simp [Addr.add, go_sem]
        | j + 1, hj => simp at hj
      case d2 => first | rfl | (intro u hu; simp at hu; subst hu; rfl)
      case d3 => unfold maxLen; omega
      case d4 => omega
      case d5 => first | (simp; omega) | omega
      intro v' w3 hown' hgrow hnil
      have hBa : Below base wr (wr.alloc (.cells #[.int .u8 (q : Int)] 5)) := (Below.refl _ _).alloc hbs _
      have hBg : Below base (wr.alloc (.cells #[.int .u8 (q : Int)] 5)) w3 := (Below.refl _ _).grown hgrow (by simp; omega) (fun k hk => (HO'.out.lt k hk).1)
      have HB3 : Hid (Below base w w3) := (HB'.out.trans hBa).trans hBg
      have hz : base ≤ w3.heap.size := by have := hBg.size; simp at this; omega
      have HO3 : Hid (RowB base w3 v' (l' ++ [(q : Int)])) := by
        show RowB _ _ _ _
        unfold RowB
        rw [cellsB_add]
        simpa [cellsB] using hown'
      have HL3 : Hid ((l' ++ [(q : Int)]) ++ putI (k / 128) = l ++ putI n) := by show _ = _; rw [← HL.out, putI_big hlt, HQ.out]; simp
      clear hown' hgrow hnil hBa hBg HL HO' HB'
      obtain ⟨r, hr⟩ : ∃ r : Nat, k / 128 = r := ⟨_, rfl⟩
      have e5 : (k : Int) / 128 = (r : Int) := by omega
      have e6 : (k : Int).fdiv (2 ^ min (Int.toNat 7) IntKind.u64.bits) = (r : Int) := by
        rw [show (2 : Int) ^ min (Int.toNat 7) IntKind.u64.bits = 128 from rfl, Int.fdiv_eq_ediv_of_nonneg _ (by omega)]; exact e5
      rw [hr] at HL3
      have hrk : r < k := by omega
      clear hr
      go_wp2
      go_roundw
      case rel => exact ⟨r, _, by first | rfl | go_num | (simp; done) | omega, by omega, HL3.out, HO3.out, hz, HB3.out⟩
      case measure => simp [intOf]; omega
set_option maxHeartbeats 4000000 in
theorem l6Put_any (n : Nat) (w : World) (hn : n ≤ 1099511627776) : Calls Try.prog 57 #[.int .i64 (n : Int)] w fun e w' => ∃ v, e = .returned v ∧ RowB w.heap.size w' v (putI n) ∧ Below w.heap.size w w' := by
  induction n using Nat.strongRecOn generalizing w with
  | ind n ih =>
    by_cases hlt : n < 128
    · have h1 : (n : Int) < 128 := by omega
      have e1 : IntKind.u8.wrap (n : Int) = (n : Int) := by rw [IntKind.wrap_u8]; omega
      clear ih
      go_enter Try.func57, Try.ntmps57
      go_wp2
      go_ret
      refine ⟨_, rfl, ?_, by (repeat (first | exact Below.refl _ _ | assumption | refine Below.drew ?_ | refine bl_alloc ?_ _ | refine bl_then ?_ (by assumption) | refine Below.setCell ?_ (by first | omega | (simp; done) | (simp; omega)) _ | refine bl_store ?_ ?_ _ _))⟩
      rw [putI_small hlt]
      exact World.ownsRow_lit (base := w.heap.size) w #[.int .u8 (n : Int)] 1 (Nat.le_refl _) (by decide) rfl
    · have h1 : ¬ (n : Int) < 128 := by omega
      obtain ⟨i0, hi, hz0, hz1, hz2⟩ := info_parts info_u8
      obtain ⟨q, hq⟩ : ∃ q : Nat, n % 128 + 128 = q := ⟨_, rfl⟩
      obtain ⟨r, hr⟩ : ∃ r : Nat, n / 128 = r := ⟨_, rfl⟩
      have e0 : (n : Int).tmod 128 + 128 = (q : Int) := by rw [Int.tmod_eq_emod_of_nonneg (by omega)]; omega
      have e2 : (n : Int) % 128 + 128 = (q : Int) := by omega
      have e1 : IntKind.u8.wrap (q : Int) = (q : Int) := by rw [IntKind.wrap_u8]; omega
      have e3 : (n : Int).tdiv 128 = (r : Int) := by rw [Int.tdiv_eq_ediv_of_nonneg (by omega)]; omega
      have e4 : (n : Int) / 128 = (r : Int) := by omega
      have IH : Hid (∀ w, Calls Try.prog 57 #[.int .i64 (r : Int)] w fun e w' => ∃ v, e = .returned v ∧ RowB w.heap.size w' v (putI r) ∧ Below w.heap.size w w') := fun w => hr ▸ ih (n / 128) (by omega) w (by omega)
      have HP : Hid (putI n = (q : Int) :: putI r) := by show _ = _; rw [putI_big hlt, hq, hr]
      have h6 : (putI r).length ≤ 6 := putI_len6 r (by omega)
      clear ih hq hr
      go_enter Try.func57, Try.ntmps57
      go_wp2_with fail
      generalize hW : (w.alloc _ : World) = W
      have hB0 : Below w.heap.size w W := by subst hW; (repeat (first | exact Below.refl _ _ | assumption | refine Below.drew ?_ | refine bl_alloc ?_ _ | refine bl_then ?_ (by assumption) | refine Below.setCell ?_ (by first | omega | (simp; done) | (simp; omega)) _ | refine bl_store ?_ ?_ _ _))
      have hO0 : RowB w.heap.size W (.slice (some ⟨w.heap.size, 0, none⟩) 1 1) [(q : Int)] := by
        subst hW
        exact World.ownsRow_lit (base := w.heap.size) w #[.int .u8 (q : Int)] 1 (Nat.le_refl _) (by decide) rfl
      clear hW
      refine (IH.out W).mono ?_
      rintro e w1 ⟨v, rfl, hR, hb1⟩
      have HO1 : Hid (RowB w.heap.size w1 (.slice (some ⟨w.heap.size, 0, none⟩) 1 1) [(q : Int)]) := hO0.below hb1
      have HB1 : Hid (Below w.heap.size w w1) := bl_then hB0 hb1
      obtain ⟨g, cap, rfl, hg1, hg2, hc2, hbs⟩ := hR.at (putI_ne r)
      have HS : Hid (BsAt w1 g 0 (putI r).length (zz (putI r))) := hbs
      have hle := HB1.out.size
      clear hR hb1 hO0 hB0 hbs
      go_wp2_with (first
        | (at_builtin; go_must (refine wpList_append_own _ rfl _ _ 22 rfl w.heap.size 5 i0 (.int .u8 0) 1 1 Try.underlying22 hi hz0 hz1 hz2 rfl (by decide) _ 1 (cellsB [(q : Int)]) rfl HO1.out ⟨g, 0, none⟩ (putI r).length cap (cellsB (putI r)) rfl (by simp [cellsB]) HS.out.news (cellsB_one _) ?c3 ?c4 ?c5 ?_)))
      case c3 => unfold maxLen; omega
      case c4 => omega
      case c5 => first | omega | (simp; omega)
      intro v' w3 hown' hgrow hnil
      have hBg : Below w.heap.size w1 w3 := (Below.refl _ _).grown hgrow hle (fun k hk => (HO1.out.lt k hk).1)
      have HB3 : Hid (Below w.heap.size w w3) := HB1.out.trans hBg
      have HO3 : Hid (RowB w.heap.size w3 v' (putI n)) := by
        show RowB _ _ _ _
        rw [HP.out]
        unfold RowB
        have e : cellsB ((q : Int) :: putI r) = cellsB [(q : Int)] ++ cellsB (putI r) := by simp [cellsB]
        rw [e, List.length_cons, Nat.add_comm]
        exact hown'
      clear hown' hgrow hnil hBg HO1 HB1
      go_wp2
      go_ret
      exact ⟨_, rfl, HO3.out, HB3.out⟩
theorem l6Top_any (n : Int) (w : World) : Calls Try.prog 105 #[.int .i64 n] w fun e w' => e = .returned (.bool (inB n 0 1099511627776)) ∧ w = w' := by
  go_enter Try.func105, Try.ntmps105
  go_wp2_with (go_at_call 82; refine (l1In_any _ _ _ _).mono ?_; rintro e w' ⟨rfl, rfl⟩)
  go_ret
  exact ⟨rfl, rfl⟩
end Go.Proofs.Ytcbpaockahkakaa
/- What a number is that is read from bytes: no program in sight. -/

namespace Go.Proofs.Ytcbpaockahkakaa
open Go.RowKit
set_option linter.unusedVariables false

/-- A number read from place i on, a read so far. -/
def rdFrom (Z : Nat → Int) (n : Nat) : Nat → Nat → Nat → Option (Nat × Nat)
  | 0, _, _ => none
  | f + 1, i, a =>
    if i < n then
      if (Z i).toNat < 128 then
        if (0 < i ∧ (Z i).toNat = 0) ∨ 1099511627776 < a + (Z i).toNat % 128 * 128 ^ i then none else some (a + (Z i).toNat % 128 * 128 ^ i, i + 1)
      else rdFrom Z n f (i + 1) (a + (Z i).toNat % 128 * 128 ^ i)
    else none
/-- The number at the beginning of n bytes, and how many of them it has. -/
def rd (Z : Nat → Int) (n : Nat) : Option (Nat × Nat) := rdFrom Z n 6 0 0
theorem rdFrom_end (Z : Nat → Int) (n f i a : Nat) (h : ¬ i < n) : rdFrom Z n f i a = none := by
  cases f with
  | zero => rfl
  | succ f => unfold rdFrom; rw [if_neg h]
theorem rdFrom_more {Z : Nat → Int} {n f i a z p : Nat} (h : i < n) (hz : Z i = (z : Int)) (h8 : ¬ z < 128) (hp : z % 128 * 128 ^ i = p) : rdFrom Z n (f + 1) i a = rdFrom Z n f (i + 1) (a + p) := by
  subst hp
  rw [rdFrom, if_pos h, hz, Int.toNat_natCast, if_neg h8]
theorem rdFrom_last {Z : Nat → Int} {n f i a z p : Nat} (h : i < n) (hz : Z i = (z : Int)) (h8 : z < 128) (hp : z % 128 * 128 ^ i = p) : rdFrom Z n (f + 1) i a = if (0 < i ∧ z = 0) ∨ 1099511627776 < a + p then none else some (a + p, i + 1) := by
  subst hp
  rw [rdFrom, if_pos h, hz, Int.toNat_natCast, if_pos h8]
theorem rdFrom_bd {Z : Nat → Int} {n : Nat} : ∀ {f i a : Nat} {x : Nat × Nat}, rdFrom Z n f i a = some x → x.1 ≤ 1099511627776 ∧ i < x.2 ∧ x.2 ≤ n ∧ x.2 ≤ i + f
  | 0, i, a, x, h => by simp [rdFrom] at h
  | f + 1, i, a, x, h => by
    unfold rdFrom at h
    split at h
    · split at h
      · split at h
        · cases h
        · rename_i h1 h2 h3
          injection h with h
          subst h
          simp only [not_or, Nat.not_lt] at h3
          refine ⟨h3.2, ?_, ?_, ?_⟩ <;> simp only <;> omega
      · have := rdFrom_bd h
        omega
    · cases h
theorem rd_bd {Z : Nat → Int} {n : Nat} {x : Nat × Nat} (h : rd Z n = some x) : x.1 ≤ 1099511627776 ∧ 0 < x.2 ∧ x.2 ≤ n ∧ x.2 ≤ 6 := by
  have := rdFrom_bd h
  omega
/-- Of a power up to the fifth. -/
theorem pow_bd {k : Nat} (h : k ≤ 5) : 0 < 128 ^ k ∧ 128 ^ k ≤ 34359738368 := ⟨Nat.pow_pos (by omega), Nat.le_trans (Nat.pow_le_pow_right (by omega) h) (by decide)⟩
theorem part_bd {z U : Nat} (hU : U ≤ 34359738368) : z % 128 * U ≤ 127 * U ∧ z % 128 * U ≤ 4363686772736 := by
  have h1 : z % 128 * U ≤ 127 * U := Nat.mul_le_mul_right _ (by omega)
  omega
theorem pow7 (k : Nat) : (2 : Nat) ^ (k * 7) = 128 ^ k := by rw [Nat.mul_comm, Nat.pow_mul]
theorem or_part {a z k : Nat} (ha : a < 128 ^ k) (hk : k ≤ 5) : bits .or .u64 (a : Int) ((z % 128 * 128 ^ k : Nat) : Int) = ((a + z % 128 * 128 ^ k : Nat) : Int) := by
  obtain ⟨h1, h2⟩ := pow_bd hk
  obtain ⟨h3, h4⟩ := part_bd (z := z) h2
  rw [bits_or_u64_nat _ _ (by omega) (by omega)]
  congr 1
  have h := Nat.two_pow_add_eq_or_of_lt (i := k * 7) (b := a) (by rw [pow7]; exact ha) (z % 128)
  rw [pow7] at h
  rw [Nat.or_comm, Nat.mul_comm (z % 128), ← h, Nat.add_comm]
end Go.Proofs.Ytcbpaockahkakaa
/- All but one block is as it was. -/

namespace Go.Proofs.Ytcbpaockahkakaa
open Go.RowKit
set_option linter.unusedVariables false

/-- All that was there but block s is as it was. -/
structure Keeps (s : Nat) (w w' : World) : Prop where
  os : w'.os = w.os
  tape : w'.tape = w.tape
  output : w'.output = w.output
  size : w.heap.size ≤ w'.heap.size
  block : ∀ k, k < w.heap.size → k ≠ s → w'.heap[k]? = w.heap[k]?
theorem Keeps.refl (s : Nat) (w : World) : Keeps s w w := ⟨rfl, rfl, rfl, Nat.le_refl _, fun _ _ _ => rfl⟩
theorem Keeps.trans {s : Nat} {a b c : World} (h : Keeps s a b) (k : Keeps s b c) : Keeps s a c :=
  ⟨k.os.trans h.os, k.tape.trans h.tape, k.output.trans h.output, Nat.le_trans h.size k.size, fun j hj hs => (k.block j (Nat.lt_of_lt_of_le hj h.size) hs).trans (h.block j hj hs)⟩
theorem Keeps.of_below {s : Nat} {w w' : World} (h : Below w.heap.size w w') : Keeps s w w' := ⟨h.os, h.tape, h.output, h.size, fun k hk _ => h.block k hk⟩
theorem Keeps.cell {s : Nat} {w w' : World} (h : Keeps s w w') {p : Addr} (hp : p.block < w.heap.size) (hs : p.block ≠ s) : w'.cell? p = w.cell? p := World.cell?_of_block (w := w) (h.block _ hp hs)
theorem Keeps.frozen {s : Nat} {w w' : World} (h : Keeps s w w') {p : Addr} (hp : p.block < w.heap.size) (hs : p.block ≠ s) : w'.frozen? p = w.frozen? p := World.frozen?_of_block (w := w) (h.block _ hp hs)
theorem Keeps.drew {s : Nat} {a w : World} (h : Keeps s a w) : Keeps s a w.drew := ⟨h.os, h.tape, h.output, h.size, h.block⟩
theorem Keeps.set {s : Nat} {a w : World} (h : Keeps s a w) (o : Nat) (v : Value) : Keeps s a (w.setCell ⟨s, o, none⟩ v) := by
  refine h.trans ?_
  have hb : Below s w (w.setCell ⟨s, o, none⟩ v) := (Below.refl s w).setCell (Nat.le_refl _) v
  exact ⟨hb.os, hb.tape, hb.output, hb.size, fun k _ hk => Below.heap_setCell w ⟨s, o, none⟩ v k hk⟩
theorem Keeps.below {s B : Nat} {w w' : World} (h : Keeps s w w') (hB : B ≤ s) (hBw : B ≤ w.heap.size) : Below B w w' := ⟨h.os, h.tape, h.output, h.size, fun k hk => h.block k (by omega) (by omega)⟩
end Go.Proofs.Ytcbpaockahkakaa
