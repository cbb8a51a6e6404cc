/- Several texts in one. -/
import Derived.Test.YthadmnhpjklmiaaGreatVServeTile40
import Derived.Test.YthadmnhpjklmiaaGreatVServeTile38
import Derived.Test.YthadmnhpjklmiaaGreatVServeTile1
import Derived.OwnWalk
import Derived.Deep.DeepMust

/- BuildTile of the model. -/

namespace Go.Proofs.YthadmnhpjklmiaaGreat
open Go.RowKit
set_option linter.unusedSimpArgs false
set_option linter.unusedVariables false
set_option maxRecDepth 100000

/-- What is told with a code. -/
theorem bsAns_no {C z x y : Int} {n : Nat} {G : Nat → Feat} {a b c : Int} {w w' : World} {e : Ending} (hC : btC z x y n G = C) (h0 : C ≠ 0) (he : e = .returned (trV C 0 0 0 (.slice none 0 0))) (hb : Below w.heap.size w w') :
    BsAns (btC z x y n G) (btK z x y n G a) (btK z x y n G b) (btK z x y n G c) (btM z x y n G) (btG z x y n G) w e w' := by
  have hn : btC z x y n G ≠ 0 := by rw [hC]; exact h0
  have hm : btM z x y n G = 0 := by unfold btM; rw [if_neg hn]
  have hk : ∀ v, btK z x y n G v = 0 := fun v => by unfold btK; rw [if_neg hn]
  rw [hm, hk, hk, hk, hC]
  exact ⟨none, 0, G, he, .inl rfl, fun i hi => absurd hi (Nat.not_lt_zero _), Nat.le_refl _, hb⟩
set_option maxHeartbeats 8000000 in
theorem spec_BuildTile_any (z x y : Int) (b n cap : Nat) (G : Nat → Feat) (w : World) (hg : FsAt w b 0 n G) (hbl : b < w.heap.size) (hs : SmallFs n G) :
    Calls Tryz.prog 6 #[.slice (some ⟨b, 0, none⟩) n cap, refV z x y] w (BsAns (btC z x y n G) (btK z x y n G z) (btK z x y n G x) (btK z x y n G y) (btM z x y n G) (btG z x y n G) w) := by
  have HG : Hid (FsAt w b 0 n G) := hg
  have HS : Hid (SmallFs n G) := hs
  have HC0 : Hid (refB z x y = false → btC z x y n G = 3) := fun hr => by unfold btC; rw [hr]; rfl
  have HC1 : Hid (refB z x y = true → btC z x y n G = featsC n G) := fun hr => by unfold btC; rw [hr]; rfl
  clear hg hs
  go_enter Tryz.func6, Tryz.ntmps6
  go_wp2_with fail
  generalize hW : ((w.alloc _).alloc _ : World) = W
  have HB0 : Hid (Below w.heap.size w W) := by show Below _ _ _; subst hW; (repeat (first | exact Below.refl _ _ | assumption | refine Below.drew ?_ | refine bl_alloc ?_ _ | refine bl_then ?_ (by assumption) | refine Below.setCell ?_ (by first | omega | (simp; done) | (simp; omega)) _ | refine bl_store ?_ ?_ _ _))
  have hlW : W.heap.size = w.heap.size + 2 := by subst hW; simp
  have HT : Hid (There W (w.heap.size + 1) 5) := by
    show There _ _ _
    subst hW
    have := there5b (w.alloc (.cells #[.int .i64 z, .int .i64 x, .int .i64 y] 26)) (.int .i64 0) (.int .i64 0) (.int .i64 0) (.int .i64 0) (.slice none 0 0) 31
    simpa using this
  have HC : Hid (∀ W', Below W.heap.size W W' → W'.cell? ⟨w.heap.size, 0, none⟩ = some (.int .i64 z) ∧ W'.cell? ⟨w.heap.size, 1, none⟩ = some (.int .i64 x) ∧ W'.cell? ⟨w.heap.size, 2, none⟩ = some (.int .i64 y)) := fun W' h => by
    refine ⟨?_, ?_, ?_⟩ <;> (rw [h.cell (by simp; omega)]; subst hW; simp [go_sem])
  clear hW
  refine (l7Fault_any z x y _).mono ?_
  rintro e w1 ⟨rfl, hb1⟩
  have hT1 := HT.out.below hb1
  have HT1 : Hid (There w1 (w.heap.size + 1) 5) := hT1
  have HB1 : Hid (Below w.heap.size w w1) := bl_then HB0.out hb1
  have HW1 : Hid (Below W.heap.size W w1) := hb1
  have hle : w.heap.size ≤ w.heap.size + 1 := Nat.le_succ _
  clear hb1
  rcases refC_cases z x y with ⟨hrc, hrb⟩ | ⟨hrc, hrb⟩
  · rw [hrc]
    have HRB : Hid (refB z x y = true) := hrb
    clear hrc hrb hT1
    go_wp2_with fail
    refine (l2Many_any b n cap G _ (HG.out.below HB1.out hbl) (Nat.lt_of_lt_of_le hbl HB1.out.size) HS.out).mono ?_
    rintro e w2 ⟨rfl, hb2⟩
    have hT2 := HT1.out.below hb2
    have HT2 : Hid (There w2 (w.heap.size + 1) 5) := hT2
    have HB2 : Hid (Below w.heap.size w w2) := bl_then HB1.out hb2
    have hW2 : Below W.heap.size W w2 := bl_then HW1.out hb2
    obtain ⟨z0, z1, z2⟩ := HC.out _ hW2
    have hs2 := hW2.size
    clear hb2
    by_cases hf : featsC n G = 0
    · have HLB := (show Hid _ from l7Build_any z x y b n cap G w2 (HG.out.below HB2.out hbl) (Nat.lt_of_lt_of_le hbl HB2.out.size) HS.out hf HRB.out)
      have HZ : Hid (btC z x y n G = 0) := (HC1.out HRB.out).trans hf
      rw [hf]
      clear hf hT2
      go_wp2_with fail
      refine Calls.mono HLB.out ?_
      rintro e w3 ⟨a, c, T, rfl, hS, hsam, hc, hb3⟩
      have hT3 := HT2.out.below hb3
      have HT3 : Hid (There w3 (w.heap.size + 1) 5) := hT3
      have HB3 : Hid (Below w.heap.size w w3) := bl_then HB2.out hb3
      have HSR := (show Hid (SrcB w2.heap.size w3.heap.size w3 a (chs z x y n G).length T) from hS)
      have HSA := (show Hid (∀ i, i < (chs z x y n G).length → (T i).same (btG z x y n G i)) from hsam)
      have t0 := hT3.cell 0 (by omega)
      have t1 := hT3.cell 1 (by omega)
      have t2 := hT3.cell 2 (by omega)
      have t3 := hT3.cell 3 (by omega)
      have t4 := hT3.cell 4 (by omega)
      have f0 := (hT3 0 (by omega)).2
      have f1 := (hT3 1 (by omega)).2
      have f2 := (hT3 2 (by omega)).2
      have f3 := (hT3 3 (by omega)).2
      have f4 := (hT3 4 (by omega)).2
      clear hb3 hT3 hS hsam z0 z1 z2 HLB
      go_wp2_with fail
      obtain ⟨q0, q1, q2, q3, q4⟩ := set5_at (a := .int .i64 0) (b := .int .i64 z) (c := .int .i64 x) (d := .int .i64 y) (e := .slice a (chs z x y n G).length c) HT3.out
      refine bodyPost_ret (v := .agg #[.int .i64 0, .int .i64 z, .int .i64 x, .int .i64 y, .slice a (chs z x y n G).length c]) (by simp [results, Tryz.results6, go_sem, q0, q1, q2, q3, q4]) rfl ?_
      have hm : btM z x y n G = (chs z x y n G).length := by unfold btM; rw [if_pos HZ.out]
      have hk : ∀ v, btK z x y n G v = v := fun v => by unfold btK; rw [if_pos HZ.out]
      rw [hm, hk, hk, hk, HZ.out]
      refine ⟨a, c, T, rfl, ?_, HSA.out, hc, ((((HB3.out.setCell hle _).setCell hle _).setCell hle _).setCell hle _).setCell hle _⟩
      have h := (HSR.out.set5 (r := w.heap.size + 1) (v0 := .int .i64 0) (v1 := .int .i64 z) (v2 := .int .i64 x) (v3 := .int .i64 y) (v4 := .slice a (chs z x y n G).length c) (by omega)).wide HB2.out.size
      simpa using h
    · have hcb : (featsC n G == 0) = false := by simpa using hf
      have HCC : Hid (btC z x y n G = featsC n G) := HC1.out HRB.out
      have HNZ : Hid (featsC n G ≠ 0) := hf
      have t0 := hT2.cell 0 (by omega)
      have t1 := hT2.cell 1 (by omega)
      have t2 := hT2.cell 2 (by omega)
      have t3 := hT2.cell 3 (by omega)
      have t4 := hT2.cell 4 (by omega)
      have f0 := (hT2 0 (by omega)).2
      have f1 := (hT2 1 (by omega)).2
      have f2 := (hT2 2 (by omega)).2
      have f3 := (hT2 3 (by omega)).2
      have f4 := (hT2 4 (by omega)).2
      clear hf hT2 z0 z1 z2
      generalize hfc : featsC n G = fc at *
      go_wp2_with fail
      obtain ⟨q0, q1, q2, q3, q4⟩ := set5_at (a := .int .i64 fc) (b := .int .i64 0) (c := .int .i64 0) (d := .int .i64 0) (e := .slice none 0 0) HT2.out
      exact bodyPost_ret (v := .agg #[.int .i64 fc, .int .i64 0, .int .i64 0, .int .i64 0, .slice none 0 0]) (by simp [results, Tryz.results6, go_sem, q0, q1, q2, q3, q4]) rfl (bsAns_no HCC.out HNZ.out rfl (((((HB2.out.setCell hle _).setCell hle _).setCell hle _).setCell hle _).setCell hle _))
  · rw [hrc]
    have HCC : Hid (btC z x y n G = 3) := HC0.out hrb
    have t0 := hT1.cell 0 (by omega)
    have t1 := hT1.cell 1 (by omega)
    have t2 := hT1.cell 2 (by omega)
    have t3 := hT1.cell 3 (by omega)
    have t4 := hT1.cell 4 (by omega)
    have f0 := (hT1 0 (by omega)).2
    have f1 := (hT1 1 (by omega)).2
    have f2 := (hT1 2 (by omega)).2
    have f3 := (hT1 3 (by omega)).2
    have f4 := (hT1 4 (by omega)).2
    clear hrc hrb hT1
    go_wp2_with fail
    obtain ⟨q0, q1, q2, q3, q4⟩ := set5_at (a := .int .i64 3) (b := .int .i64 0) (c := .int .i64 0) (d := .int .i64 0) (e := .slice none 0 0) HT1.out
    exact bodyPost_ret (v := .agg #[.int .i64 3, .int .i64 0, .int .i64 0, .int .i64 0, .slice none 0 0]) (by simp [results, Tryz.results6, go_sem, q0, q1, q2, q3, q4]) rfl (bsAns_no HCC.out (by decide) rfl (((((HB1.out.setCell hle _).setCell hle _).setCell hle _).setCell hle _).setCell hle _))
end Go.Proofs.YthadmnhpjklmiaaGreat
/- A number is put behind bytes: the program's and the model's way. -/

namespace Go.Proofs.YthadmnhpjklmiaaGreat
open Go.RowKit
set_option linter.unusedSimpArgs false
set_option linter.unusedVariables false
set_option maxRecDepth 100000

/-- The bytes of a number. -/
def putI (n : Nat) : List Int := if n < 128 then [(n : Int)] else ((n % 128 + 128 : Nat) : Int) :: putI (n / 128)
termination_by n
decreasing_by omega
theorem putI_small {n : Nat} (h : n < 128) : putI n = [(n : Int)] := by rw [putI, if_pos h]
theorem putI_big {n : Nat} (h : ¬ n < 128) : putI n = ((n % 128 + 128 : Nat) : Int) :: putI (n / 128) := by rw [putI, if_neg h]
theorem putI_ne (n : Nat) : 0 < (putI n).length := by rw [putI]; split <;> simp
theorem putI_len : ∀ (k n : Nat), n < 128 ^ (k + 1) → (putI n).length ≤ k + 1
  | 0, n, h => by rw [putI_small (by omega)]; simp
  | k + 1, n, h => by
    by_cases hn : n < 128
    · rw [putI_small hn]; simp
    · rw [putI_big hn]
      have := putI_len k (n / 128) (by rw [Nat.div_lt_iff_lt_mul (by omega)]; rw [Nat.pow_succ] at h; omega)
      simp; omega
theorem putI_len6 (n : Nat) (h : n ≤ 1099511627776) : (putI n).length ≤ 6 := putI_len 5 n (by omega)
/-- The bytes and the code of PutNumber. -/
def pnC (n : Int) : Int := if inB n 0 1099511627776 = true then 0 else 3
def pnL (n : Int) : List Int := if inB n 0 1099511627776 = true then putI n.toNat else []

theorem or128_u8 (x : Nat) (h : x < 256) : bits .or .u8 (x : Int) 128 = ((x % 128 + 128 : Nat) : Int) := by
  have : ∀ y : Fin 256, bits .or .u8 (y.val : Int) 128 = ((y.val % 128 + 128 : Nat) : Int) := by decide
  exact this ⟨x, h⟩

set_option maxHeartbeats 4000000 in
theorem putNumber_any (base : Nat) (v : Value) (l : List Int) (n : Nat) (w : World) (hO : RowB base w v l) (hbase : base ≤ w.heap.size) (hn : n ≤ 1099511627776) (hl : l.length ≤ 2000) :
    Calls Tryz.prog 67 #[v, .int .u64 (n : Int)] w fun e w' => ∃ v', e = .returned v' ∧ RowB base w' v' (l ++ putI n) ∧ Below base w w' := by
  obtain ⟨i0, hi, hz0, hz1, hz2⟩ := info_parts info_u8
  have HO : Hid (RowB base w v l) := hO
  clear hO
  go_enter Tryz.func67, Tryz.ntmps67
  go_wp2_with fail
  go_loopw [0, 1] (fun u m wr => ∃ (k : Nat) (l' : List Int), m = .int .u64 (k : Int) ∧ k ≤ 1099511627776 ∧ l' ++ putI k = l ++ putI n ∧ RowB base wr u l' ∧ base ≤ wr.heap.size ∧ Below base w wr) (fun _ m _ => (intOf m).toNat)
  case atStart => exact ⟨n, l, rfl, hn, rfl, HO.out, hbase, Below.refl _ _⟩
  case round =>
    obtain ⟨k, l', rfl, hk, hlk, hO, hbs, hB⟩ := hrel
    have HL : Hid (l' ++ putI k = l ++ putI n) := hlk
    have HO' : Hid (RowB base wr u0 l') := hO
    have HB' : Hid (Below base w wr) := hB
    have hlen : l'.length ≤ 2006 := by have h6 := putI_len6 n hn; have h7 := congrArg List.length HL.out; simp at h7; omega
    clear hlk hO hB HO
    by_cases hlt : k < 128
    · have h1 : ¬ (128 : Int) ≤ (k : Int) := by omega
      have e1 : IntKind.u8.wrap (k : Int) = (k : Int) := by rw [IntKind.wrap_u8]; omega
      go_wp2_with (first
        | (at_builtin; go_must (refine wpList_append_own _ rfl _ _ 40 rfl base 5 i0 (.int .u8 0) 1 1 Tryz.underlying40 hi hz0 hz1 hz2 rfl (by decide) _ l'.length (cellsB l') rfl (HO'.out.alloc _) ⟨wr.heap.size, 0, none⟩ 1 1 [.int .u8 (k : Int)] rfl rfl ?c1 ?c2 ?c3 ?c4 ?c5 ?_)))
      case c2 => first | rfl | (intro u hu; simp at hu; subst hu; rfl)
      case c3 => unfold maxLen; omega
      case c4 => omega
      case c5 => first | (simp; omega) | omega
      intro v' w3 hown' hgrow hnil
      have hBa : Below base wr (wr.alloc (.cells #[.int .u8 (k : Int)] 5)) := (Below.refl _ _).alloc hbs _
      have hBg : Below base (wr.alloc (.cells #[.int .u8 (k : Int)] 5)) w3 := (Below.refl _ _).grown hgrow (by simp; omega) (fun k hk => (HO'.out.lt k hk).1)
      have HB3 : Hid (Below base w w3) := (HB'.out.trans hBa).trans hBg
      have HO3 : Hid (RowB base w3 v' (l' ++ [(k : Int)])) := by
        show RowB _ _ _ _
        unfold RowB
        rw [cellsB_add]
        simpa [cellsB] using hown'
      have HL3 : Hid (l' ++ [(k : Int)] = l ++ putI n) := by show _ = _; rw [← HL.out, putI_small hlt]
      clear hown' hgrow hnil hBa hBg HL HO' HB'
      go_wp2
      go_ret
      exact ⟨_, rfl, by rw [← HL3.out]; exact HO3.out, HB3.out⟩
    · have h1 : (128 : Int) ≤ (k : Int) := by omega
      have e1 : IntKind.u8.wrap (k : Int) = ((k % 256 : Nat) : Int) := by rw [IntKind.wrap_u8]; omega
      obtain ⟨q, hq⟩ : ∃ q : Nat, k % 128 + 128 = q := ⟨_, rfl⟩
      have e2 : bits .or .u8 ((k : Int) % 256) 128 = (q : Int) := by have := or128_u8 (k % 256) (by omega); rw [show ((k % 256 : Nat) : Int) = (k : Int) % 256 by omega] at this; rw [this]; omega
      have HQ : Hid (k % 128 + 128 = q) := hq
      clear hq
      clear e1
      go_wp2_with (first
        | (at_builtin; go_must (refine wpList_append_own _ rfl _ _ 40 rfl base 5 i0 (.int .u8 0) 1 1 Tryz.underlying40 hi hz0 hz1 hz2 rfl (by decide) _ l'.length (cellsB l') rfl (HO'.out.alloc _) ⟨wr.heap.size, 0, none⟩ 1 1 [.int .u8 (q : Int)] rfl rfl ?d1 ?d2 ?d3 ?d4 ?d5 ?_)))
      case d1 =>
        intro j u hj
        match j, hj with
        | 0, hj => simp at hj; subst hj; simp [Addr.add, go_sem]
        | j + 1, hj => simp at hj
      case d2 => first | rfl | (intro u hu; simp at hu; subst hu; rfl)
      case d3 => unfold maxLen; omega
      case d4 => omega
      case d5 => first | (simp; omega) | omega
      intro v' w3 hown' hgrow hnil
      have hBa : Below base wr (wr.alloc (.cells #[.int .u8 (q : Int)] 5)) := (Below.refl _ _).alloc hbs _
      have hBg : Below base (wr.alloc (.cells #[.int .u8 (q : Int)] 5)) w3 := (Below.refl _ _).grown hgrow (by simp; omega) (fun k hk => (HO'.out.lt k hk).1)
      have HB3 : Hid (Below base w w3) := (HB'.out.trans hBa).trans hBg
      have hz : base ≤ w3.heap.size := by have := hBg.size; simp at this; omega
      have HO3 : Hid (RowB base w3 v' (l' ++ [(q : Int)])) := by
        show RowB _ _ _ _
        unfold RowB
        rw [cellsB_add]
        simpa [cellsB] using hown'
      have HL3 : Hid ((l' ++ [(q : Int)]) ++ putI (k / 128) = l ++ putI n) := by show _ = _; rw [← HL.out, putI_big hlt, HQ.out]; simp
      clear hown' hgrow hnil hBa hBg HL HO' HB'
      obtain ⟨r, hr⟩ : ∃ r : Nat, k / 128 = r := ⟨_, rfl⟩
      have e5 : (k : Int) / 128 = (r : Int) := by omega
      have e6 : (k : Int).fdiv (2 ^ min (Int.toNat 7) IntKind.u64.bits) = (r : Int) := by
        rw [show (2 : Int) ^ min (Int.toNat 7) IntKind.u64.bits = 128 from rfl, Int.fdiv_eq_ediv_of_nonneg _ (by omega)]; exact e5
      rw [hr] at HL3
      have hrk : r < k := by omega
      clear hr
      go_wp2
      go_roundw
      case rel => exact ⟨r, _, by first | rfl | go_num | (simp; done) | omega, by omega, HL3.out, HO3.out, hz, HB3.out⟩
      case measure => simp [intOf]; omega
set_option maxHeartbeats 4000000 in
theorem l6Put_any (n : Nat) (w : World) (hn : n ≤ 1099511627776) : Calls Tryz.prog 99 #[.int .i64 (n : Int)] w fun e w' => ∃ v, e = .returned v ∧ RowB w.heap.size w' v (putI n) ∧ Below w.heap.size w w' := by
  induction n using Nat.strongRecOn generalizing w with
  | ind n ih =>
    by_cases hlt : n < 128
    · have h1 : (n : Int) < 128 := by omega
      have e1 : IntKind.u8.wrap (n : Int) = (n : Int) := by rw [IntKind.wrap_u8]; omega
      clear ih
      go_enter Tryz.func99, Tryz.ntmps99
      go_wp2
      go_ret
      refine ⟨_, rfl, ?_, by (repeat (first | exact Below.refl _ _ | assumption | refine Below.drew ?_ | refine bl_alloc ?_ _ | refine bl_then ?_ (by assumption) | refine Below.setCell ?_ (by first | omega | (simp; done) | (simp; omega)) _ | refine bl_store ?_ ?_ _ _))⟩
      rw [putI_small hlt]
      exact World.ownsRow_lit (base := w.heap.size) w #[.int .u8 (n : Int)] 1 (Nat.le_refl _) (by decide) rfl
    · have h1 : ¬ (n : Int) < 128 := by omega
      obtain ⟨i0, hi, hz0, hz1, hz2⟩ := info_parts info_u8
      obtain ⟨q, hq⟩ : ∃ q : Nat, n % 128 + 128 = q := ⟨_, rfl⟩
      obtain ⟨r, hr⟩ : ∃ r : Nat, n / 128 = r := ⟨_, rfl⟩
      have e0 : (n : Int).tmod 128 + 128 = (q : Int) := by rw [Int.tmod_eq_emod_of_nonneg (by omega)]; omega
      have e2 : (n : Int) % 128 + 128 = (q : Int) := by omega
      have e1 : IntKind.u8.wrap (q : Int) = (q : Int) := by rw [IntKind.wrap_u8]; omega
      have e3 : (n : Int).tdiv 128 = (r : Int) := by rw [Int.tdiv_eq_ediv_of_nonneg (by omega)]; omega
      have e4 : (n : Int) / 128 = (r : Int) := by omega
      have IH : Hid (∀ w, Calls Tryz.prog 99 #[.int .i64 (r : Int)] w fun e w' => ∃ v, e = .returned v ∧ RowB w.heap.size w' v (putI r) ∧ Below w.heap.size w w') := fun w => hr ▸ ih (n / 128) (by omega) w (by omega)
      have HP : Hid (putI n = (q : Int) :: putI r) := by show _ = _; rw [putI_big hlt, hq, hr]
      have h6 : (putI r).length ≤ 6 := putI_len6 r (by omega)
      clear ih hq hr
      go_enter Tryz.func99, Tryz.ntmps99
      go_wp2_with fail
      generalize hW : (w.alloc _ : World) = W
      have hB0 : Below w.heap.size w W := by subst hW; (repeat (first | exact Below.refl _ _ | assumption | refine Below.drew ?_ | refine bl_alloc ?_ _ | refine bl_then ?_ (by assumption) | refine Below.setCell ?_ (by first | omega | (simp; done) | (simp; omega)) _ | refine bl_store ?_ ?_ _ _))
      have hO0 : RowB w.heap.size W (.slice (some ⟨w.heap.size, 0, none⟩) 1 1) [(q : Int)] := by
        subst hW
        exact World.ownsRow_lit (base := w.heap.size) w #[.int .u8 (q : Int)] 1 (Nat.le_refl _) (by decide) rfl
      clear hW
      refine (IH.out W).mono ?_
      rintro e w1 ⟨v, rfl, hR, hb1⟩
      have HO1 : Hid (RowB w.heap.size w1 (.slice (some ⟨w.heap.size, 0, none⟩) 1 1) [(q : Int)]) := hO0.below hb1
      have HB1 : Hid (Below w.heap.size w w1) := bl_then hB0 hb1
      obtain ⟨g, cap, rfl, hg1, hg2, hc2, hbs⟩ := hR.at (putI_ne r)
      have HS : Hid (BsAt w1 g 0 (putI r).length (zz (putI r))) := hbs
      have hle := HB1.out.size
      clear hR hb1 hO0 hB0 hbs
      go_wp2_with (first
        | (at_builtin; go_must (refine wpList_append_own _ rfl _ _ 40 rfl w.heap.size 5 i0 (.int .u8 0) 1 1 Tryz.underlying40 hi hz0 hz1 hz2 rfl (by decide) _ 1 (cellsB [(q : Int)]) rfl HO1.out ⟨g, 0, none⟩ (putI r).length cap (cellsB (putI r)) rfl (by simp [cellsB]) HS.out.news (cellsB_one _) ?c3 ?c4 ?c5 ?_)))
      case c3 => unfold maxLen; omega
      case c4 => omega
      case c5 => first | omega | (simp; omega)
      intro v' w3 hown' hgrow hnil
      have hBg : Below w.heap.size w1 w3 := (Below.refl _ _).grown hgrow hle (fun k hk => (HO1.out.lt k hk).1)
      have HB3 : Hid (Below w.heap.size w w3) := HB1.out.trans hBg
      have HO3 : Hid (RowB w.heap.size w3 v' (putI n)) := by
        show RowB _ _ _ _
        rw [HP.out]
        unfold RowB
        have e : cellsB ((q : Int) :: putI r) = cellsB [(q : Int)] ++ cellsB (putI r) := by simp [cellsB]
        rw [e, List.length_cons, Nat.add_comm]
        exact hown'
      clear hown' hgrow hnil hBg HO1 HB1
      go_wp2
      go_ret
      exact ⟨_, rfl, HO3.out, HB3.out⟩
end Go.Proofs.YthadmnhpjklmiaaGreat
/- Numbers on either side of 0 are folded, and unfolded. -/

namespace Go.Proofs.YthadmnhpjklmiaaGreat
open Go.RowKit
set_option linter.unusedSimpArgs false
set_option linter.unusedVariables false

/-- A number, folded. -/
def foldI (n : Int) : Int := if n < 0 then -2 * n - 1 else 2 * n
/-- A number, unfolded. -/
def unfoldI (n : Int) : Int := if n % 2 = 1 then -(n / 2) - 1 else n / 2
/-- The answer of FoldNumber. -/
def foldV (n : Int) : Value := if inB n (-1073741824) 1073741824 = true then .agg #[.int .i64 0, .int .i64 (foldI n)] else .agg #[.int .i64 3, .int .i64 0]
def unfoldV (n : Int) : Value := if inB n 0 2147483648 = true then .agg #[.int .i64 0, .int .i64 (unfoldI n)] else .agg #[.int .i64 3, .int .i64 0]
theorem unfold_fold (n : Int) : unfoldI (foldI n) = n := by unfold unfoldI foldI; split <;> split <;> omega
theorem fold_unfold (n : Int) (h : 0 ≤ n) : foldI (unfoldI n) = n := by unfold unfoldI foldI; split <;> split <;> omega
theorem foldI_bd {n B : Int} (h : -B ≤ n) (h' : n ≤ B) : 0 ≤ foldI n ∧ foldI n ≤ 2 * B := by unfold foldI; split <;> omega
theorem unfoldI_bd {n B : Int} (h : 0 ≤ n) (h' : n ≤ 2 * B) : -B ≤ unfoldI n ∧ unfoldI n ≤ B := by unfold unfoldI; split <;> omega
theorem inB_bd {n lo hi : Int} (h : inB n lo hi = true) : lo ≤ n ∧ n ≤ hi := by simpa [inB] using h

theorem impl_fold_any (n : Int) (w : World) (h1 : -1099511627776 ≤ n) (h2 : n ≤ 1099511627776) : Calls Tryz.prog 137 #[.int .i64 n] w fun e w' => e = .returned (.int .u64 (foldI n)) ∧ w = w' := by
  unfold foldI
  by_cases hn : n < 0
  · rw [if_pos hn]
    have e1 : IntKind.u64.wrap (-n) = -n := by rw [IntKind.wrap_u64]; omega
    have e2 : IntKind.u64.wrap (2 * -n) = 2 * -n := by rw [IntKind.wrap_u64]; omega
    have e3 : IntKind.u64.wrap (2 * -n - 1) = 2 * -n - 1 := by rw [IntKind.wrap_u64]; omega
    have e0 : IntKind.i64.wrap (-n) = -n := IntWalk.i64_in _ (by omega)
    go_enter Tryz.func137, Tryz.ntmps137
    go_wp2
    go_ret
    exact ⟨ret_int (by omega), rfl⟩
  · rw [if_neg hn]
    have e1 : IntKind.u64.wrap n = n := by rw [IntKind.wrap_u64]; omega
    have e2 : IntKind.u64.wrap (2 * n) = 2 * n := by rw [IntKind.wrap_u64]; omega
    go_enter Tryz.func137, Tryz.ntmps137
    go_wp2
    go_ret
    exact ⟨ret_int (by omega), rfl⟩
theorem l6Fold_any (n : Int) (w : World) (h1 : -1099511627776 ≤ n) (h2 : n ≤ 1099511627776) : Calls Tryz.prog 136 #[.int .i64 n] w fun e w' => e = .returned (.int .i64 (foldI n)) ∧ w = w' := by
  unfold foldI
  by_cases hn : n < 0
  · rw [if_pos hn]
    have hn' : ¬ 0 ≤ n := by omega
    go_enter Tryz.func136, Tryz.ntmps136
    go_wp2
    go_ret
    exact ⟨ret_int (by omega), rfl⟩
  · rw [if_neg hn]
    have hn' : 0 ≤ n := by omega
    go_enter Tryz.func136, Tryz.ntmps136
    go_wp2
    go_ret
    exact ⟨ret_int (by omega), rfl⟩
end Go.Proofs.YthadmnhpjklmiaaGreat
