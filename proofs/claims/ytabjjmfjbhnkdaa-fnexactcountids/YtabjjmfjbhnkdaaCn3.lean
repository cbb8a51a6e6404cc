/- Which Ids are seen in a raster: the program and the model. -/
import Derived.Test.YtabjjmfjbhnkdaaCn2
import Derived.Test.YtabjjmfjbhnkdaaU8c
namespace Go.Proofs.Ytabjjmfjbhnkdaa
open Go.RowKit
set_option linter.unusedSimpArgs false
set_option linter.unusedVariables false
set_option maxRecDepth 100000

/-- The Ids that CountIds tells. -/
def cntR (n : Nat) (Z : Nat → Int) : List Int := if rasC n Z = 0 then cntL Z 999 else []
theorem cntL_add (Z : Nat → Int) (k : Nat) : cntL Z (k + 1) = cntL Z k ++ (if ((List.range 64).any fun j => decide (Z j = ((k + 1 : Nat) : Int))) = true then [((k + 1 : Nat) : Int)] else []) := by
  unfold cntL
  rw [List.range_succ (n := k), List.map_append, List.filter_append]
  congr 1
  simp only [List.map_cons, List.map_nil, List.filter_cons, List.filter_nil]
theorem cntL_len (Z : Nat → Int) (k : Nat) : (cntL Z k).length ≤ k := by
  unfold cntL
  exact Nat.le_trans (List.length_filter_le _ _) (by simp)
set_option maxHeartbeats 4000000 in
theorem impl_CountIds_any (a : Option Addr) (n cap : Nat) (Z : Nat → Int) (w : World) (hp : IsNs w a n Z) (hn : n ≤ 1048576) :
    Calls Try.prog 21 #[.slice a n cap] w fun e w' => ∃ v, e = .returned (.agg #[.int .i64 (rasC n Z), v]) ∧ OwnN w' w.heap.size v (cntR n Z).length (nz (cntR n Z)) ∧ Below w.heap.size w w' := by
  obtain ⟨i0, hi, hz0, hz1, hz2⟩ := info_parts info_n64
  have HP : Hid (IsNs w a n Z) := hp
  clear hp
  go_enter Try.func21, Try.ntmps21
  go_wp2_with fail
  generalize hW : (w.alloc _ : World) = W
  have hB0 : Below w.heap.size w W := by subst hW; (repeat (first | exact Below.refl _ _ | assumption | refine Below.drew ?_ | refine bl_alloc ?_ _ | refine bl_then ?_ (by assumption) | refine Below.setCell ?_ (by first | omega | (simp; done) | (simp; omega)) _ | refine bl_store ?_ ?_ _ _))
  have hT0 : There W w.heap.size 2 := by subst hW; exact there2u w (.int .i64 0) (.slice none 0 0) 30
  have hsz : w.heap.size < W.heap.size := by subst hW; simp
  clear hW
  have HB0 : Hid (Below w.heap.size w W) := hB0
  have HT0 : Hid (There W w.heap.size 2) := hT0
  have HPW : Hid (IsNs W a n Z) := HP.out.below hB0
  clear hB0 hT0
  refine (rasterFault_any a n cap Z _ HPW.out hn).mono ?_
  rintro e w1 ⟨rfl, rfl⟩
  by_cases hk0 : rasC n Z = 0
  · have hr : n = 64 ∧ rasB Z 64 = true := by
      rcases rasC_cases n Z with ⟨h, _⟩ | ⟨h, _⟩ | ⟨_, h⟩
      · omega
      · omega
      · exact h
    obtain ⟨rfl, hras⟩ := hr
    have HL : Hid (Lib.compact ((seenL Z 64).mergeSort fun x y => decide (x ≤ y)) = cntR 64 Z) := by
      show _ = _
      rw [cnt_eq (fun i hi => by have := rasB_at hras hi; simpa [inB] using this)]
      unfold cntR
      rw [if_pos hk0]
    have HK0 : Hid (rasC 64 Z = 0) := hk0
    rw [hk0]
    rcases HPW.out with hx | ⟨b, off, rfl, hbl, hzs⟩
    · omega
    have HZS : Hid (NsAt W b off 64 Z) := hzs
    clear hzs hk0 hras
    go_wp2_with fail
    go_loopw [4, 15] (fun v j wr => ∃ k : Nat, k ≤ 64 ∧ j = .int .i64 (k : Int) ∧ RowN W.heap.size wr v (seenL Z k) ∧ Below W.heap.size W wr) (fun _ j _ => 64 - (intOf j).toNat)
    case atStart => exact ⟨0, by omega, rfl, RowN.no _ _, Below.refl _ _⟩
    case round =>
      obtain ⟨k, hk, rfl, hO, hB⟩ := hrel
      have HO : Hid (RowN W.heap.size wr u4 (seenL Z k)) := hO
      have HB : Hid (Below W.heap.size W wr) := hB
      have hszr : W.heap.size ≤ wr.heap.size := hB.size
      have c0 : k < 64 → wr.cell? ⟨b, off + k, none⟩ = some (.int .i64 (Z k)) := fun h => (hB.cell (p := ⟨b, off + k, none⟩) hbl).trans (HZS.out k h)
      clear hO hB
      by_cases hlt : k < 64
      · have c0' := c0 hlt
        have hki : (k : Int) < 64 := by omega
        have hk0' : (0 : Int) ≤ (k : Int) := by omega
        have HA : Hid (seenL Z (k + 1) = seenL Z k ++ (if 0 < Z k then [Z k] else [])) := seenL_add Z k
        have hlen := seenL_len Z k
        clear c0
        generalize Z k = z at *
        by_cases hz : 0 < z
        · rw [if_pos hz] at HA
          have hblk : ∀ b, u4.ownBlock = some b → W.heap.size ≤ b := fun b hb => (World.ownsRow.lt HO.out b hb).1
          go_wp2_with (first
            | (at_builtin; go_must (refine wpList_append_own _ rfl _ _ 24 rfl W.heap.size 2 i0 (.int .i64 0) 1 8 Try.underlying24 hi hz0 hz1 hz2 rfl (by decide) _ (seenL Z k).length ((seenL Z k).map (.int .i64 ·)) rfl (World.ownsRow.alloc HO.out _) ⟨wr.heap.size, 0, none⟩ 1 1 [.int .i64 z] rfl rfl ?c1 ?c2 ?c3 ?c4 ?c5 ?_)))
          case c1 =>
            intro q u hq
            match q, hq with
            | 0, hq => simp at hq; subst hq; simp [Addr.add, go_sem]
            | q + 1, hq => simp at hq
          case c2 => intro u hu; simp at hu; subst hu; rfl
          case c3 => unfold maxLen; omega
          case c4 => omega
          case c5 => simp; omega
          intro v' w3 hown' hgrow hnil
          clear hnil
          generalize hV : (wr.alloc _ : World) = V at hgrow
          have hBV : Below wr.heap.size wr V := by subst hV; (repeat (first | exact Below.refl _ _ | assumption | refine Below.drew ?_ | refine bl_alloc ?_ _ | refine bl_then ?_ (by assumption) | refine Below.setCell ?_ (by first | omega | (simp; done) | (simp; omega)) _ | refine bl_store ?_ ?_ _ _))
          have hBg : Below W.heap.size V w3 := (Below.refl _ _).grown hgrow (by have := hBV.size; omega) (fun k hk => hblk k hk)
          have HB3 : Hid (Below W.heap.size W w3) := HB.out.trans ((hBV.mono hszr).trans hBg)
          have HO3 : Hid (RowN W.heap.size w3 v' (seenL Z (k + 1))) := by
            show RowN _ _ _ _
            rw [HA.out]
            show World.ownsRow _ _ _ _ _ _ _
            rw [List.length_append, List.map_append]
            exact hown'
          clear hown' hgrow hBg hBV hV HO HB hblk
          go_wp2
          go_roundw
          case rel => exact ⟨k + 1, by omega, by go_num, HO3.out, HB3.out⟩
          case measure => simp [intOf]; omega
        · rw [if_neg hz, List.append_nil] at HA
          go_wp2
          go_roundw
          case rel => exact ⟨k + 1, by omega, by go_num, by rw [HA.out]; exact HO.out, HB.out⟩
          case measure => simp [intOf]; omega
      · have hke : k = 64 := by omega
        subst hke
        have HRI := (show Hid _ from rising_any W.heap.size u4 (seenL Z 64) wr HO.out (Nat.le_trans (seenL_len Z 64) (by omega)))
        rw [HL.out] at HRI
        clear c0
        go_wp2_with fail
        refine Calls.mono HRI.out ?_
        rintro e w4 ⟨v4, rfl, hO4, hb4⟩
        have hBW := bl_then HB.out hb4
        have hT4 := HT0.out.below hBW
        have r0 := hT4.cell 0 (by omega)
        have r1 := hT4.cell 1 (by omega)
        have f0 := (hT4 0 (by omega)).2
        have f1 := (hT4 1 (by omega)).2
        obtain ⟨av, cv, hvs, _, _⟩ := id hO4
        subst hvs
        have HO4 : Hid (OwnN w4 wr.heap.size (.slice av (cntR 64 Z).length cv) (cntR 64 Z).length (nz (cntR 64 Z))) := hO4
        have HB4 : Hid (Below w.heap.size w w4) := bl_then HB0.out hBW
        clear hO4 hb4 hBW hT4 HRI HL
        obtain ⟨L, hLL⟩ : ∃ L, cntR 64 Z = L := ⟨_, rfl⟩
        have HLL : Hid (cntR 64 Z = L) := hLL
        rw [hLL] at HO4 ⊢
        clear hLL
        go_wp2_with fail
        obtain ⟨q0, q1⟩ := set2_at (u := .int .i64 0) (v := .slice av L.length cv) (show (0 : Nat) ≠ 1 by omega) (by rw [r0]; rfl) (by rw [r1]; rfl)
        refine bodyPost_ret (v := .agg #[.int .i64 0, .slice av L.length cv]) (by simp [results, Try.results21, go_sem, q0, q1]) rfl ⟨.slice av L.length cv, by rw [HK0.out], by rw [HLL.out]; exact ((HO4.out.set (r := w.heap.size) (by omega)).set (r := w.heap.size) (by omega)).widen (by omega), ?_⟩
        have HB := HB4.out
        (repeat (first | exact Below.refl _ _ | assumption | refine Below.drew ?_ | refine bl_alloc ?_ _ | refine bl_then ?_ (by assumption) | refine Below.setCell ?_ (by first | omega | (simp; done) | (simp; omega)) _ | refine bl_store ?_ ?_ _ _))
  · have HQ : Hid (cntR n Z = []) := by show _ = _; unfold cntR; rw [if_neg hk0]
    have hT0 := HT0.out
    have r0 := hT0.cell 0 (by omega)
    have r1 := hT0.cell 1 (by omega)
    have f0 := (hT0 0 (by omega)).2
    have f1 := (hT0 1 (by omega)).2
    clear hT0
    obtain ⟨k, hkk⟩ : ∃ k, rasC n Z = k := ⟨_, rfl⟩
    have HKK : Hid (rasC n Z = k) := hkk
    rw [hkk] at hk0 ⊢
    clear hkk
    have hk' : (k == 0) = false := by simpa using hk0
    go_wp2_with fail
    obtain ⟨q0, q1⟩ := set2_at (u := .int .i64 k) (v := .slice none 0 0) (show (0 : Nat) ≠ 1 by omega) (by rw [r0]; rfl) (by rw [r1]; rfl)
    refine bodyPost_ret (v := .agg #[.int .i64 k, .slice none 0 0]) (by simp [results, Try.results21, go_sem, q0, q1]) rfl ⟨.slice none 0 0, by rw [HKK.out], by rw [HQ.out]; exact OwnN.nil _ _ _, ?_⟩
    have HB := HB0.out
    (repeat (first | exact Below.refl _ _ | assumption | refine Below.drew ?_ | refine bl_alloc ?_ _ | refine bl_then ?_ (by assumption) | refine Below.setCell ?_ (by first | omega | (simp; done) | (simp; omega)) _ | refine bl_store ?_ ?_ _ _))
set_option maxHeartbeats 4000000 in
theorem spec_CountIds_any (a : Option Addr) (n cap : Nat) (Z : Nat → Int) (w : World) (hp : IsNs w a n Z) (hn : n ≤ 1048576) :
    Calls Try.prog 20 #[.slice a n cap] w fun e w' => ∃ v, e = .returned (.agg #[.int .i64 (rasC n Z), v]) ∧ OwnN w' w.heap.size v (cntR n Z).length (nz (cntR n Z)) ∧ Below w.heap.size w w' := by
  obtain ⟨i0, hi, hz0, hz1, hz2⟩ := info_parts info_n64
  have HP : Hid (IsNs w a n Z) := hp
  clear hp
  go_enter Try.func20, Try.ntmps20
  go_wp2_with fail
  generalize hW : (w.alloc _ : World) = W
  have hB0 : Below w.heap.size w W := by subst hW; (repeat (first | exact Below.refl _ _ | assumption | refine Below.drew ?_ | refine bl_alloc ?_ _ | refine bl_then ?_ (by assumption) | refine Below.setCell ?_ (by first | omega | (simp; done) | (simp; omega)) _ | refine bl_store ?_ ?_ _ _))
  have hT0 : There W w.heap.size 2 := by subst hW; exact there2u w (.int .i64 0) (.slice none 0 0) 30
  have hsz : W.heap.size = w.heap.size + 1 := by subst hW; simp
  clear hW
  have HSZ : Hid (W.heap.size = w.heap.size + 1) := hsz
  have HB0 : Hid (Below w.heap.size w W) := hB0
  have HT0 : Hid (There W w.heap.size 2) := hT0
  have HPW : Hid (IsNs W a n Z) := HP.out.below hB0
  clear hB0 hT0 hsz
  refine (l8Ids_any a n cap Z _ HPW.out hn).mono ?_
  rintro e w1 ⟨rfl, rfl⟩
  by_cases hk0 : rasC n Z = 0
  · have hr : n = 64 := by
      rcases rasC_cases n Z with ⟨h, _⟩ | ⟨h, _⟩ | ⟨_, h⟩
      · omega
      · omega
      · exact h.1
    subst hr
    have HL : Hid (cntR 64 Z = cntL Z 999) := by show _ = _; unfold cntR; rw [if_pos hk0]
    have HK0 : Hid (rasC 64 Z = 0) := hk0
    rw [hk0]
    rcases HPW.out with hx | ⟨b, off, rfl, hbl, hzs⟩
    · omega
    have HZS : Hid (NsAt W b off 64 Z) := hzs
    clear hzs hk0
    go_wp2_with fail
    generalize hV5 : (W.alloc _ : World) = W5
    have hb5 : Below W.heap.size W W5 := by subst hV5; (repeat (first | exact Below.refl _ _ | assumption | refine Below.drew ?_ | refine bl_alloc ?_ _ | refine bl_then ?_ (by assumption) | refine Below.setCell ?_ (by first | omega | (simp; done) | (simp; omega)) _ | refine bl_store ?_ ?_ _ _))
    have HT5 : Hid (There W5 W.heap.size 2) := by
      show There _ _ _
      subst hV5
      exact there2u W (.int .i64 0) (.slice none 0 0) 30
    have p0 : W5.cell? ⟨W.heap.size, 0, none⟩ = some (.int .i64 0) := by subst hV5; simp [go_sem]
    have p1 : W5.cell? ⟨W.heap.size, 1, none⟩ = some (.slice none 0 0) := by subst hV5; simp [go_sem]
    have HS5 : Hid (W5.heap.size = W.heap.size + 1) := by show _ = _; subst hV5; simp
    clear hV5
    have HB5 : Hid (Below W.heap.size W W5) := hb5
    clear hb5
    go_loopw [5] (fun j wr => ∃ (k : Nat) (v : Value), k ≤ 999 ∧ j = .int .i64 ((k : Int) + 1) ∧ RowN W5.heap.size wr v (cntL Z k) ∧ wr.cell? ⟨W.heap.size, 0, none⟩ = some (.int .i64 0) ∧ wr.cell? ⟨W.heap.size, 1, none⟩ = some v ∧ There wr W.heap.size 2 ∧ Below W.heap.size W wr ∧ W5.heap.size ≤ wr.heap.size) (fun j _ => 1000 - (intOf j).toNat)
    case atStart => exact ⟨0, .slice none 0 0, by omega, rfl, RowN.no _ _, p0, p1, HT5.out, HB5.out, Nat.le_refl _⟩
    case round =>
      obtain ⟨k, v, hk, rfl, hO, q0, q1, hT6, hB6, hs6⟩ := hrel
      have HO : Hid (RowN W5.heap.size wr v (cntL Z k)) := hO
      have HT6 : Hid (There wr W.heap.size 2) := hT6
      have HB6 : Hid (Below W.heap.size W wr) := hB6
      clear hO hT6 hB6 p0 p1 HB5 HT5
      by_cases hlt : k < 999
      · have hki : (k : Int) + 1 ≤ 999 := by omega
        have HN : Hid (NsAt wr b off 64 Z) := HZS.out.below HB6.out hbl
        have HA : Hid (cntL Z (k + 1) = cntL Z k ++ (if ((List.range 64).any fun j => decide (Z j = ((k + 1 : Nat) : Int))) = true then [((k + 1 : Nat) : Int)] else [])) := cntL_add Z k
        go_wp2_with fail
        go_loopw [6, 7] (fun f i wr' => ∃ j : Nat, j ≤ 64 ∧ i = .int .i64 (j : Int) ∧ f = .bool ((List.range j).any fun j => decide (Z j = ((k + 1 : Nat) : Int))) ∧ wr = wr') (fun _ i _ => 64 - (intOf i).toNat)
        case atStart => exact ⟨0, by omega, rfl, rfl, rfl⟩
        case round =>
          obtain ⟨j, hj, rfl, rfl, rfl⟩ := hrel
          have hn64 : ((64 : Nat) : Int) = 64 := rfl
          cases hf : ((List.range j).any fun j => decide (Z j = ((k + 1 : Nat) : Int)))
          · by_cases hj64 : j < 64
            · have c0 := HN.out j hj64
              have hji : (j : Int) < 64 := by omega
              have hj0 : (0 : Int) ≤ (j : Int) := by omega
              have HF : Hid (((List.range (j + 1)).any fun j => decide (Z j = ((k + 1 : Nat) : Int))) = decide (Z j = ((k + 1 : Nat) : Int))) := by
                show _ = _
                rw [List.range_succ, List.any_append, hf]
                simp
              have hb1 : (Z j == (k : Int) + 1) = decide (Z j = ((k + 1 : Nat) : Int)) := by
                rw [Bool.eq_iff_iff]
                simp
              obtain ⟨bz, hbz⟩ : ∃ bz, decide (Z j = ((k + 1 : Nat) : Int)) = bz := ⟨_, rfl⟩
              rw [hbz] at HF hb1
              clear hbz hf
              generalize Z j = zj at *
              go_wp2
              go_roundw
              case rel => exact ⟨j + 1, by omega, by go_num, by rw [HF.out], trivial⟩
              case measure => simp [intOf]; omega
            · have hje : j = 64 := by omega
              subst hje
              rw [hf] at HA
              have HA' : Hid (cntL Z (k + 1) = cntL Z k) := by show _ = _; rw [HA.out]; simp
              clear hf HA
              go_wp2
              go_roundw
              case rel => exact ⟨k + 1, v, by omega, by go_num, by rw [HA'.out]; exact HO.out, q0, q1, HT6.out, HB6.out, hs6⟩
              case measure => simp [intOf]; omega
          · have hf64 : ((List.range 64).any fun j => decide (Z j = ((k + 1 : Nat) : Int))) = true := by
              rw [List.any_eq_true] at hf ⊢
              obtain ⟨x, hx, hx'⟩ := hf
              exact ⟨x, by simp at hx ⊢; omega, hx'⟩
            rw [hf64] at HA
            have HA' : Hid (cntL Z (k + 1) = cntL Z k ++ [(k : Int) + 1]) := by show _ = _; rw [HA.out]; simp
            have hlen := cntL_len Z k
            obtain ⟨va, vc, hvs, _, _⟩ := HO.out.own
            subst hvs
            have hblk : ∀ b, (Value.slice va (cntL Z k).length vc).ownBlock = some b → W5.heap.size ≤ b := fun b hb => (World.ownsRow.lt HO.out b hb).1
            clear hf hf64 HA
            by_cases hj64 : j < 64
            · have hji : (j : Int) < 64 := by omega
              have u1 := (HT6.out 1 (by omega)).2
              have h45 : W.heap.size < W5.heap.size := by have := HS5.out; omega
              go_wp2_with (first
                | (at_builtin; go_must (refine wpList_append_own _ rfl _ _ 24 rfl W5.heap.size 2 i0 (.int .i64 0) 1 8 Try.underlying24 hi hz0 hz1 hz2 rfl (by decide) _ (cntL Z k).length ((cntL Z k).map (.int .i64 ·)) rfl (World.ownsRow.alloc HO.out _) ⟨wr.heap.size, 0, none⟩ 1 1 [.int .i64 ((k : Int) + 1)] rfl rfl ?c1a ?c2a ?c3a ?c4a ?c5a ?_)))
              case c1a =>
                intro q u hq
                match q, hq with
                | 0, hq => simp at hq; subst hq; simp [Addr.add, go_sem]
                | q + 1, hq => simp at hq
              case c2a => intro u hu; simp at hu; subst hu; rfl
              case c3a => unfold maxLen; omega
              case c4a => omega
              case c5a => simp; omega
              intro v' w3 hown' hgrow hnil
              clear hnil
              generalize hV : (wr.alloc _ : World) = V at hgrow
              have hBV : Below wr.heap.size wr V := by subst hV; (repeat (first | exact Below.refl _ _ | assumption | refine Below.drew ?_ | refine bl_alloc ?_ _ | refine bl_then ?_ (by assumption) | refine Below.setCell ?_ (by first | omega | (simp; done) | (simp; omega)) _ | refine bl_store ?_ ?_ _ _))
              have hBg : Below W5.heap.size V w3 := (Below.refl _ _).grown hgrow (by have := hBV.size; omega) (fun k hk => hblk k hk)
              have hB3 : Below W5.heap.size wr w3 := (hBV.mono hs6).trans hBg
              have HO3 : Hid (RowN W5.heap.size w3 v' (cntL Z (k + 1))) := by
                show RowN _ _ _ _
                rw [HA'.out]
                show World.ownsRow _ _ _ _ _ _ _
                rw [List.length_append, List.map_append]
                exact hown'
              have n0 : w3.cell? ⟨W.heap.size, 0, none⟩ = some (.int .i64 0) := (hB3.cell (p := ⟨W.heap.size, 0, none⟩) h45).trans q0
              have n1 := (hB3.cell (p := ⟨W.heap.size, 1, none⟩) h45).trans q1
              have HU4 : Hid (There w3 W.heap.size 2) := fun o ho => by
                obtain ⟨⟨x, hx⟩, hf⟩ := HT6.out o ho
                exact ⟨⟨x, (hB3.cell (p := ⟨W.heap.size, o, none⟩) h45).trans hx⟩, (hB3.frozen (p := ⟨W.heap.size, o, none⟩) h45).trans hf⟩
              have u1' := (HU4.out 1 (by omega)).2
              have HB4 : Hid (Below W.heap.size W w3) := HB6.out.trans (hB3.mono (Nat.le_of_lt h45))
              have hsz4 : W5.heap.size ≤ w3.heap.size := Nat.le_trans hs6 hB3.size
              obtain ⟨a3, c3, hv3, _, _⟩ := HO3.out.own
              subst hv3
              clear hown' hgrow hBg hBV hV hB3 u1 q0 q1 hblk HO HT6
              go_wp2
              go_roundw
              case rel =>
                refine ⟨k + 1, _, by omega, by go_num, HO3.out.other h45, ?_, set1_same n1, HU4.out.setN _ _, HB4.out.setCell (Nat.le_refl _) _, by simpa [World.setCell] using hsz4⟩
                rw [set1_other (fun e => by injection e with _ e; omega)]; exact n0
              case measure => simp [intOf]; omega
            · have hji : ¬ (j : Int) < 64 := by omega
              have u1 := (HT6.out 1 (by omega)).2
              have h45 : W.heap.size < W5.heap.size := by have := HS5.out; omega
              go_wp2_with (first
                | (at_builtin; go_must (refine wpList_append_own _ rfl _ _ 24 rfl W5.heap.size 2 i0 (.int .i64 0) 1 8 Try.underlying24 hi hz0 hz1 hz2 rfl (by decide) _ (cntL Z k).length ((cntL Z k).map (.int .i64 ·)) rfl (World.ownsRow.alloc HO.out _) ⟨wr.heap.size, 0, none⟩ 1 1 [.int .i64 ((k : Int) + 1)] rfl rfl ?d1y ?d2y ?d3y ?d4y ?d5y ?_)))
              case d2y => first | rfl | (intro u hu; simp at hu; subst hu; rfl)
              case d3y => first | omega | (unfold maxLen; omega)
              case d4y => omega
              case d5y => first | omega | (simp; omega)
              intro v' w3 hown' hgrow hnil
              clear hnil
              generalize hV : (wr.alloc _ : World) = V at hgrow
              have hBV : Below wr.heap.size wr V := by subst hV; (repeat (first | exact Below.refl _ _ | assumption | refine Below.drew ?_ | refine bl_alloc ?_ _ | refine bl_then ?_ (by assumption) | refine Below.setCell ?_ (by first | omega | (simp; done) | (simp; omega)) _ | refine bl_store ?_ ?_ _ _))
              have hBg : Below W5.heap.size V w3 := (Below.refl _ _).grown hgrow (by have := hBV.size; omega) (fun k hk => hblk k hk)
              have hB3 : Below W5.heap.size wr w3 := (hBV.mono hs6).trans hBg
              have HO3 : Hid (RowN W5.heap.size w3 v' (cntL Z (k + 1))) := by
                show RowN _ _ _ _
                rw [HA'.out]
                show World.ownsRow _ _ _ _ _ _ _
                rw [List.length_append, List.map_append]
                exact hown'
              have n0 : w3.cell? ⟨W.heap.size, 0, none⟩ = some (.int .i64 0) := (hB3.cell (p := ⟨W.heap.size, 0, none⟩) h45).trans q0
              have n1 := (hB3.cell (p := ⟨W.heap.size, 1, none⟩) h45).trans q1
              have HU4 : Hid (There w3 W.heap.size 2) := fun o ho => by
                obtain ⟨⟨x, hx⟩, hf⟩ := HT6.out o ho
                exact ⟨⟨x, (hB3.cell (p := ⟨W.heap.size, o, none⟩) h45).trans hx⟩, (hB3.frozen (p := ⟨W.heap.size, o, none⟩) h45).trans hf⟩
              have u1' := (HU4.out 1 (by omega)).2
              have HB4 : Hid (Below W.heap.size W w3) := HB6.out.trans (hB3.mono (Nat.le_of_lt h45))
              have hsz4 : W5.heap.size ≤ w3.heap.size := Nat.le_trans hs6 hB3.size
              obtain ⟨a3, c3, hv3, _, _⟩ := HO3.out.own
              subst hv3
              clear hown' hgrow hBg hBV hV hB3 u1 q0 q1 hblk HO HT6
              go_wp2
              go_roundw
              case rel =>
                refine ⟨k + 1, _, by omega, by go_num, HO3.out.other h45, ?_, set1_same n1, HU4.out.setN _ _, HB4.out.setCell (Nat.le_refl _) _, by simpa [World.setCell] using hsz4⟩
                rw [set1_other (fun e => by injection e with _ e; omega)]; exact n0
              case measure => simp [intOf]; omega
      · have hke : k = 999 := by omega
        subst hke
        obtain ⟨va, vc, hvs, _, _⟩ := HO.out.own
        subst hvs
        have hTx := HT0.out.below HB6.out
        have r0 := hTx.cell 0 (by omega)
        have r1 := hTx.cell 1 (by omega)
        have f0 := (hTx 0 (by omega)).2
        have f1 := (hTx 1 (by omega)).2
        have HON : Hid (OwnN wr W5.heap.size (.slice va (cntL Z 999).length vc) (cntL Z 999).length (nz (cntL Z 999))) := HO.out.own
        have HBf : Hid (Below w.heap.size w wr) := bl_then HB0.out HB6.out
        have hs5' := HS5.out
        have hsz' := HSZ.out
        have HLX := HL
        clear hTx HO
        generalize cntL Z 999 = L at *
        have hlw : w.heap.size < W.heap.size := by omega
        have hW5 : w.heap.size < W5.heap.size := by omega
        have hW5' : w.heap.size ≤ W5.heap.size := by omega
        clear hs5' hsz'
        go_wp2_with fail
        obtain ⟨x0, x1⟩ := set2_at (r := w.heap.size) (u := .int .i64 0) (v := .slice va L.length vc) (show (0 : Nat) ≠ 1 by omega) (by rw [r0]; rfl) (by rw [r1]; rfl)
        refine bodyPost_ret (v := .agg #[.int .i64 0, .slice va L.length vc]) (by simp [results, Try.results20, go_sem, x0, x1]) rfl ⟨.slice va L.length vc, by rw [HK0.out], by rw [HL.out]; exact ((HON.out.set (r := w.heap.size) hW5).set (r := w.heap.size) hW5).widen hW5', ?_⟩
        have HB := HBf.out
        (repeat (first | exact Below.refl _ _ | assumption | refine Below.drew ?_ | refine bl_alloc ?_ _ | refine bl_then ?_ (by assumption) | refine Below.setCell ?_ (by first | omega | (simp; done) | (simp; omega)) _ | refine bl_store ?_ ?_ _ _))
  · have HQ : Hid (cntR n Z = []) := by show _ = _; unfold cntR; rw [if_neg hk0]
    have hT0 := HT0.out
    have r0 := hT0.cell 0 (by omega)
    have r1 := hT0.cell 1 (by omega)
    have f0 := (hT0 0 (by omega)).2
    have f1 := (hT0 1 (by omega)).2
    clear hT0
    obtain ⟨k, hkk⟩ : ∃ k, rasC n Z = k := ⟨_, rfl⟩
    have HKK : Hid (rasC n Z = k) := hkk
    rw [hkk] at hk0 ⊢
    clear hkk
    have hk' : (k == 0) = false := by simpa using hk0
    go_wp2_with fail
    obtain ⟨q0, q1⟩ := set2_at (u := .int .i64 k) (v := .slice none 0 0) (show (0 : Nat) ≠ 1 by omega) (by rw [r0]; rfl) (by rw [r1]; rfl)
    refine bodyPost_ret (v := .agg #[.int .i64 k, .slice none 0 0]) (by simp [results, Try.results20, go_sem, q0, q1]) rfl ⟨.slice none 0 0, by rw [HKK.out], by rw [HQ.out]; exact OwnN.nil _ _ _, ?_⟩
    have HB := HB0.out
    (repeat (first | exact Below.refl _ _ | assumption | refine Below.drew ?_ | refine bl_alloc ?_ _ | refine bl_then ?_ (by assumption) | refine Below.setCell ?_ (by first | omega | (simp; done) | (simp; omega)) _ | refine bl_store ?_ ?_ _ _))
end Go.Proofs.Ytabjjmfjbhnkdaa
