/- Requests that are due are sent again: the model. -/
import Derived.Test.YtfcbbfhfjojoeaaWq13
namespace Go.Proofs.Ytfcbbfhfjojoeaa
open Go.RowKit
set_option linter.unusedSimpArgs false
set_option linter.unusedVariables false
set_option maxRecDepth 100000

theorem RowW.lt {base : Nat} {w : World} {v : Value} {l : List Req} (h : RowW base w v l) : ∀ s, v.ownBlock = some s → s < w.heap.size := fun s hs => by
  obtain ⟨_, h2 | ⟨g, cp, cur, hv, _, hh, _⟩⟩ := h
  · rw [h2.1] at hs; cases hs
  · rw [hv] at hs
    simp [Value.ownBlock] at hs
    subst hs
    rcases Nat.lt_or_ge g w.heap.size with h' | h'
    · exact h'
    · rw [Array.getElem?_eq_none h'] at hh; cases hh
theorem OwnW.same {w : World} {base : Nat} {v : Value} {n : Nat} {E E' : Nat → Req} (h : OwnW w base v n E) (he : ∀ i, i < n → E i = E' i) : OwnW w base v n E' := by
  obtain ⟨a, cap, hv, hc, h0 | ⟨b, ha, hbb, hl, hp, ht⟩⟩ := h
  · exact ⟨a, cap, hv, hc, .inl h0⟩
  · exact ⟨a, cap, hv, hc, .inr ⟨b, ha, hbb, hl, hp.same he, ht⟩⟩
theorem WsAt.put {w : World} {g n k : Nat} {F : Nat → Req} {d t : Int} (h : WsAt w g 0 n F) (hT : There w g (n * 5)) (hk : k < n) :
    WsAt ((w.setCell ⟨g, k * 5 + 3, none⟩ (.int .i64 d)).setCell ⟨g, k * 5 + 4, none⟩ (.int .i64 t)) g 0 n (fun i => if i = k then ⟨(F k).z, (F k).x, (F k).y, d, t⟩ else F i) := fun i hi => by
  have ne : ∀ i j : Nat, i ≠ j → (⟨g, i, none⟩ : Addr) ≠ ⟨g, j, none⟩ := fun i j hij h => hij (by injection h)
  obtain ⟨h0, h1, h2, h3, h4⟩ := h i hi
  simp only [Nat.zero_add] at h0 h1 h2 h3 h4 ⊢
  by_cases e : i = k
  · subst e
    rw [if_pos rfl]
    refine ⟨?_, ?_, ?_, ?_, ?_⟩
    · rw [set1_other (ne _ _ (by omega)), set1_other (ne _ _ (by omega))]; exact h0
    · rw [set1_other (ne _ _ (by omega)), set1_other (ne _ _ (by omega))]; exact h1
    · rw [set1_other (ne _ _ (by omega)), set1_other (ne _ _ (by omega))]; exact h2
    · rw [set1_other (ne _ _ (by omega))]; exact set1_same h3
    · exact set1_same (by rw [set1_other (ne _ _ (by omega))]; exact h4)
  · rw [if_neg e]
    refine ⟨?_, ?_, ?_, ?_, ?_⟩ <;> (rw [set1_other (ne _ _ (by omega)), set1_other (ne _ _ (by omega))]; assumption)
/-- The first k as they are behind it. -/
def mixE (now : Int) (E : Nat → Req) (k i : Nat) : Req := if i < k then retE now (E i) else E i
theorem mixE_at (now : Int) (E : Nat → Req) (k : Nat) : mixE now E k k = E k := by simp [mixE]
theorem mixE_due {now : Int} {E : Nat → Req} {k : Nat} (h : (E k).du ≤ now) (i : Nat) : (if i = k then (⟨(mixE now E k k).z, (mixE now E k k).x, (mixE now E k k).y, now + 3, min ((E k).tr + 1) 99⟩ : Req) else mixE now E k i) = mixE now E (k + 1) i := by
  by_cases e : i = k
  · subst e
    simp [mixE, retE, h]
  · rw [if_neg e]
    unfold mixE
    by_cases h1 : i < k
    · rw [if_pos h1, if_pos (by omega)]
    · rw [if_neg h1, if_neg (by omega)]
theorem mixE_not {now : Int} {E : Nat → Req} {k : Nat} (h : ¬ (E k).du ≤ now) (i : Nat) : mixE now E k i = mixE now E (k + 1) i := by
  unfold mixE
  by_cases e : i = k
  · subst e
    rw [if_neg (by omega), if_pos (by omega)]
    unfold retE
    rw [if_neg h]
  · by_cases h1 : i < k
    · rw [if_pos h1, if_pos (by omega)]
    · rw [if_neg h1, if_neg (by omega)]
theorem l1Min_q (a b : Int) (w : World) : Calls Try.prog 68 #[.int .i64 a, .int .i64 b] w fun e w' => e = .returned (.int .i64 (min a b)) ∧ w = w' := by
  by_cases h : a < b
  · have e : min a b = a := by omega
    rw [e]
    go_enter Try.func68, Try.ntmps68
    go_wp2
    go_ret
    exact ⟨rfl, rfl⟩
  · have e : min a b = b := by omega
    rw [e]
    go_enter Try.func68, Try.ntmps68
    go_wp2
    go_ret
    exact ⟨rfl, rfl⟩
set_option maxHeartbeats 8000000 in
theorem l12Retry_any (ad : Addr) (n cap : Nat) (E : Nat → Req) (now : Int) (w : World) (hp : IsWs w (some ad) n E) (hn : n ≤ 8) (hnow : 0 ≤ now ∧ now ≤ 9000) (hT : ∀ j, j < n → 0 ≤ (E j).tr ∧ (E j).tr ≤ 99) :
    Calls Try.prog 56 #[.slice (some ad) n cap, .int .i64 now] w fun e w' => ∃ va vc v1, e = .returned (.tuple #[.slice va n vc, v1]) ∧ RowS w.heap.size w' v1 (sentL now E n) ∧ OwnW w' w.heap.size (.slice va n vc) n (fun j => retE now (E j)) ∧ Apart2 (sentL now E n).length n v1 (.slice va n vc) ∧ Below w.heap.size w w' := by
  obtain ⟨i1, ri, rz0, rz1, rz2⟩ := info_parts info_rf
  obtain ⟨n0, n1⟩ := hnow
  have HTR : Hid (∀ j, j < n → 0 ≤ (E j).tr ∧ (E j).tr ≤ 99) := hT
  have HC : Hid (Calls Try.prog 43 #[.slice (some ad) n cap] w fun e w' => ∃ v, e = .returned v ∧ RowW w.heap.size w' v (listW n E) ∧ Below w.heap.size w w') := l12Copy_any _ n cap E w hp (by omega) ⟨ad, rfl⟩
  clear hp hT
  go_enter Try.func56, Try.ntmps56
  go_wp2_with fail
  refine HC.out.mono ?_
  rintro e w1 ⟨v, rfl, hrow, hb1⟩
  obtain ⟨va, vc, hv⟩ := hrow.slice
  have hown := hrow.own
  rw [listW_len] at hv hown
  subst hv
  have HO1 : Hid (OwnW w1 w.heap.size (.slice va n vc) n (mixE now E 0)) := hown.same (fun i hi => by rw [listW_nw _ _ _ hi]; simp [mixE])
  have HGL : Hid (∀ p, va = some p → p.block < w1.heap.size) := fun p hp => hrow.lt p.block (by rw [hp]; rfl)
  have HB1 : Hid (Below w.heap.size w w1) := hb1
  have hs1 := hb1.size
  clear hrow hown hb1 HC
  go_wp2_with fail
  generalize hw2 : (w1.alloc _ : World) = w2
  have hb2 : Below w1.heap.size w1 w2 := by subst hw2; (repeat (first | exact Below.refl _ _ | assumption | refine Below.drew ?_ | refine bl_alloc ?_ _ | refine bl_then ?_ (by assumption) | refine Below.setCell ?_ (by first | omega | (simp; done) | (simp; omega)) _ | refine bl_store ?_ ?_ _ _))
  have HR2 : Hid (RowS w1.heap.size w2 (.slice (some ⟨w1.heap.size, 0, none⟩) 0 0) []) := by
    show World.ownsRow _ _ _ _ _ _ _
    subst hw2
    exact World.ownsRow_lit (base := w1.heap.size) (size := 3) w1 #[] 0 (Nat.le_refl _) (Nat.zero_le _) rfl
  have HO2 : Hid (OwnW w2 w.heap.size (.slice va n vc) n (mixE now E 0)) := HO1.out.below hb2
  have HB2 : Hid (Below w.heap.size w w2) := bl_then HB1.out hb2
  have HS2 : Hid (w1.heap.size ≤ w2.heap.size) := hb2.size
  clear hw2 hb2 HO1 HB1
  go_loopw [7, 8] (fun v1 i wr => ∃ (k : Nat) (a1 : Option Addr) (c1 : Nat), k ≤ n ∧ i = .int .i64 (k : Int) ∧ v1 = .slice a1 (sentL now E k).length c1 ∧ RowS w1.heap.size wr v1 (sentL now E k) ∧ OwnW wr w.heap.size (.slice va n vc) n (mixE now E k) ∧ Below w.heap.size w wr ∧ w1.heap.size ≤ wr.heap.size) (fun _ i _ => n - (intOf i).toNat)
  case atStart => exact ⟨0, _, _, by omega, rfl, rfl, HR2.out, HO2.out, HB2.out, HS2.out⟩
  case round =>
    obtain ⟨k, a1, c1, hk, rfl, rfl, hR, hO, hB, hsr⟩ := hrel
    by_cases hlt : k < n
    · obtain ⟨a', cap', hv, hcp, h0 | ⟨g, ha, hgb, hgl, hpt, hth⟩⟩ := hO
      · omega
      injection hv with hv1 hv2 hv3
      subst hv1 hv3 ha
      have hg1 : g < w1.heap.size := HGL.out _ rfl
      obtain ⟨q0, q1, q2, q3, q4⟩ := hpt k hlt
      rw [mixE_at] at q0 q1 q2 q3 q4
      simp only [Nat.zero_add] at q0 q1 q2 q3 q4
      have HLT : Hid (k < n) := hlt
      have htr := HTR.out k hlt
      have HPT : Hid (WsAt wr g 0 n (mixE now E k)) := hpt
      have HTH : Hid (There wr g (n * 5)) := hth
      have HR : Hid (RowS w1.heap.size wr (.slice a1 (sentL now E k).length c1) (sentL now E k)) := hR
      have HB : Hid (Below w.heap.size w wr) := hB
      have HCP : Hid (n ≤ vc) := hcp
      have HLS : Hid ((sentL now E k).length ≤ k) := keptL_le _ _ _
      have hi' : (k : Int) < (n : Int) := by omega
      have hi0 : (0 : Int) ≤ (k : Int) := by omega
      clear hpt hth hR hB hcp
      by_cases hd : (E k).du ≤ now
      · have HD : Hid ((E k).du ≤ now) := hd
        have HSL : Hid (sentL now E (k + 1) = sentL now E k ++ [E k]) := sentL_yes hd
        have HMX : Hid (∀ i, (if i = k then (⟨(mixE now E k k).z, (mixE now E k k).x, (mixE now E k k).y, now + 3, min ((E k).tr + 1) 99⟩ : Req) else mixE now E k i) = mixE now E (k + 1) i) := mixE_due hd
        have HMK : Hid (mixE now E k k = E k) := mixE_at now E k
        generalize sentL now E k = s at *
        generalize hF : mixE now E k = F at *
        obtain ⟨t0, t1⟩ := htr
        go_wp2_with (first
          | (at_builtin; go_must (refine wpList_append_own _ rfl _ _ 29 rfl w1.heap.size 26 i1 (.agg #[.int .i64 0, .int .i64 0, .int .i64 0]) 3 24 Try.underlying29 ri rz0 rz1 rz2 rfl (by decide) (.slice a1 s.length c1) s.length (cellsR (rfsOf s) s.length) rfl ?c0 ⟨wr.heap.size, 0, none⟩ 1 1 [.int .i64 (E k).z, .int .i64 (E k).x, .int .i64 (E k).y] rfl rfl ?c1 ?c2 ?c3 ?c4 ?c5 ?_)))
        case c0 => exact World.ownsRow.alloc HR.out _
        case c2 => exact ⟨rfl, rfl, rfl⟩
        case c3 => unfold maxLen; have := HLS.out; omega
        case c4 => have := HLS.out; omega
        case c5 => first | omega | (simp; omega)
        intro v3 w9 hown3 hgrow3 hnil3
        have hrow3 : RowS w1.heap.size w9 v3 (s ++ [E k]) := by
          unfold RowS
          rw [List.length_append]
          show World.ownsRow _ _ _ _ _ (s.length + 1) (cellsR (rfsOf (s ++ [E k])) (s.length + 1))
          rw [cellsR_app]
          exact hown3
        obtain ⟨va3, vc3, hv3⟩ := hrow3.slice
        subst hv3
        have HR3 : Hid (RowS w1.heap.size w9 (.slice va3 (s ++ [E k]).length vc3) (s ++ [E k])) := hrow3
        have hgg : ∀ q, (Value.slice a1 s.length c1).ownBlock = some q → w1.heap.size ≤ q := fun q hq => HR.out.block q hq
        have hbg : w9.heap[g]? = (wr.alloc (.cells #[.int .i64 (E k).z, .int .i64 (E k).x, .int .i64 (E k).y] 26)).heap[g]? := hgrow3.block g (by simp; omega) (fun e => by have := hgg g e.symm; omega)
        have hbA : Below wr.heap.size wr (wr.alloc (.cells #[.int .i64 (E k).z, .int .i64 (E k).x, .int .i64 (E k).y] 26)) := by (repeat (first | exact Below.refl _ _ | assumption | refine Below.drew ?_ | refine bl_alloc ?_ _ | refine bl_then ?_ (by assumption) | refine Below.setCell ?_ (by first | omega | (simp; done) | (simp; omega)) _ | refine bl_store ?_ ?_ _ _))
        have HT9 : Hid (There w9 g (n * 5)) := there_heap (HTH.out.below hbA) hbg
        have HP9 : Hid (WsAt w9 g 0 n F) := fun i hi => by
          obtain ⟨h0, h1, h2, h3, h4⟩ := (HPT.out.below hbA hgl) i hi
          exact ⟨(World.cell?_of_block (a := ⟨g, _, none⟩) hbg).trans h0, (World.cell?_of_block (a := ⟨g, _, none⟩) hbg).trans h1, (World.cell?_of_block (a := ⟨g, _, none⟩) hbg).trans h2, (World.cell?_of_block (a := ⟨g, _, none⟩) hbg).trans h3, (World.cell?_of_block (a := ⟨g, _, none⟩) hbg).trans h4⟩
        have HB9 : Hid (Below w.heap.size w w9) := (bl_then HB.out hbA).trans (below_rowR hgrow3 (fun q hq => by have := hgg q hq; omega) (by have := HB.out.size; simp; omega))
        have hs9 : w1.heap.size ≤ w9.heap.size := by have := hgrow3.size; simp at this; omega
        have hg9 : g < w9.heap.size := by omega
        obtain ⟨_, _, _, m3, m4⟩ := HP9.out k hlt
        rw [HMK.out] at m3 m4
        simp only [Nat.zero_add] at m3 m4
        have f3 := (HT9.out (k * 5 + 3) (by omega)).2
        have f4 := (HT9.out (k * 5 + 4) (by omega)).2
        have hm99 : min (99 : Int) ((E k).tr + 1) = min ((E k).tr + 1) 99 := by omega
        clear hown3 hgrow3 hnil3 hrow3 hgg hbg hbA q0 q1 q2 q3 q4
        go_wp2_with (go_at_call 68; refine (l1Min_q _ _ _).mono ?_; rintro e w' ⟨rfl, rfl⟩)
        refine ⟨⟨k + 1, va3, vc3, by have := HLT.out; omega, by go_num, by rw [HSL.out, List.length_append]; rfl, ?_, ⟨_, _, rfl, HCP.out, .inr ⟨g, rfl, hgb, by simp; exact hg9, ?_, ?_⟩⟩, ?_, by simp; exact hs9⟩, by have := HLT.out; simp [intOf]; omega⟩
        · rw [HSL.out]
          have h := HR3.out
          rw [List.length_append] at h
          exact ownsRow_setW (ownsRow_setW h hg1) hg1
        · have h := HP9.out.put (d := now + 3) (t := min ((E k).tr + 1) 99) HT9.out hlt
          exact h.same (fun i _ => HMX.out i)
        · exact set1_there (set1_there HT9.out)
        · exact (HB9.out.setCell hgb _).setCell hgb _
      · have HD : Hid (¬ (E k).du ≤ now) := hd
        have HSL : Hid (sentL now E (k + 1) = sentL now E k) := sentL_no hd
        go_wp2_with fail
        go_roundw
        case rel => exact ⟨k + 1, a1, c1, by have := HLT.out; omega, by go_num, by rw [HSL.out], by rw [HSL.out]; exact HR.out, ⟨_, _, rfl, HCP.out, .inr ⟨g, rfl, hgb, hgl, HPT.out.same (fun i _ => mixE_not (by have := HD.out; omega) i), HTH.out⟩⟩, HB.out, hsr⟩
        case measure => have := HLT.out; simp [intOf]; omega
    · obtain rfl : n = k := by omega
      have HR : Hid (RowS w1.heap.size wr (.slice a1 (sentL now E n).length c1) (sentL now E n)) := hR
      have HO : Hid (OwnW wr w.heap.size (.slice va n vc) n (mixE now E n)) := hO
      have HB : Hid (Below w.heap.size w wr) := hB
      clear hR hO hB
      go_wp2_with fail
      refine bodyPost_ret (v := .tuple #[.slice va n vc, .slice a1 (sentL now E n).length c1]) (by simp [results, Try.results56, go_sem]) rfl ⟨va, vc, _, rfl, ownsRow_wideW HR.out hs1, HO.out.same (fun i hi => by simp [mixE, hi]), ?_, HB.out⟩
      intro p c p' c' e1 e2 he
      injection e1 with e1 _ _
      injection e2 with e2 _ _
      have h1 := HR.out.block p.block (by rw [e1]; rfl)
      have h2 := HGL.out p' e2
      omega
theorem rtL_nw {n : Nat} {E : Nat → Req} {now : Int} (h : retC n E now = 0) : (rtL n E now).length = n ∧ ∀ i, i < n → nw (rtL n E now) i = retE now (E i) := by
  unfold rtL
  rw [if_pos h]
  exact ⟨listW_len _ _, fun i hi => listW_nw _ _ _ hi⟩
theorem OwnT.wide {w : World} {base B : Nat} {v : Value} {n : Nat} {R : Rfs} (h : OwnT w base v n R) (hB : B ≤ base) : OwnT w B v n R := by
  obtain ⟨a, cap, hv, hc, h0 | ⟨b, ha, hbb, hr⟩⟩ := h
  · exact ⟨a, cap, hv, hc, .inl h0⟩
  · exact ⟨a, cap, hv, hc, .inr ⟨b, ha, by omega, hr⟩⟩
theorem OwA.set3 {base B r m n : Nat} {R : Rfs} {E : Nat → Req} {w : World} {v1 v2 a b c : Value} (h : OwA B m R n E w v1 v2) (hr : r < B) (hB : base ≤ B) : OwA base m R n E (((w.setCell ⟨r, 0, none⟩ a).setCell ⟨r, 1, none⟩ b).setCell ⟨r, 2, none⟩ c) v1 v2 := by
  have h1 := h.mid ((((MidB.refl r (r + 1) w).set (Nat.le_refl _) (Nat.lt_succ_self _) 0 a).set (Nat.le_refl _) (Nat.lt_succ_self _) 1 b).set (Nat.le_refl _) (Nat.lt_succ_self _) 2 c) hr
  exact ⟨h1.1.wide hB, h1.2.1.wide hB, h1.2.2⟩
theorem resRetryS {T : Array Value} {Wf : World} {r : Nat} {c : Int} {v1 v2 : Value} (hT : T[4]?.getD undef = .pointer (some ⟨r, 0, none⟩)) (h0 : Wf.cell? ⟨r, 0, none⟩ = some (.int .i64 c)) (h1 : Wf.cell? ⟨r, 1, none⟩ = some v1) (h2 : Wf.cell? ⟨r, 2, none⟩ = some v2) :
    (results Try.f27 T).run Try.prog Wf = .ok (rqV c v1 v2) Wf := by
  simp [results, Try.results27, go_sem, hT, h0, h1, h2]
set_option maxHeartbeats 8000000 in
theorem spec_RetryAll_any (ad : Addr) (n cap : Nat) (E : Nat → Req) (now : Int) (w : World) (hp : IsWs w (some ad) n E) (hn : n ≤ 1048576) :
    Calls Try.prog 27 #[.slice (some ad) n cap, .int .i64 now] w fun e w' => ∃ v1 v2, e = .returned (rqV (retC n E now) v1 v2) ∧ OwA w.heap.size (rtS n E now).length (rfsOf (rtS n E now)) (rtL n E now).length (nw (rtL n E now)) w' v1 v2 ∧ Below w.heap.size w w' := by
  have HP : Hid (IsWs w (some ad) n E) := hp
  have HF : Hid (∀ W, Below w.heap.size w W → Calls Try.prog 39 #[.slice (some ad) n cap, .int .i64 now] W fun e w' => e = .returned (.int .i64 (retC n E now)) ∧ Below W.heap.size W w') := fun W h => l12Asked_any _ n cap E now W (hp.below h) hn
  clear hp
  go_enter Try.func27, Try.ntmps27
  go_wp2_with fail
  generalize hW : (w.alloc _ : World) = W
  have HB0 : Hid (Below w.heap.size w W) := by show Below _ _ _; subst hW; (repeat (first | exact Below.refl _ _ | assumption | refine Below.drew ?_ | refine bl_alloc ?_ _ | refine bl_then ?_ (by assumption) | refine Below.setCell ?_ (by first | omega | (simp; done) | (simp; omega)) _ | refine bl_store ?_ ?_ _ _))
  have HSZ : Hid (w.heap.size < W.heap.size) := by show _ < _; subst hW; simp
  have HTH : Hid (There W w.heap.size 3) := by show There _ _ _; subst hW; exact there3q w _ _ _ _
  clear hW
  refine (HF.out _ HB0.out).mono ?_
  rintro e w1 ⟨rfl, hb1⟩
  by_cases hp0 : retC n E now = 0
  · rw [hp0]
    have HS : Hid (rtS n E now = sentL now E n) := by show _ = _; unfold rtS; rw [if_pos hp0]
    have HL : Hid ((rtL n E now).length = n ∧ ∀ i, i < n → nw (rtL n E now) i = retE now (E i)) := rtL_nw hp0
    have HR0 : Hid (retC n E now = 0) := hp0
    have hq0 := (retC_zero hp0).1
    have HCR : Hid (Calls Try.prog 56 #[.slice (some ad) n cap, .int .i64 now] w1 fun e w' => ∃ va vc v1, e = .returned (.tuple #[.slice va n vc, v1]) ∧ RowS w1.heap.size w' v1 (sentL now E n) ∧ OwnW w' w1.heap.size (.slice va n vc) n (fun j => retE now (E j)) ∧ Apart2 (sentL now E n).length n v1 (.slice va n vc) ∧ Below w1.heap.size w1 w') :=
      l12Retry_any ad n cap E now w1 (HP.out.below (bl_then HB0.out hb1)) (reqsC_le hq0) (timC_in (retC_zero hp0).2) (fun j hj => (reqs_tries hq0 hj).1)
    clear hp0 hq0
    go_wp2_with fail
    refine Calls.mono HCR.out ?_
    rintro e w2 ⟨va, vc, v1, rfl, hS2, hO2, hA2, hb2⟩
    obtain ⟨va1, vc1, hv1⟩ := hS2.slice
    have hOA : OwA w1.heap.size (rtS n E now).length (rfsOf (rtS n E now)) (rtL n E now).length (nw (rtL n E now)) w2 v1 (.slice va n vc) := by
      rw [HS.out, HL.out.1]
      exact ⟨hS2.own, hO2.same (fun i hi => (HL.out.2 i hi).symm), hA2⟩
    have HOA : Hid (OwA w1.heap.size (rtS n E now).length (rfsOf (rtS n E now)) (rtL n E now).length (nw (rtL n E now)) w2 v1 (.slice va n vc)) := hOA
    have HT2 : Hid (There w2 w.heap.size 3) := (HTH.out.below hb1).below hb2
    have HB2 : Hid (Below w.heap.size w w2) := bl_then HB0.out (bl_then hb1 hb2)
    have HS1 : Hid (w.heap.size < w1.heap.size) := by have := hb1.size; have := HSZ.out; show _ < _; omega
    have t0 := HT2.out.cell 0 (by omega)
    have t1 := HT2.out.cell 1 (by omega)
    have t2 := HT2.out.cell 2 (by omega)
    have f0 := (HT2.out 0 (by omega)).2
    have f1 := (HT2.out 1 (by omega)).2
    have f2 := (HT2.out 2 (by omega)).2
    generalize (sentL now E n).length = SL at *
    subst hv1
    clear hS2 hO2 hA2 hb2 hOA hb1
    go_wp2_with fail
    obtain ⟨q0, q1, q2⟩ := set3q (a := .int .i64 0) (b := .slice va1 SL vc1) (c := .slice va n vc) HT2.out
    refine bodyPost_ret (resRetryS rfl q0 q1 q2) rfl ⟨_, _, by rw [HR0.out], HOA.out.set3 HS1.out (by have := HS1.out; omega), ?_⟩
    exact ((HB2.out.setCell (Nat.le_refl _) _).setCell (Nat.le_refl _) _).setCell (Nat.le_refl _) _
  · have hp0' : (retC n E now == 0) = false := by simpa using hp0
    have HS : Hid (rtS n E now = []) := by show _ = _; unfold rtS; rw [if_neg hp0]
    have HL : Hid (rtL n E now = []) := by show _ = _; unfold rtL; rw [if_neg hp0]
    obtain ⟨kk, hkk⟩ : ∃ kk, retC n E now = kk := ⟨_, rfl⟩
    have HKK : Hid (retC n E now = kk) := hkk
    rw [hkk] at hp0' ⊢
    clear hp0 hkk
    go_wp2_with fail
    refine (l12Bad_any kk _).mono ?_
    rintro e w4 ⟨rfl, hb4⟩
    have HT4 : Hid (There w4 w.heap.size 3) := (HTH.out.below hb1).below hb4
    have HB4 : Hid (Below w.heap.size w w4) := bl_then HB0.out (bl_then hb1 hb4)
    have t0 := HT4.out.cell 0 (by omega)
    have t1 := HT4.out.cell 1 (by omega)
    have t2 := HT4.out.cell 2 (by omega)
    have f0 := (HT4.out 0 (by omega)).2
    have f1 := (HT4.out 1 (by omega)).2
    have f2 := (HT4.out 2 (by omega)).2
    clear hb1 hb4
    go_wp2_with fail
    obtain ⟨q0, q1, q2⟩ := set3q (a := .int .i64 kk) (b := .slice none 0 0) (c := .slice none 0 0) HT4.out
    refine bodyPost_ret (resRetryS rfl q0 q1 q2) rfl ⟨_, _, by rw [HKK.out], by rw [HS.out, HL.out]; exact RowS.ans (RowS.no _ _) (RowW.no _ _), ?_⟩
    exact ((HB4.out.setCell (Nat.le_refl _) _).setCell (Nat.le_refl _) _).setCell (Nat.le_refl _) _
end Go.Proofs.Ytfcbbfhfjojoeaa
