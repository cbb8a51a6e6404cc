/- The model's l6Unpack. -/
import Derived.Test.YtcbpaockahkakaaVReadTile34
import Derived.Test.YtcbpaockahkakaaVReadTile36
import Derived.Test.YtcbpaockahkakaaVReadTile8
namespace Go.Proofs.Ytcbpaockahkakaa
open Go.RowKit
set_option linter.unusedSimpArgs false
set_option linter.unusedVariables false
set_option maxRecDepth 100000
theorem rdAt_new (w : World) (b off n cap : Nat) (Z : Nat → Int) (hb : b < w.heap.size) (hs : BsAt w b off n Z) (hc : n ≤ cap) : RdAt (w.alloc (.cells #[.slice (some ⟨b, off, none⟩) n cap, .int .i64 0, .bool false] 101)) w.heap.size b off n cap Z 0 false :=
  ⟨heap_alloc_new w _, by omega, by simp [go_sem]; omega, fun i hi => ((Below.refl w.heap.size w).alloc (Nat.le_refl _) _ |>.cell (p := ⟨b, off + i, none⟩) hb).trans (hs i hi), hc, Nat.zero_le _⟩
theorem text_ne {s1 s2 : ByteArray} (h : ¬ s1 = s2) : (s1.toList == s2.toList) = false := by
  cases hb : (s1.toList == s2.toList)
  · rfl
  · have e : s1.toList = s2.toList := by simpa using hb
    rw [ByteArray.toList_eq, ByteArray.toList_eq] at e
    exact absurd (ByteArray.ext (Array.toList_inj.1 e)) h
/-- What l6Unpack tells. -/
def UnkP (Z : Nat → Int) (n : Nat) (w : World) (e : Ending) (w' : World) : Prop :=
  (match upM Z n with
  | none => ∃ v, e = .returned (.tuple #[v, .bool false])
  | some fs => ∃ v H, e = .returned (.tuple #[v, .bool true]) ∧ FxRow w.heap.size w' v fs H) ∧ Below w.heap.size w w'
theorem UnkP.none {Z : Nat → Int} {n : Nat} {w w' : World} {v : Value} (h : upM Z n = none) (hb : Below w.heap.size w w') : UnkP Z n w (.returned (.tuple #[v, .bool false])) w' := by
  unfold UnkP
  rw [h]
  exact ⟨⟨v, rfl⟩, hb⟩
theorem UnkP.some {Z : Nat → Int} {n : Nat} {w w' : World} {v : Value} {fs : List Fx} {H : Nat → Feat} (h : upM Z n = some fs) (hx : FxRow w.heap.size w' v fs H) (hb : Below w.heap.size w w') : UnkP Z n w (.returned (.tuple #[v, .bool true])) w' := by
  unfold UnkP
  rw [h]
  exact ⟨⟨v, H, rfl, hx⟩, hb⟩
theorem FxRow.wideU {base B : Nat} {w : World} {v : Value} {fs : List Fx} {H : Nat → Feat} (h : FxRow base w v fs H) (hB : B ≤ base) : FxRow B w v fs H :=
  ⟨by
    obtain ⟨h1, h2 | ⟨g, cp, cur, hv, hg, hh, hr⟩⟩ := h.1
    · exact ⟨h1, .inl h2⟩
    · exact ⟨h1, .inr ⟨g, cp, cur, hv, by omega, hh, hr⟩⟩, fun i hi => ⟨(h.2.1 i hi).1, (h.2.1 i hi).2.wide hB⟩, h.2.2⟩
set_option maxHeartbeats 40000000 in
theorem l6Unpack_any (b off n cap : Nat) (Z : Nat → Int) (w : World) (hb : b < w.heap.size) (hs : BsAt w b off n Z) (hc : n ≤ cap) (hz : ∀ i, 0 ≤ Z i ∧ Z i ≤ 255) (hn : n ≤ 1048576) :
    Calls Try.prog 36 #[.slice (some ⟨b, off, none⟩) n cap] w (UnkP Z n w) := by
  obtain ⟨i0, hi, hz0, hz1, hz2⟩ := info_parts info_if
  have HD0 : Hid (RdAt (w.alloc (.cells #[.slice (some ⟨b, off, none⟩) n cap, .int .i64 0, .bool false] 101)) w.heap.size b off n cap Z 0 false) := rdAt_new w b off n cap Z hb hs hc
  have HZ : Hid (∀ i, 0 ≤ Z i ∧ Z i ≤ 255) := hz
  have HS : Hid (BsAt w b off n Z) := hs
  clear hs hz
  go_enter Try.func36, Try.ntmps36
  go_wp2_with fail
  generalize hW : (w.alloc _ : World) = W at *
  have hB0 : Below w.heap.size w W := by subst hW; (repeat (first | exact Below.refl _ _ | assumption | refine Below.drew ?_ | refine bl_alloc ?_ _ | refine bl_then ?_ (by assumption) | refine Below.setCell ?_ (by first | omega | (simp; done) | (simp; omega)) _ | refine bl_store ?_ ?_ _ _))
  have hszW : w.heap.size < W.heap.size := by subst hW; simp [go_sem]
  clear hW
  refine Calls.mono (l6Next_any w.heap.size b off n cap Z 0 false W HD0.out HZ.out hn) ?_
  rintro e w1 ⟨C, o1, b1, rfl, hd1, hk1, hC, hcase⟩
  have HC : Hid ((b1 = true ∧ C = 0 ∧ mList Z n = none) ∨ (b1 = false ∧ mList Z n = mFs Z n (min C 13) o1)) := by
    rcases hcase with ⟨h1, h2, h3, h4⟩ | ⟨_, h1, h2, h3⟩
    · refine .inl ⟨h1, h2, ?_⟩
      have h5 : rdA Z n 0 = none := by rcases h4 with h | h; cases h; exact h
      unfold mList
      rw [h5]; rfl
    · refine .inr ⟨h1, ?_⟩
      have h5 : rdA Z n 0 = some (C, o1 - 0) := h2
      unfold mList
      rw [h5]; rfl
  have HD1 : Hid (RdAt w1 w.heap.size b off n cap Z o1 b1) := hd1
  have HK1 : Hid (Keeps w.heap.size W w1) := hk1
  have hsz1 := hk1.size
  clear hcase hd1 hk1
  go_wp2_with fail
  go_loopw [6, 7] (fun v i wr => ∃ (k o : Nat) (bad : Bool) (fs : List Fx) (H : Nat → Feat) (g c : Nat), k ≤ C ∧ k ≤ 13 ∧ i = .int .i64 (k : Int) ∧ fs.length = k ∧ v = .slice (some ⟨g, 0, none⟩) k c ∧ g < wr.heap.size ∧ FxRow W.heap.size wr v fs H ∧ RdAt wr w.heap.size b off n cap Z o bad ∧ Keeps w.heap.size W wr ∧ ((bad = true ∧ mList Z n = none) ∨ (bad = false ∧ (∀ f ∈ fs, fx1 f = 0) ∧ mList Z n = (mFs Z n (min C 13 - k) o).map fun r => (fs ++ r.1, r.2)))) (fun _ i _ => 13 - (intOf i).toNat)
  case atStart =>
    have hba : Below w1.heap.size w1 (w1.alloc (.cells #[] 71)) := bl_alloc (Below.refl _ _) _
    refine ⟨0, o1, b1, [], fun _ => fxFeat ⟨[], ByteArray.empty, []⟩ none 0, w1.heap.size, 0, by omega, by omega, rfl, rfl, rfl, by simp [go_sem], ⟨⟨by simp [cellsF], .inr ⟨w1.heap.size, 0, #[], rfl, hsz1, heap_alloc_new w1 _, by simp, by unfold maxLen; omega, by simp, by simp [cellsF]⟩⟩, fun i hi => absurd hi (Nat.not_lt_zero _), fun i j hi => absurd hi (Nat.not_lt_zero _)⟩, HD1.out.below hba, HK1.out.trans (Keeps.of_below hba), ?_⟩
    rcases HC.out with ⟨h1, h2, h3⟩ | ⟨h1, h2⟩
    · exact .inl ⟨h1, h3⟩
    · refine .inr ⟨h1, fun f hf => absurd hf (List.not_mem_nil), ?_⟩
      rw [h2, Nat.sub_zero]
      cases mFs Z n (min C 13) o1 <;> simp
  case round =>
    obtain ⟨k, o, bad, fs, H, g, c, hkC, hk13, rfl, hl, rfl, hg, hX, hD, hK, hI⟩ := hrel
    have HX : Hid (FxRow W.heap.size wr (.slice (some ⟨g, 0, none⟩) k c) fs H) := hX
    have HD : Hid (RdAt wr w.heap.size b off n cap Z o bad) := hD
    have HK : Hid (Keeps w.heap.size W wr) := hK
    have HI : Hid ((bad = true ∧ mList Z n = none) ∨ (bad = false ∧ (∀ f ∈ fs, fx1 f = 0) ∧ mList Z n = (mFs Z n (min C 13 - k) o).map fun r => (fs ++ r.1, r.2))) := hI
    have hszr := hK.size
    obtain ⟨k0, k1, k2, kf⟩ := hD.cells
    clear hX hD hK hI HC HD1 HK1 HD0 k0 k1 kf
    by_cases hgo : k < C ∧ k < 13 ∧ bad = false
    · obtain ⟨hlt, hlt13, rfl⟩ := hgo
      have hA : mList Z n = (mFs Z n (min C 13 - k) o).map fun r => (fs ++ r.1, r.2) := by
        rcases HI.out with ⟨h, _⟩ | ⟨_, _, h⟩
        · cases h
        · exact h
      have hF0 : ∀ f ∈ fs, fx1 f = 0 := by
        rcases HI.out with ⟨h, _⟩ | ⟨_, h, _⟩
        · cases h
        · exact h
      obtain ⟨D, hDD⟩ : ∃ D, min C 13 - k = D + 1 := ⟨min C 13 - k - 1, by omega⟩
      have hCD : min C 13 - (k + 1) = D := by omega
      have hi' : (k : Int) < (C : Int) := by omega
      have hi13 : (k : Int) < 13 := by omega
      clear HI
      go_wp2_with fail
      refine Calls.mono (l6One_any w.heap.size b off n cap Z o wr HD.out HZ.out hn) ?_
      rintro e w2 ⟨f, v1, o2, bad2, rfl, hR1, hd2, hk2, hcase⟩
      have HI2 : Hid ((bad2 = true ∧ mList Z n = none) ∨ (bad2 = false ∧ (∀ f' ∈ fs ++ [f], fx1 f' = 0) ∧ mList Z n = (mFs Z n (min C 13 - (k + 1)) o2).map fun r => ((fs ++ [f]) ++ r.1, r.2))) := by
        rcases hcase with ⟨h1, h2⟩ | ⟨h1, h2⟩
        · refine .inl ⟨h1, ?_⟩
          rw [hA, hDD]
          simp [mFs, h2]
        · refine .inr ⟨h1, fun f' hf' => ?_, ?_⟩
          · rcases List.mem_append.1 hf' with h | h
            · exact hF0 f' h
            · have e := List.mem_singleton.1 h
              rw [e]
              exact (feat_from (n := o2) h2 (Nat.le_refl _)).2.1
          · rw [hA, hDD, hCD]
            simp only [mFs]
            rw [h2, Option.bind_some]
            cases mFs Z n D o2 <;> simp
      have hR1' : Row wr.heap.size w2 v1 f.pts := hR1
      obtain ⟨a1, c1, hv1, _, _⟩ := hR1'.own
      have HR1 : Hid (Row wr.heap.size w2 v1 f.pts) := hR1'
      have HX2 : Hid (FxRow W.heap.size w2 (.slice (some ⟨g, 0, none⟩) k c) fs H) := HX.out.keeps hk2 (by omega)
      have HFR : Hid (∀ i, i < fs.length → (H i).a = a1 → a1 = none) := fun i hi e => HX.out.fresh (hv1 ▸ hR1') i hi e
      have HD2 : Hid (RdAt w2 w.heap.size b off n cap Z o2 bad2) := hd2
      have HK2 : Hid (Keeps w.heap.size W w2) := HK.out.trans hk2
      have hsz2 := hk2.size
      clear hR1 hR1' hd2 hk2 hcase HX HD HK hA hF0 k2
      subst hv1
      have HL : Hid (fs.length = k) := hl
      have hlenr : (List.range fs.length).length = k := by simp [hl]
      obtain ⟨PL, hPL⟩ : ∃ PL, f.pts.length = PL := ⟨_, rfl⟩
      simp only [FeatV]
      obtain ⟨l0, h0⟩ : ∃ l0, f.ns.getD 0 0 = l0 := ⟨_, rfl⟩
      obtain ⟨l1, h1⟩ : ∃ l1, f.ns.getD 1 0 = l1 := ⟨_, rfl⟩
      obtain ⟨l2, h2⟩ : ∃ l2, f.ns.getD 2 0 = l2 := ⟨_, rfl⟩
      obtain ⟨l3, h3⟩ : ∃ l3, f.ns.getD 3 0 = l3 := ⟨_, rfl⟩
      obtain ⟨l4, h4⟩ : ∃ l4, f.ns.getD 4 0 = l4 := ⟨_, rfl⟩
      obtain ⟨LB, h5⟩ : ∃ LB, f.lab = LB := ⟨_, rfl⟩
      have HFC : Hid (fcell (fxFeat f a1 c1) = [.int .i64 (l0 : Int), .int .i64 (l1 : Int), .int .i64 (l2 : Int), .int .i64 (l3 : Int), .slice a1 PL c1, .string LB, .int .i64 (l4 : Int)]) := by
        show _ = _
        simp only [fcell, fxFeat, h0, h1, h2, h3, h4, h5, hPL]
      rw [h0, h1, h2, h3, h4, h5, hPL]
      clear h0 h1 h2 h3 h4 h5
      go_wp2_with (first
        | (at_builtin; go_must (refine wpList_append_own _ rfl _ _ 25 rfl W.heap.size 71 i0 (.agg #[.int .i64 0, .int .i64 0, .int .i64 0, .int .i64 0, .slice none 0 0, .string ⟨#[]⟩, .int .i64 0]) 7 80 Try.underlying25 hi hz0 hz1 hz2 rfl (by decide) (.slice (some ⟨g, 0, none⟩) k c) k (cellsF H (List.range fs.length)) rfl ?c6 ⟨w2.heap.size, 0, none⟩ 1 1 [.int .i64 (l0 : Int), .int .i64 (l1 : Int), .int .i64 (l2 : Int), .int .i64 (l3 : Int), .slice a1 PL c1, .string LB, .int .i64 (l4 : Int)] rfl ?c0 ?c1 ?c2 ?c3 ?c4 ?c5 ?_)))
      case c6 =>
        have := HX2.out.1.below (bl_alloc (Below.refl w2.heap.size w2) (.cells #[.int .i64 (l0 : Int), .int .i64 (l1 : Int), .int .i64 (l2 : Int), .int .i64 (l3 : Int), .slice a1 PL c1, .string LB, .int .i64 (l4 : Int)] 71))
        unfold FRow at this
        rw [hlenr] at this
        exact this
      case c0 => rfl
      case c1 =>
        intro q u hq
        have hq7 : q < 7 := (List.getElem?_eq_some_iff.1 hq).1
        have hc : q = 0 ∨ q = 1 ∨ q = 2 ∨ q = 3 ∨ q = 4 ∨ q = 5 ∨ q = 6 := by omega
        rcases hc with rfl | rfl | rfl | rfl | rfl | rfl | rfl <;> (simp at hq; subst hq; simp [Addr.add, go_sem])
      case c2 => intro u hu; simp at hu; rcases hu with rfl | rfl | rfl | rfl | rfl | rfl | rfl <;> rfl
      case c3 => unfold maxLen; omega
      case c4 => omega
      case c5 => simp; omega
      intro v' w3 hown' hgrow hnil
      clear hnil
      have hba : Below w2.heap.size w2 (w2.alloc (.cells #[.int .i64 (l0 : Int), .int .i64 (l1 : Int), .int .i64 (l2 : Int), .int .i64 (l3 : Int), .slice a1 PL c1, .string LB, .int .i64 (l4 : Int)] 71)) := bl_alloc (Below.refl _ _) _
      have hXa := HX2.out.below hba
      have hRa : Row W.heap.size _ (.slice a1 f.pts.length c1) f.pts := (HR1.out.below hba).wide hszr
      have hBg : Below W.heap.size (w2.alloc (.cells #[.int .i64 (l0 : Int), .int .i64 (l1 : Int), .int .i64 (l2 : Int), .int .i64 (l3 : Int), .slice a1 PL c1, .string LB, .int .i64 (l4 : Int)] 71)) w3 := (Below.refl _ _).grown hgrow (by simp; omega) (fun g hg => (World.ownsRow.lt hXa.1 g hg).1)
      have hB3 : Below W.heap.size w2 w3 := (hba.mono (by omega)).trans hBg
      have HX3 : Hid (FxRow W.heap.size w3 v' (fs ++ [f]) (fun i => if i = fs.length then fxFeat f a1 c1 else H i)) := hXa.app hRa (by rw [HFC.out, HL.out]; first | exact hown' | (rw [HL.out] at hown'; exact hown')) hgrow HFR.out
      have HD3 : Hid (RdAt w3 w.heap.size b off n cap Z o2 bad2) := HD2.out.belowB hB3 (by omega) (by omega)
      have HK3 : Hid (Keeps w.heap.size W w3) := keepsNew HK2.out hB3 (Nat.le_refl _)
      obtain ⟨g3, c3, hv3, hg3⟩ : ∃ g3 c3, v' = .slice (some ⟨g3, 0, none⟩) (k + 1) c3 ∧ g3 < w3.heap.size := by
        have hlen : (List.range (fs ++ [f]).length).length = k + 1 := by simp [HL.out]
        rcases HX3.out.1.at with ⟨_, h⟩ | ⟨g3, c3, hv, _, hg3, _⟩
        · rw [h] at hlen; simp at hlen
        · exact ⟨g3, c3, by rw [hv, hlen], hg3⟩
      have hwk : IntKind.i64.wrap ((k : Int) + 1) = (k : Int) + 1 := IntWalk.i64_in _ (by omega)
      clear hown' hgrow hba hXa hRa hBg hB3
      go_wp2_with fail
      go_roundw
      case rel => exact ⟨k + 1, o2, bad2, _, _, g3, c3, by omega, by omega, by first | go_num | rfl | simp, by simp [HL.out], hv3, hg3, HX3.out, HD3.out, HK3.out, HI2.out⟩
      case measure => simp [intOf]; omega
    · have HBr : Hid (Below w.heap.size w wr) := hB0.trans (HK.out.below (Nat.le_refl _) (by omega))
      cases bad
      · have HL0 : Hid (mList Z n = some (fs, o)) := by
          show _ = _
          have : ¬ (k < C ∧ k < 13) := fun h => hgo ⟨h.1, h.2, rfl⟩
          rcases HI.out with ⟨h, _⟩ | ⟨_, _, h⟩
          · cases h
          · rw [h, show min C 13 - k = 0 by omega]; simp [mFs]
        have hF0 : ∀ f ∈ fs, fx1 f = 0 := by
          rcases HI.out with ⟨h, _⟩ | ⟨_, h, _⟩
          · cases h
          · exact h
        have HSM : Hid (SmallFs fs.length (fxG fs)) := small_none (by omega) hF0
        have hcc : ((k : Int) < (C : Int) ∧ ¬ (k : Int) < 13) ∨ ¬ (k : Int) < (C : Int) := by
          have : ¬ (k < C ∧ k < 13) := fun h => hgo ⟨h.1, h.2, rfl⟩
          omega
        subst hl
        clear hF0 HI hgo HD
        have HMA : Hid (∀ W', Below wr.heap.size wr W' → Calls Try.prog 43 #[.slice (some ⟨g, 0, none⟩) fs.length c] W' fun e w' => e = .returned (.int .i64 (fxC fs)) ∧ Below W'.heap.size W' w') := fun W' h => (HX.out.below h).many (Nat.lt_of_lt_of_le hg h.size) HSM.out
        by_cases hc0 : fxC fs = 0
        · have HOR : Hid (∀ W', Below wr.heap.size wr W' → Calls Try.prog 45 #[.slice (some ⟨g, 0, none⟩) fs.length c] W' fun e w' => e = .returned (.bool (fxO fs)) ∧ Below W'.heap.size W' w') := fun W' h => (HX.out.below h).ordered (Nat.lt_of_lt_of_le hg h.size) hc0
          rw [hc0] at HMA
          cases hoo : fxO fs
          · rw [hoo] at HOR
            have HMN : Hid (upM Z n = none) := by
              show _ = _
              unfold upM
              rw [HL0.out, Option.bind_some, if_neg (fun h => by have h3 := h.2.1; simp only [hoo] at h3; cases h3)]
            rcases hcc with ⟨hi', hi13⟩ | hi'
            all_goals
              go_wp2_with fail
              refine (HMA.out _ (Below.refl _ _)).mono ?_
              rintro e w5 ⟨rfl, hb5⟩
              go_wp2_with fail
              refine (HOR.out _ hb5).mono ?_
              rintro e w6 ⟨rfl, hb6⟩
              have HB6 : Hid (Below w.heap.size w w6) := bl_then HBr.out (bl_then hb5 hb6)
              clear hb5 hb6
              go_wp2_with fail
              exact bodyPost_ret (v := .tuple #[.slice none 0 0, .bool false]) (by simp [results, Try.results36, go_sem]) rfl (UnkP.none HMN.out HB6.out)
          · rw [hoo] at HOR
            have HPA : Hid (∀ W', Below wr.heap.size wr W' → Calls Try.prog 29 #[.slice (some ⟨g, 0, none⟩) fs.length c] W' fun e w' => ∃ v, e = .returned v ∧ RowB W'.heap.size w' v (endL (datL fs.length (fxG fs))) ∧ Below W'.heap.size W' w') := fun W' h => (HX.out.below h).pack (Nat.lt_of_lt_of_le hg h.size) hc0
            obtain ⟨EL, hEL⟩ : ∃ EL, endL (datL fs.length (fxG fs)) = EL := ⟨_, rfl⟩
            have hELb : Byt EL := by
              rw [← hEL]
              refine (datL_byt _ _).app (fun x hx => ?_)
              have hlt := sumL_lt (datL fs.length (fxG fs))
              simp at hx
              rcases hx with rfl | rfl <;> omega
            have hELp : 0 < EL.length := by rw [← hEL, endL_len]; omega
            have hELm : EL.length ≤ 1048576 := by
              have h12 := (fx_none hc0).1
              have h1 : (datL fs.length (fxG fs)).length ≤ 1202 := datL_len (fun i hi => (featsC_ok hc0).2.2 i hi) h12
              rw [← hEL, endL_len]; omega
            rw [hEL] at HPA
            have HSAY : Hid (strOfNums EL = strOfNums ((List.range n).map Z) ↔ Whole Z n EL) := text_whole HZ.out hELb
            obtain ⟨SD, hSD⟩ : ∃ SD, strOfNums ((List.range n).map Z) = SD := ⟨_, rfl⟩
            have HCD : Hid (∀ W', Below wr.heap.size wr W' → (convert 22 9 (.slice (some ⟨b, off, none⟩) n cap)).run Try.prog W' = .ok (.string SD) W') := fun W' h => by
              rw [← hSD]
              exact run_convert_bytes_arg W' 22 5 Try.underlying22 Try.underlying5 b off n cap _ (by simp) (fun i hi => by
                have hbb : Below w.heap.size w W' := bl_then HBr.out h
                have := (hbb.cell (p := ⟨b, off + i, none⟩) hb).trans (HS.out i hi)
                rw [this]
                simp [List.getD, hi]) 9 Try.underlying9
            rw [hSD] at HSAY
            have HU1 : Hid (Whole Z n EL → upM Z n = some fs) := fun h => by
              unfold upM
              rw [HL0.out, Option.bind_some, if_pos ⟨hc0, hoo, by simp only [hEL]; exact h⟩]
            have HU2 : Hid (¬ Whole Z n EL → upM Z n = none) := fun h => by
              unfold upM
              rw [HL0.out, Option.bind_some, if_neg (fun h' => h (by have h3 := h'.2.2; simp only [hEL] at h3; exact h3))]
            clear hSD hEL
            rcases hcc with ⟨hi', hi13⟩ | hi'
            · go_wp2_with fail
              refine (HMA.out _ (Below.refl _ _)).mono ?_
              rintro e w5 ⟨rfl, hb5⟩
              go_wp2_with fail
              refine (HOR.out _ hb5).mono ?_
              rintro e w6 ⟨rfl, hb6⟩
              have HB6 : Hid (Below wr.heap.size wr w6) := bl_then hb5 hb6
              clear hb5 hb6
              go_wp2_with fail
              refine wp_region_noPanic ?_
              refine wp_region_L (S := fun W' => Below wr.heap.size wr W') (z := 8) (by kernel_rfl) ?_
              have hSd : Below wr.heap.size wr w6.drew := HB6.out.trans (by (repeat (first | exact Below.refl _ _ | assumption | refine Below.drew ?_ | refine bl_alloc ?_ _ | refine bl_then ?_ (by assumption) | refine Below.setCell ?_ (by first | omega | (simp; done) | (simp; omega)) _ | refine bl_store ?_ ?_ _ _)))
              refine wpAnyL_take (i := 0) (v := ?w0) rfl (by kernel_rfl) (by kernel_rfl) (by kernel_rfl) (by kernel_rfl) (fun _ _ _ h => h) (Or.inl ⟨by rfl, ?hw0⟩) hSd ?_
              case hw0 => (intro w hSw; (try dsimp only at hSw);  go_simp <;> with_reducible rfl)
              try simp only [Act.put, List.setIfInBounds_toArray, List.set_cons_zero, List.set_cons_succ]
              refine wpAnyL_take (i := 1) (v := ?w1) rfl (by kernel_rfl) (by kernel_rfl) (by kernel_rfl) (by kernel_rfl) (fun _ _ _ h => h) (Or.inl ⟨by rfl, ?hw1⟩) hSd ?_
              case hw1 => (intro w hSw; (try dsimp only at hSw);  go_simp <;> with_reducible rfl)
              try simp only [Act.put, List.setIfInBounds_toArray, List.set_cons_zero, List.set_cons_succ]
              refine wpAnyL_take (i := 4) (v := ?w4) rfl (by kernel_rfl) (by kernel_rfl) (by kernel_rfl) (by kernel_rfl) (fun _ _ _ h => h) (Or.inl ⟨by rfl, ?hw4⟩) hSd ?_
              case hw4 => (intro w hSw; (try dsimp only at hSw);  go_simp <;> with_reducible rfl)
              try simp only [Act.put, List.setIfInBounds_toArray, List.set_cons_zero, List.set_cons_succ]
              refine wpAnyL_take (i := 5) (v := ?w5) rfl (by kernel_rfl) (by kernel_rfl) (by kernel_rfl) (by kernel_rfl) (fun _ _ _ h => h) (Or.inl ⟨by rfl, ?hw5⟩) hSd ?_
              case hw5 => (intro w hSw; (try dsimp only at hSw); have hcv := HCD.out w hSw; go_simp <;> with_reducible rfl)
              try simp only [Act.put, List.setIfInBounds_toArray, List.set_cons_zero, List.set_cons_succ]
              refine wpAnyL_one (i := 2) (by kernel_rfl) rfl (fun K hK => ?_)
              go_simp
              refine Calls.mono (HPA.out _ hSd) ?_
              rintro e wB ⟨vB, rfl, hRB, hbB⟩
              obtain ⟨gB, cB, rfl, _, _, _, hsB⟩ := hRB.at hELp
              have hSB : Below wr.heap.size wr wB := bl_then hSd hbB
              go_wp2_with fail
              refine hK.out _ _ (fun _ => hSB) ?_
              clear hK K
              try simp only [Act.put, List.setIfInBounds_toArray, List.set_cons_zero, List.set_cons_succ]
              obtain ⟨SL, hSL⟩ : ∃ SL, strOfNums EL = SL := ⟨_, rfl⟩
              have hcB : (convert 22 9 (.slice (some ⟨gB, 0, none⟩) EL.length cB)).run Try.prog wB = .ok (.string SL) wB := by
                rw [← hSL]
                exact run_convert_bytes_arg wB 22 5 Try.underlying22 Try.underlying5 gB 0 EL.length cB EL rfl (fun i hi => by
                  have := hsB i hi
                  rw [this]
                  simp [zz, List.getD, hi]) 9 Try.underlying9
              have HSY : Hid (SL = SD ↔ Whole Z n EL) := by rw [← hSL]; exact HSAY.out
              clear hSL
              refine wpAnyL_take (i := 7) (v := ?w7) rfl (by kernel_rfl) (by kernel_rfl) (by kernel_rfl) (by kernel_rfl) (fun _ _ _ h => h) (Or.inl ⟨by rfl, ?hw7⟩) hSB ?_
              case hw7 => (intro w hSw; (try dsimp only at hSw); go_simp <;> with_reducible rfl)
              try simp only [Act.put, List.setIfInBounds_toArray, List.set_cons_zero, List.set_cons_succ]
              refine wpAnyL_one (i := 3) (by kernel_rfl) rfl (fun K hK => ?_)
              go_simp
              refine hK.out _ _ (fun _ => hSB) ?_
              clear hK K
              try simp only [Act.put, List.setIfInBounds_toArray, List.set_cons_zero, List.set_cons_succ]
              refine wpAnyL_take (i := 6) (v := ?w6) rfl (by kernel_rfl) (by kernel_rfl) (by kernel_rfl) (by kernel_rfl) (fun _ _ _ h => h) (Or.inl ⟨by rfl, ?hw6⟩) hSB ?_
              case hw6 => (intro w hSw; (try dsimp only at hSw); go_simp <;> with_reducible rfl)
              try simp only [Act.put, List.setIfInBounds_toArray, List.set_cons_zero, List.set_cons_succ]
              refine wpAnyL_one (i := 8) (by kernel_rfl) rfl (fun K hK => ?_)
              go_simp
              refine hK.out _ _ (fun h => absurd rfl h) ?_
              clear hK K
              try simp only [Act.put, List.setIfInBounds_toArray, List.set_cons_zero, List.set_cons_succ]
              refine wpAnyL_done (by kernel_rfl) ?_ _
              refine NoPanic.normal ?_
              go_wp2_with fail
              have HBf : Hid (Below w.heap.size w wB) := bl_then HBr.out hSB
              by_cases hwh : Whole Z n EL
              · have he : SL = SD := HSY.out.2 hwh
                have hq : (SL.toList == SD.toList) = true := by rw [he]; simp
                rw [hq]
                have HXf : Hid (FxRow w.heap.size wB (.slice (some ⟨g, 0, none⟩) fs.length c) fs H) := (HX.out.below hSB).wideU (by omega)
                exact bodyPost_ret (v := .tuple #[.slice (some ⟨g, 0, none⟩) fs.length c, .bool true]) (by simp [results, Try.results36, go_sem]) rfl (UnkP.some (HU1.out hwh) HXf.out HBf.out)
              · have he : ¬ SL = SD := fun h => hwh (HSY.out.1 h)
                have hq : (SL.toList == SD.toList) = false := text_ne he
                rw [hq]
                exact bodyPost_ret (v := .tuple #[.slice (some ⟨g, 0, none⟩) fs.length c, .bool false]) (by simp [results, Try.results36, go_sem]) rfl (UnkP.none (HU2.out hwh) HBf.out)
            · go_wp2_with fail
              refine (HMA.out _ (Below.refl _ _)).mono ?_
              rintro e w5 ⟨rfl, hb5⟩
              go_wp2_with fail
              refine (HOR.out _ hb5).mono ?_
              rintro e w6 ⟨rfl, hb6⟩
              have HB6 : Hid (Below wr.heap.size wr w6) := bl_then hb5 hb6
              clear hb5 hb6
              go_wp2_with fail
              refine wp_region_noPanic ?_
              refine wp_region_L (S := fun W' => Below wr.heap.size wr W') (z := 8) (by kernel_rfl) ?_
              have hSd : Below wr.heap.size wr w6.drew := HB6.out.trans (by (repeat (first | exact Below.refl _ _ | assumption | refine Below.drew ?_ | refine bl_alloc ?_ _ | refine bl_then ?_ (by assumption) | refine Below.setCell ?_ (by first | omega | (simp; done) | (simp; omega)) _ | refine bl_store ?_ ?_ _ _)))
              refine wpAnyL_take (i := 0) (v := ?y0) rfl (by kernel_rfl) (by kernel_rfl) (by kernel_rfl) (by kernel_rfl) (fun _ _ _ h => h) (Or.inl ⟨by rfl, ?hy0⟩) hSd ?_
              case hy0 => (intro w hSw; (try dsimp only at hSw);  go_simp <;> with_reducible rfl)
              try simp only [Act.put, List.setIfInBounds_toArray, List.set_cons_zero, List.set_cons_succ]
              refine wpAnyL_take (i := 1) (v := ?y1) rfl (by kernel_rfl) (by kernel_rfl) (by kernel_rfl) (by kernel_rfl) (fun _ _ _ h => h) (Or.inl ⟨by rfl, ?hy1⟩) hSd ?_
              case hy1 => (intro w hSw; (try dsimp only at hSw);  go_simp <;> with_reducible rfl)
              try simp only [Act.put, List.setIfInBounds_toArray, List.set_cons_zero, List.set_cons_succ]
              refine wpAnyL_take (i := 4) (v := ?y4) rfl (by kernel_rfl) (by kernel_rfl) (by kernel_rfl) (by kernel_rfl) (fun _ _ _ h => h) (Or.inl ⟨by rfl, ?hy4⟩) hSd ?_
              case hy4 => (intro w hSw; (try dsimp only at hSw);  go_simp <;> with_reducible rfl)
              try simp only [Act.put, List.setIfInBounds_toArray, List.set_cons_zero, List.set_cons_succ]
              refine wpAnyL_take (i := 5) (v := ?y5) rfl (by kernel_rfl) (by kernel_rfl) (by kernel_rfl) (by kernel_rfl) (fun _ _ _ h => h) (Or.inl ⟨by rfl, ?hy5⟩) hSd ?_
              case hy5 => (intro w hSw; (try dsimp only at hSw); have hcv := HCD.out w hSw; go_simp <;> with_reducible rfl)
              try simp only [Act.put, List.setIfInBounds_toArray, List.set_cons_zero, List.set_cons_succ]
              refine wpAnyL_one (i := 2) (by kernel_rfl) rfl (fun K hK => ?_)
              go_simp
              refine Calls.mono (HPA.out _ hSd) ?_
              rintro e wB ⟨vB, rfl, hRB, hbB⟩
              obtain ⟨gB, cB, rfl, _, _, _, hsB⟩ := hRB.at hELp
              have hSB : Below wr.heap.size wr wB := bl_then hSd hbB
              go_wp2_with fail
              refine hK.out _ _ (fun _ => hSB) ?_
              clear hK K
              try simp only [Act.put, List.setIfInBounds_toArray, List.set_cons_zero, List.set_cons_succ]
              obtain ⟨SL, hSL⟩ : ∃ SL, strOfNums EL = SL := ⟨_, rfl⟩
              have hcB : (convert 22 9 (.slice (some ⟨gB, 0, none⟩) EL.length cB)).run Try.prog wB = .ok (.string SL) wB := by
                rw [← hSL]
                exact run_convert_bytes_arg wB 22 5 Try.underlying22 Try.underlying5 gB 0 EL.length cB EL rfl (fun i hi => by
                  have := hsB i hi
                  rw [this]
                  simp [zz, List.getD, hi]) 9 Try.underlying9
              have HSY : Hid (SL = SD ↔ Whole Z n EL) := by rw [← hSL]; exact HSAY.out
              clear hSL
              refine wpAnyL_take (i := 7) (v := ?y7) rfl (by kernel_rfl) (by kernel_rfl) (by kernel_rfl) (by kernel_rfl) (fun _ _ _ h => h) (Or.inl ⟨by rfl, ?hy7⟩) hSB ?_
              case hy7 => (intro w hSw; (try dsimp only at hSw); go_simp <;> with_reducible rfl)
              try simp only [Act.put, List.setIfInBounds_toArray, List.set_cons_zero, List.set_cons_succ]
              refine wpAnyL_one (i := 3) (by kernel_rfl) rfl (fun K hK => ?_)
              go_simp
              refine hK.out _ _ (fun _ => hSB) ?_
              clear hK K
              try simp only [Act.put, List.setIfInBounds_toArray, List.set_cons_zero, List.set_cons_succ]
              refine wpAnyL_take (i := 6) (v := ?y6) rfl (by kernel_rfl) (by kernel_rfl) (by kernel_rfl) (by kernel_rfl) (fun _ _ _ h => h) (Or.inl ⟨by rfl, ?hy6⟩) hSB ?_
              case hy6 => (intro w hSw; (try dsimp only at hSw); go_simp <;> with_reducible rfl)
              try simp only [Act.put, List.setIfInBounds_toArray, List.set_cons_zero, List.set_cons_succ]
              refine wpAnyL_one (i := 8) (by kernel_rfl) rfl (fun K hK => ?_)
              go_simp
              refine hK.out _ _ (fun h => absurd rfl h) ?_
              clear hK K
              try simp only [Act.put, List.setIfInBounds_toArray, List.set_cons_zero, List.set_cons_succ]
              refine wpAnyL_done (by kernel_rfl) ?_ _
              refine NoPanic.normal ?_
              go_wp2_with fail
              have HBf : Hid (Below w.heap.size w wB) := bl_then HBr.out hSB
              by_cases hwh : Whole Z n EL
              · have he : SL = SD := HSY.out.2 hwh
                have hq : (SL.toList == SD.toList) = true := by rw [he]; simp
                rw [hq]
                have HXf : Hid (FxRow w.heap.size wB (.slice (some ⟨g, 0, none⟩) fs.length c) fs H) := (HX.out.below hSB).wideU (by omega)
                exact bodyPost_ret (v := .tuple #[.slice (some ⟨g, 0, none⟩) fs.length c, .bool true]) (by simp [results, Try.results36, go_sem]) rfl (UnkP.some (HU1.out hwh) HXf.out HBf.out)
              · have he : ¬ SL = SD := fun h => hwh (HSY.out.1 h)
                have hq : (SL.toList == SD.toList) = false := text_ne he
                rw [hq]
                exact bodyPost_ret (v := .tuple #[.slice (some ⟨g, 0, none⟩) fs.length c, .bool false]) (by simp [results, Try.results36, go_sem]) rfl (UnkP.none (HU2.out hwh) HBf.out)
        · have HMN : Hid (upM Z n = none) := by
            show _ = _
            unfold upM
            rw [HL0.out, Option.bind_some, if_neg (fun h => hc0 h.1)]
          generalize fxC fs = qc at HMA hc0
          have hq1 : (qc != 0) = true := by simpa using hc0
          have hq2 : (qc == 0) = false := by simpa using hc0
          rcases hcc with ⟨hi', hi13⟩ | hi'
          all_goals
            go_wp2_with fail
            refine (HMA.out _ (Below.refl _ _)).mono ?_
            rintro e w5 ⟨rfl, hb5⟩
            have HB6 : Hid (Below w.heap.size w w5) := bl_then HBr.out hb5
            clear hb5
            go_wp2_with fail
            exact bodyPost_ret (v := .tuple #[.slice none 0 0, .bool false]) (by simp [results, Try.results36, go_sem]) rfl (UnkP.none HMN.out HB6.out)
      · have HMN : Hid (upM Z n = none) := by
          show _ = _
          rcases HI.out with ⟨_, h⟩ | ⟨h, _⟩
          · unfold upM; rw [h]; rfl
          · cases h
        clear HI HX HD HK
        by_cases hlt : k < C
        · have hi' : (k : Int) < (C : Int) := by omega
          by_cases h13 : k < 13
          · have hi13 : (k : Int) < 13 := by omega
            go_wp2_with fail
            exact bodyPost_ret (v := .tuple #[.slice none 0 0, .bool false]) (by simp [results, Try.results36, go_sem]) rfl (UnkP.none HMN.out HBr.out)
          · have hi13 : ¬ (k : Int) < 13 := by omega
            go_wp2_with fail
            exact bodyPost_ret (v := .tuple #[.slice none 0 0, .bool false]) (by simp [results, Try.results36, go_sem]) rfl (UnkP.none HMN.out HBr.out)
        · have hi' : ¬ (k : Int) < (C : Int) := by omega
          go_wp2_with fail
          exact bodyPost_ret (v := .tuple #[.slice none 0 0, .bool false]) (by simp [results, Try.results36, go_sem]) rfl (UnkP.none HMN.out HBr.out)
end Go.Proofs.Ytcbpaockahkakaa
