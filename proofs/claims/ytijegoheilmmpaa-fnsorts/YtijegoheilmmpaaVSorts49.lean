/- FnSorts: features in order are the same ones, whatever order they had: the law's steps. -/
import Derived.Test.YtijegoheilmmpaaVSorts35
import Derived.Test.YtijegoheilmmpaaVSorts47
import Derived.Test.YtijegoheilmmpaaVSorts48
import Derived.Deep.DeepCutAuto
namespace Go.Proofs.Ytijegoheilmmpaa
open Go.RowKit
set_option linter.unusedSimpArgs false
set_option linter.unusedVariables false
set_option maxRecDepth 100000

/-- Two lists of the same features. -/
def Pair (k : Nat) (W : World) (a a' : Option Addr) : Prop := ∃ T T' : Nat → Feat, FsZ W a k T ∧ FsZ W a' k T' ∧ (∀ i, i < k → (T i).same (T' i)) ∧ SmallFs k T'
theorem FnSorts_big (a : Option Addr) (n cap : Nat) (w : World) (hbig : 1048576 < n) : Calls Try.prog 3 #[.slice a n cap] w fun e w' => e = .returned (.bool true) ∧ Below w.heap.size w w' := by
  have hn : decide (1048576 < (n : Int)) = true := by simp; omega
  go_enter Try.func3, Try.ntmps3
  go_wp2_with (go_at_call 6; refine (lwBig_any _ _ _ _).mono ?_; rintro e w' ⟨rfl, rfl⟩)
  go_ret
  exact ⟨rfl, Below.refl _ _⟩
set_option maxHeartbeats 8000000 in
theorem FnSorts_walk (a : Option Addr) (n cap : Nat) (Z : Nat → Int) (w : World) (h : IsBytes w a n Z ∧ (∀ i, 0 ≤ Z i ∧ Z i ≤ 255) ∧ n ≤ cap) :
    Calls Try.prog 3 #[.slice a n cap] w fun e w' => e = .returned (.bool true) ∧ Below w.heap.size w w' := by
  obtain ⟨hI, hR, hcap⟩ := h
  by_cases hbig : 1048576 < n
  · exact FnSorts_big a n cap w hbig
  have hn1 : n ≤ 1048576 := by omega
  have HI : Hid (IsBytes w a n Z) := hI
  have HR : Hid (∀ i, 0 ≤ Z i ∧ Z i ≤ 255) := hR
  have hn : decide (1048576 < (n : Int)) = false := by simp; omega
  obtain ⟨i0, hi, hz0, hz1, hz2⟩ := info_parts info_if
  clear hI hR hbig
  go_enter Try.func3, Try.ntmps3
  go_wp2_with fail
  refine (lwBig_any _ _ _ _).mono ?_
  rintro e w0 ⟨rfl, hw0⟩
  have hw0' := hw0.symm
  subst hw0'
  clear hw0
  go_wp2_with fail
  refine (DrawSortFeatures_any a n cap Z _ HI.out HR.out hn1 hcap).mono ?_
  rintro e w1 ⟨g, m, c, G, rfl, ⟨hmc, hm13, hgl, hF1, hS1⟩, hb1⟩
  have HF1 : Hid (FsAt w1 g 0 m G) := hF1
  have HS1 : Hid (SmallFs m G) := hS1
  have HB1 : Hid (Below w.heap.size w w1) := hb1
  clear hF1 hS1 hb1
  go_wp2_with fail
  refine (impl_SortFeatures_any g m c G w1 HF1.out hgl HS1.out hmc).mono ?_
  rintro e w2 ⟨a1, c1, T1, rfl, hc1, hRes, hb2⟩
  have hZ2 := hRes.z
  have hT2 := hRes.2.1
  have HZ2 : Hid (FsZ w2 a1 (srtM m G) T1) := hZ2
  have HT2 : Hid (∀ i, i < srtM m G → (T1 i).same (G ((srtF m G).getD i 0))) := hT2
  have HB2 : Hid (Below w1.heap.size w1 w2) := hb2
  have HC1 : Hid (srtM m G ≤ c1) := hc1
  clear hRes hZ2 hT2 hb2 hc1
  by_cases hC : featsC m G = 0
  · have HC : Hid (featsC m G = 0) := hC
    have hM : srtM m G = m := by unfold srtM; rw [if_pos hC]
    have hsM : Hid (srtM m G = m) := hM
    rw [hC, hM]
    rw [hM] at HZ2 HT2 HC1
    have hkc1 : m ≤ c1 := HC1.out
    clear hC hM
    go_wp2_with fail
    generalize hV : ((w2.alloc _).alloc _ : World) = V
    have hBV : Below w2.heap.size w2 V := by subst hV; (repeat (first | exact Below.refl _ _ | assumption | refine Below.drew ?_ | refine bl_alloc ?_ _ | refine bl_then ?_ (by assumption) | refine Below.setCell ?_ (by first | omega | (simp; done) | (simp; omega)) _ | refine bl_store ?_ ?_ _ _))
    have HRV : Hid (R2At V w2.heap.size 0 (.slice a1 m c1)) := by show R2At _ _ _ _; subst hV; exact ⟨by simp [go_sem], by simp [go_sem]⟩
    have HFV : Hid (FRow (w2.heap.size + 1) V (.slice (some ⟨w2.heap.size + 1, 0, none⟩) 0 0) (fun j => G (m - 1 - j)) []) := by
      show FRow _ _ _ _ _
      subst hV
      have := World.ownsRow_lit (base := w2.heap.size + 1) (e := 32) (size := 7) (w2.alloc (.cells #[.int .i64 0, .slice a1 m c1] 27)) #[] 0 (by simp) (Nat.zero_le _) rfl
      rw [World.size_alloc] at this
      exact this
    have HBV : Hid (Below w2.heap.size w2 V) := hBV
    clear hV hBV
    go_loopw [5, 6] (fun v i wr => ∃ k gb cb : Nat, k ≤ m ∧ i = .int .i64 ((m : Int) - 1 - (k : Int)) ∧ v = .slice (some ⟨gb, 0, none⟩) k cb ∧ FRow (w2.heap.size + 1) wr (.slice (some ⟨gb, 0, none⟩) k cb) (fun j => G (m - 1 - j)) (List.range k) ∧ R2At wr w2.heap.size 0 (.slice a1 m c1) ∧ Below w2.heap.size w2 wr) (fun _ i _ => (intOf i + 1).toNat)
    case atStart => exact ⟨0, _, _, by omega, by simp, rfl, HFV.out, HRV.out, HBV.out⟩
    case round =>
      obtain ⟨k, gb, cb, hk, rfl, rfl, hFr, hRr, hBr⟩ := hrel
      have HFr : Hid (FRow (w2.heap.size + 1) wr (.slice (some ⟨gb, 0, none⟩) k cb) (fun j => G (m - 1 - j)) (List.range k)) := hFr
      have HRr : Hid (R2At wr w2.heap.size 0 (.slice a1 m c1)) := hRr
      have HBr : Hid (Below w2.heap.size w2 wr) := hBr
      clear hFr hRr hBr
      by_cases hlt : k < m
      · obtain ⟨j, hj⟩ : ∃ j, j = m - 1 - k := ⟨_, rfl⟩
        have hjm : j < m := by omega
        have hji : (m : Int) - 1 - (k : Int) = ((j : Nat) : Int) := by omega
        rw [hji]
        have HJ : Hid (j = m - 1 - k) := hj
        have HJI : Hid ((m : Int) - 1 - (k : Int) = ((j : Nat) : Int)) := hji
        obtain ⟨⟨f0, f1, f2, f3, f4, f5, f6⟩, _⟩ := HF1.out.below (bl_then HB2.out HBr.out) hgl j hjm
        simp only [Nat.zero_add] at f0 f1 f2 f3 f4 f5 f6
        have hi1 : (j : Int) < (m : Int) := by omega
        have hi2 : (0 : Int) ≤ (j : Int) := by omega
        have hw2r : w2.heap.size < wr.heap.size := World.block_lt_of_cell? _ _ HRr.out.1
        clear hj hji
        go_wp2_with (first
          | (at_builtin; go_must (refine wpList_append_own _ rfl _ _ 24 rfl (w2.heap.size + 1) 32 i0 (.agg #[.int .i64 0, .int .i64 0, .int .i64 0, .int .i64 0, .slice none 0 0, .string ⟨#[]⟩, .int .i64 0]) 7 80 Try.underlying24 hi hz0 hz1 hz2 rfl (by decide) (.slice (some ⟨gb, 0, none⟩) k cb) k (cellsF (fun j => G (m - 1 - j)) (List.range k)) rfl ?c6 ⟨wr.heap.size, 0, none⟩ 1 1 (fcell (G j)) rfl ?c0 ?c1 ?c2 ?c3 ?c4 ?c5 ?_)))
        case c6 =>
          have := HFr.out.below ((Below.refl wr.heap.size wr).alloc (Nat.le_refl _) (.cells #[.int .i64 (G j).id, .int .i64 (G j).la, .int .i64 (G j).ki, .int .i64 (G j).wi, .slice (G j).a (G j).n (G j).cap, .string (G j).lab, .int .i64 (G j).pr] 32))
          unfold FRow at this
          rw [List.length_range] at this
          exact this
        case c0 => rfl
        case c1 =>
          intro q u hq
          have hq7 : q < 7 := (List.getElem?_eq_some_iff.1 hq).1
          have hc : q = 0 ∨ q = 1 ∨ q = 2 ∨ q = 3 ∨ q = 4 ∨ q = 5 ∨ q = 6 := by omega
          rcases hc with rfl | rfl | rfl | rfl | rfl | rfl | rfl <;> (simp [fcell] at hq; subst hq; simp [Addr.add, go_sem])
        case c2 => exact fcell_one _
        case c3 => unfold maxLen; omega
        case c4 => omega
        case c5 => simp; omega
        intro v' w4 hown' hgrow hnil
        obtain ⟨g4, c4, hv4⟩ : ∃ g4 c4, v' = .slice (some ⟨g4, 0, none⟩) (k + 1) c4 := by
          obtain ⟨_, h2 | ⟨g', cp, cur, hv, _⟩⟩ := hown'
          · first | exact absurd h2.1 hnil | (have := hnil.1 h2.1; simp at this)
          · exact ⟨g', cp, hv⟩
        subst hv4
        have hgb : w2.heap.size + 1 ≤ gb := by
          rcases HFr.out.at with ⟨hv, hl⟩ | ⟨g', c', hv, hg', _⟩
          · cases hv
          · injection hv with e1 e2 e3
            injection e1 with e1
            injection e1 with e1
            omega
        have HF4 : Hid (FRow (w2.heap.size + 1) w4 (.slice (some ⟨g4, 0, none⟩) (k + 1) c4) (fun j => G (m - 1 - j)) (List.range (k + 1))) := by
          show FRow _ _ _ _ _
          unfold FRow
          have e1 : cellsF (fun j => G (m - 1 - j)) (List.range (k + 1)) = cellsF (fun j => G (m - 1 - j)) (List.range k) ++ fcell (G j) := by
            rw [List.range_succ, cellsF_app, cellsF_one, HJ.out]
          rw [e1, List.length_range]
          exact hown'
        have hb4 : Below (w2.heap.size + 1) wr w4 := ((Below.refl _ wr).alloc (by omega) _).grown hgrow (by simp; omega) (fun q hq => by simp [Value.ownBlock] at hq; omega)
        have HR4 : Hid (R2At w4 w2.heap.size 0 (.slice a1 m c1)) := ⟨(hb4.cell (p := ⟨w2.heap.size, 0, none⟩) (Nat.lt_succ_self _)).trans HRr.out.1, (hb4.cell (p := ⟨w2.heap.size, 1, none⟩) (Nat.lt_succ_self _)).trans HRr.out.2⟩
        have HB4 : Hid (Below w2.heap.size w2 w4) := HBr.out.trans (hb4.mono (Nat.le_succ _))
        clear hown' hgrow hnil hb4
        go_wp2
        go_roundw
        case rel => exact ⟨k + 1, g4, c4, by omega, by congr 1; have := HJI.out; omega, rfl, HF4.out, HR4.out, HB4.out⟩
        case measure => have := HJI.out; simp [intOf]
      · have hkm : k = m := by omega
        subst hkm
        have hneg : ¬ (0 : Int) ≤ (k : Int) - 1 - (k : Int) := by omega
        generalize wr = X at *
        obtain ⟨x0, x1⟩ := HRr.out
        go_wp2_with fail
        clear x0 x1 hneg
        go_loopw [7] (fun v wr => ∃ p : Nat, v = .int .i64 ((p : Int) + 1) ∧ (p + 1 ≤ k ∨ p = 0) ∧ Below X.heap.size X wr) (fun v _ => k - (intOf v).toNat)
        case atStart => exact ⟨0, rfl, .inr rfl, Below.refl _ _⟩
        case round =>
          obtain ⟨p, rfl, hpk, hBq⟩ := hrel
          have HBq : Hid (Below X.heap.size X wr) := hBq
          obtain ⟨x0, x1⟩ := HRr.out.below hBq
          by_cases hlt2 : p + 1 < k
          · have hlt2' : (p : Int) + 1 < (k : Int) := by omega
            have hp0 : (0 : Int) ≤ (p : Int) := by omega
            have hp1 : (p : Int) < (k : Int) := by omega
            have hBw : Below w2.heap.size w2 wr := bl_then HBr.out hBq
            obtain ⟨hz1', hz2', _⟩ := HZ2.out
            obtain ⟨gr, har⟩ := hz2'.resolve_left (by omega)
            obtain ⟨b', off', ha', hbl', hFs⟩ := hz1'.resolve_left (by omega)
            rw [har] at ha'
            injection ha' with ha'
            injection ha' with y1 y2
            subst y1 y2
            rw [har] at x1
            obtain ⟨⟨f0, f1, f2, f3, f4, f5, f6⟩, _⟩ := hFs.below hBw hbl' p (by omega)
            obtain ⟨⟨e0, e1, e2, e3, e4, e5, e6⟩, _⟩ := hFs.below hBw hbl' (p + 1) hlt2
            simp only [Nat.zero_add] at f0 f1 f2 f3 f4 f5 f6 e0 e1 e2 e3 e4 e5 e6
            have hgr : gr < wr.heap.size := Nat.lt_of_lt_of_le hbl' hBw.size
            have hr2 : w2.heap.size < wr.heap.size := World.block_lt_of_cell? _ _ x0
            have hgr2 : gr ≠ w2.heap.size := by omega
            have hah := srtF_ahead k G HC.out p hlt2
            rw [ltK_iff] at hah
            have sa := HT2.out p (by omega)
            have sb := HT2.out (p + 1) hlt2
            have hkey : (T1 p).la < (T1 (p + 1)).la ∨ ((T1 p).la = (T1 (p + 1)).la ∧ (T1 p).id < (T1 (p + 1)).id) := by
              rw [sa.1, sa.2.1, sb.1, sb.2.1]
              exact hah
            have hno1 : decide ((T1 (p + 1)).la < (T1 p).la) = false := by simp; omega
            have HKEY : Hid ((T1 p).la < (T1 (p + 1)).la ∨ ((T1 p).la = (T1 (p + 1)).la ∧ (T1 p).id < (T1 (p + 1)).id)) := hkey
            clear hah sa sb hkey hz1' hz2' hFs hBw hBq
            by_cases heq : (T1 p).la = (T1 (p + 1)).la
            · have heq' : ((T1 p).la == (T1 (p + 1)).la) = true := by simpa using heq
              have hno2 : decide ((T1 (p + 1)).id ≤ (T1 p).id) = false := by have := HKEY.out; simp; omega
              clear heq
              go_wp2
              go_roundw
              case rel => exact ⟨p + 1, by congr 1, by omega, by have HB5 := HBq.out; (repeat (first | exact Below.refl _ _ | assumption | refine Below.drew ?_ | refine bl_alloc ?_ _ | refine bl_then ?_ (by assumption) | refine Below.setCell ?_ (by first | omega | (simp; done) | (simp; omega)) _ | refine bl_store ?_ ?_ _ _))⟩
              case measure => simp [intOf]; omega
            · have heq' : ((T1 p).la == (T1 (p + 1)).la) = false := by simpa using heq
              clear heq
              go_wp2
              go_roundw
              case rel => exact ⟨p + 1, by congr 1, by omega, by have HB5 := HBq.out; (repeat (first | exact Below.refl _ _ | assumption | refine Below.drew ?_ | refine bl_alloc ?_ _ | refine bl_then ?_ (by assumption) | refine Below.setCell ?_ (by first | omega | (simp; done) | (simp; omega)) _ | refine bl_store ?_ ?_ _ _))⟩
              case measure => simp [intOf]; omega
          · have hlt2' : ¬ (p : Int) + 1 < (k : Int) := by omega
            generalize wr = Y at *
            have r0 : ∀ W', Below Y.heap.size Y W' → W'.cell? ⟨w2.heap.size, 1, none⟩ = some (.slice a1 k c1) := fun W' h => bl_cell h x1
            have HBY : Hid (Below w2.heap.size w2 Y) := bl_then HBr.out hBq
            have HFY : Hid (FRow (w2.heap.size + 1) Y (.slice (some ⟨gb, 0, none⟩) k cb) (fun j => G (k - 1 - j)) (List.range k)) := HFr.out.below hBq
            have HZY : Hid (FsZ Y a1 k T1) := HZ2.out.below HBY.out
            clear hBq x0 x1
            have hsmT : Hid (SmallFs k T1) := ⟨by omega, fun i hi => by
              obtain ⟨_, _, _, _, s5, _, _, s8, _⟩ := HT2.out i hi
              rw [s5, s8]
              exact HS1.out.2 _ (srtF_lt k G i hi)⟩
            -- the list told the other way round
            have hrev : Hid (featsC k (fun j => G (k - 1 - j)) = 0 ∧ srtM k (fun j => G (k - 1 - j)) = k) := by
              have h0 : featsC k (fun j => G (k - 1 - j)) = 0 := featsC_perm (p := fun i => k - 1 - i) HC.out (fun i hi => by show k - 1 - i < k; omega) (fun i j hi hj e => by have e' : k - 1 - i = k - 1 - j := e; omega) (fun i hi => ⟨rfl, rfl, rfl, rfl, rfl, rfl, rfl, rfl, rfl⟩)
              exact ⟨h0, by unfold srtM; rw [if_pos h0]⟩
            have HX : Hid (∀ W', Below Y.heap.size Y W' → Calls Try.prog 8 #[.slice (some ⟨gb, 0, none⟩) k cb] W' fun e w' => ∃ a c, e = .returned (.agg #[.int .i64 0, .slice a k c]) ∧ Pair k w' a a1 ∧ Below W'.heap.size W' w') := fun W' h => by
              have hbl1 := bl_then HBY.out h
              have hfs := (HFY.out.below h).fs (fun j hj => (HF1.out.below (bl_then HB2.out hbl1) hgl (k - 1 - j) (by omega)).2)
              refine (impl_SortFeatures_any gb k cb (fun j => G (k - 1 - j)) W' hfs.2.2.2 hfs.2.1 ⟨by omega, fun i hi => HS1.out.2 _ (by omega)⟩ hfs.1).mono ?_
              rintro e w' ⟨a, c, T, he, _, hres, hb'⟩
              have hz := hres.z
              have ht := hres.2.1
              rw [hrev.out.2] at hz ht
              refine ⟨a, c, by rw [he, hrev.out.1, hrev.out.2], ⟨T, T1, hz, HZY.out.below (bl_then h hb'), fun i hi => ?_, hsmT.out⟩, hb'⟩
              have h1 := ht i hi
              have h2 := srtF_rev k G HC.out i hi
              have h3 : (T i).same (G (k - 1 - (srtF k (fun j => G (k - 1 - j))).getD i 0)) := h1
              rw [h2] at h3
              exact Feat.same_trans h3 (Feat.same_symm (HT2.out i hi))
            have HSAME : Hid (∀ (W : World) (a a' : Option Addr) (c c' : Nat), Pair k W a a' → Calls Try.prog 11 #[.slice a k c, .slice a' k c'] W fun e w' => e = .returned (.bool true) ∧ Below W.heap.size W w') := fun W a a' c c' ⟨T, T', h1, h2, h3, h4⟩ => sameFs_any a a' k c c' T T' W h1 h2 h3 h4
            have hT0 : Hid (featsC k T1 = 0) := featsC_perm (p := fun i => (srtF k G).getD i 0) HC.out (srtF_lt k G) (srtF_inj k G) HT2.out
            have HFF : Hid (∀ W', Below Y.heap.size Y W' → Calls Try.prog 10 #[.slice a1 k c1] W' fun e w' => e = .returned (.int .i64 0) ∧ Below W'.heap.size W' w') := fun W' h => by
              obtain ⟨z1, z2, z3⟩ := HZY.out.below h
              by_cases h0 : k = 0
              · subst h0; exact FeaturesFault_none a1 c1 W'
              · obtain ⟨gr, har⟩ := z2.resolve_left h0
                obtain ⟨b', off', ha', hbl', hFs⟩ := z1.resolve_left h0
                rw [har] at ha'
                injection ha' with ha'
                injection ha' with y1 y2
                subst y1 y2
                subst har
                have := FeaturesFault_any gr k c1 T1 W' hFs hbl' hsmT.out hkc1
                rw [hT0.out] at this
                exact this
            have HSP : Hid (∀ W', Below Y.heap.size Y W' → Calls Try.prog 9 #[.slice (some ⟨g, 0, none⟩) k c] W' fun e w' => ∃ a c, e = .returned (.agg #[.int .i64 0, .slice a k c]) ∧ Pair k w' a1 a ∧ Below W'.heap.size W' w') := fun W' h => by
              have hb := bl_then HB2.out (bl_then HBY.out h)
              refine (spec_SortFeatures_pts g k c G W' (HF1.out.below hb hgl) (Nat.lt_of_lt_of_le hgl hb.size) HS1.out).mono ?_
              rintro e w' ⟨a, c, T, he, hf, ht, hp, hz, hb'⟩
              rw [hsM.out] at hf ht hp hz
              refine ⟨a, c, by rw [he, hsM.out, HC.out], ⟨T1, T, HZY.out.below (bl_then h hb'), ⟨hf, hz, hp⟩, fun i hi => Feat.same_trans (HT2.out i hi) (Feat.same_symm (ht i hi)), by omega, fun i hi => ?_⟩, hb'⟩
              obtain ⟨_, _, _, _, s5, _, _, s8, _⟩ := ht i hi
              rw [s5, s8]
              exact HS1.out.2 _ (srtF_lt k G i hi)
            have j1 : ∀ (a : Option Addr) (c : Nat) w, (Instr.field 27 (.agg #[.int .i64 0, .slice a k c]) 1).run Try.prog w = .ok (.slice a k c) w := fun _ _ _ => by kernel_rfl
            have HBYw : Hid (Below w.heap.size w Y) := bl_then HB1.out (bl_then HB2.out HBY.out)
            have hkk : ((k : Int) == (k : Int)) = true := by simp
            clear hrev hsmT hT0 HFY HZY HZ2 HT2 HF1 HS1 HFr HRr HBr
            have hrY : Below Y.heap.size Y Y := Below.refl _ _
            go_wp2_with fail
            go_region_held3 (fun W' => Below Y.heap.size Y W') ((repeat (first | exact Below.refl _ _ | assumption | refine Below.drew ?_ | refine bl_alloc ?_ _ | refine bl_then ?_ (by assumption) | refine Below.setCell ?_ (by first | omega | (simp; done) | (simp; omega)) _ | refine bl_store ?_ ?_ _ _)))
              (first
                | (go_at_call 8; refine (HX.out _ (by assumption)).mono ?_; rintro e w' ⟨a5, c5, rfl, hp5, hb⟩)
                | (go_at_call 11; refine (HSAME.out _ _ _ _ _ (by assumption)).mono ?_; rintro e w' ⟨rfl, hb⟩)
                | (go_at_call 10; refine (HFF.out _ (by assumption)).mono ?_; rintro e w' ⟨rfl, hb⟩)
                | (go_at_call 9; refine (HSP.out _ (by assumption)).mono ?_; rintro e w' ⟨a9, c9, rfl, hp9, hb⟩)
                | fail)
            go_wp2
            go_ret
            exact ⟨rfl, bl_then HBYw.out (by assumption)⟩
  · have HC : Hid (featsC m G ≠ 0) := hC
    have hM : Hid (srtM m G = 0) := by show _ = _; unfold srtM; rw [if_neg hC]
    have hcb : (featsC m G == 0) = false := by simpa using hC
    rw [hM.out]
    obtain ⟨C, hCd⟩ : ∃ C, C = featsC m G := ⟨_, rfl⟩
    have HCD : Hid (C = featsC m G) := hCd
    rw [← hCd] at hcb ⊢
    clear hC hCd
    go_wp2_with fail
    generalize hV : (w2.alloc _ : World) = V
    have hBV : Below w2.heap.size w2 V := by subst hV; (repeat (first | exact Below.refl _ _ | assumption | refine Below.drew ?_ | refine bl_alloc ?_ _ | refine bl_then ?_ (by assumption) | refine Below.setCell ?_ (by first | omega | (simp; done) | (simp; omega)) _ | refine bl_store ?_ ?_ _ _))
    have r0 : ∀ W', Below V.heap.size V W' → W'.cell? ⟨w2.heap.size, 0, none⟩ = some (.int .i64 C) := fun W' h => by
      rw [h.cell (by subst hV; simp)]; subst hV; simp [go_sem]
    clear hV
    have HBV : Hid (Below w1.heap.size w1 V) := bl_then HB2.out hBV
    clear hBV
    have HX : Hid (∀ W', Below V.heap.size V W' → Calls Try.prog 9 #[.slice (some ⟨g, 0, none⟩) m c] W' fun e w' => ∃ a c, e = .returned (.agg #[.int .i64 C, .slice a 0 c]) ∧ Below W'.heap.size W' w') := fun W' h => by
      have hb := bl_then HBV.out h
      refine (spec_SortFeatures_any g m c G W' (HF1.out.below hb hgl) (Nat.lt_of_lt_of_le hgl hb.size) HS1.out).mono ?_
      rintro e w' ⟨a, c, T, he, _, _, hb'⟩
      exact ⟨a, c, by rw [he, hM.out, HCD.out], hb'⟩
    have HY : Hid (∀ W', Below V.heap.size V W' → Calls Try.prog 10 #[.slice (some ⟨g, 0, none⟩) m c] W' fun e w' => e = .returned (.int .i64 C) ∧ Below W'.heap.size W' w') := fun W' h => by
      have hb := bl_then HBV.out h
      rw [HCD.out]
      exact FeaturesFault_any g m c G W' (HF1.out.below hb hgl) (Nat.lt_of_lt_of_le hgl hb.size) HS1.out hmc
    have j0 : ∀ (C : Int) a c w, (Instr.field 27 (.agg #[.int .i64 C, .slice a 0 c]) 0).run Try.prog w = .ok (.int .i64 C) w := fun _ _ _ _ => by kernel_rfl
    have hcc : (C == C) = true := by simp
    have hrV : Below V.heap.size V V := Below.refl _ _
    go_wp2_with fail
    go_region_held3 (fun W' => Below V.heap.size V W') ((repeat (first | exact Below.refl _ _ | assumption | refine Below.drew ?_ | refine bl_alloc ?_ _ | refine bl_then ?_ (by assumption) | refine Below.setCell ?_ (by first | omega | (simp; done) | (simp; omega)) _ | refine bl_store ?_ ?_ _ _)))
      (first
        | (go_at_call 9; refine (HX.out _ (by assumption)).mono ?_; rintro e w' ⟨a', c', rfl, hb⟩)
        | (go_at_call 10; refine (HY.out _ (by assumption)).mono ?_; rintro e w' ⟨rfl, hb⟩)
        | fail)
    go_wp2
    go_ret
    exact ⟨rfl, bl_then HB1.out (bl_then HBV.out (by assumption))⟩
end Go.Proofs.Ytijegoheilmmpaa
