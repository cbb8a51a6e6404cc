/- thinned of the program: the points that stay. -/
import Derived.Test.YtdohlnnbibnnbaaGreatVPlaceLabels24
import Derived.Test.YtdohlnnbibnnbaaGreatVPlaceLabels19
import Derived.WalkMore
import Derived.Deep.LoopGhost
namespace Go.Proofs.YtdohlnnbibnnbaaGreat
open Go.RowKit
set_option linter.unusedSimpArgs false
set_option linter.unusedVariables false

theorem ptsOf_add (X Y : Nat → Int) (l : List Nat) (i : Nat) : ptsOf X Y (l ++ [i]) = ptsOf X Y l ++ [(X i, Y i)] := by simp [ptsOf]

set_option maxRecDepth 8000 in
set_option maxHeartbeats 4000000 in
theorem thinned_any (b n cap : Nat) (X Y : Nat → Int) (r : Int) (L : List Nat) (w : World) (hp : PtsAt w b 0 n X Y) (hbl : b < w.heap.size) (hn : 2 ≤ n) (hn' : n ≤ 40) (hcap : n ≤ cap) (hok : ∀ i, i < n → okP (X i) (Y i) = true) (hr0 : 0 ≤ r) (hr1 : r ≤ 4096) (hL : Thin X Y r 0 (n - 1) L) :
    Calls Tryz.prog 101 #[.slice (some ⟨b, 0, none⟩) n cap, .int .i64 r] w fun e w' => ∃ v, e = .returned v ∧ Row w.heap.size w' v (ptsOf X Y (L ++ [n - 1])) ∧ Below w.heap.size w w' := by
  obtain ⟨i0, hi, hz0, hz1, hz2⟩ := info_parts (show (Tryz.prog.info? 111).map (fun i => (i.zero, i.size, i.bytes)) = some (some (.agg #[.int .i64 0, .int .i64 0]), 2, 16) by kernel_rfl)
  have HP : Hid (PtsAt w b 0 n X Y) := hp
  have HOK : Hid (∀ i, i < n → okP (X i) (Y i) = true) := hok
  have HL : Hid (Thin X Y r 0 (n - 1) L) := hL
  obtain ⟨f0, f1⟩ := hp 0 (by omega)
  clear hp hok hL
  simp only [Nat.zero_mul, Nat.add_zero, Nat.zero_add] at f0 f1
  have hn0 : (0 : Int) < (n : Int) := by omega
  have hn00 : 0 < n := by omega
  obtain ⟨M, hM⟩ : ∃ M, M = n - 1 := ⟨_, rfl⟩
  rw [← hM]
  have HM : Hid (M = n - 1) := hM
  have hMi : (n : Int) - 1 = (M : Int) := by omega
  rw [← hM] at HL
  clear hM
  go_enter Tryz.func101, Tryz.ntmps101
  go_wp2_with fail
  go_step3
  go_wp2_with fail
  have c0 : ∀ W', Below w.heap.size w W' → W'.cell? ⟨b, 0, none⟩ = some (.int .i64 (X 0)) := fun W' h => (h.cell (p := ⟨b, 0, none⟩) hbl).trans f0
  have c1 : ∀ W', Below w.heap.size w W' → W'.cell? ⟨b, 1, none⟩ = some (.int .i64 (Y 0)) := fun W' h => (h.cell (p := ⟨b, 1, none⟩) hbl).trans f1
  clear f0 f1
  go_region_held3 (fun W' => Below w.heap.size w W') ((repeat (first | exact Below.refl _ _ | assumption | refine Below.drew ?_ | refine bl_alloc ?_ _ | refine bl_then ?_ (by assumption) | refine Below.setCell ?_ (by first | omega | (simp; done) | (simp; omega)) _ | refine bl_store ?_ ?_ _ _))) (fail)
  go_wp2_with fail
  generalize hW : (((w.alloc _).alloc _).drew : World) = W
  have hB0 : Below w.heap.size w W := by subst hW; (repeat (first | exact Below.refl _ _ | assumption | refine Below.drew ?_ | refine bl_alloc ?_ _ | refine bl_then ?_ (by assumption) | refine Below.setCell ?_ (by first | omega | (simp; done) | (simp; omega)) _ | refine bl_store ?_ ?_ _ _))
  have hS0 : StackAt W (w.heap.size + 1) w.heap.size (.slice none 0 0) [] := by
    subst hW
    refine ⟨?_, World.ownsRow_nil _ _ _ _⟩
    have := heap_alloc_new (w.alloc (.cells #[.int .i64 (X 0), .int .i64 (Y 0)] 111)) (.cells #[.slice none 0 0] 167)
    simpa [World.drew] using this
  have hR0 : Row w.heap.size W (.slice (some ⟨w.heap.size, 0, none⟩) 1 1) (ptsOf X Y [0]) := by
    subst hW
    have := World.ownsRow_lit (base := w.heap.size) (e := 111) (size := 2) w #[.int .i64 (X 0), .int .i64 (Y 0)] 1 (Nat.le_refl _) (by decide) rfl
    exact World.ownsRow.drew (World.ownsRow.alloc this _)
  clear hW
  refine (push_any (w.heap.size + 1) w.heap.size M _ [] W hS0 (by simp) hB0.size).mono ?_
  rintro e w1 ⟨⟨u, rfl⟩, ⟨v1, hS1⟩, hK1⟩
  have hR1 := Row.kept2 hS0 hR0 hK1
  have hB1 : Below w.heap.size w w1 := hB0.trans (hK1.below (by omega) (fun g hg => by cases hg) hB0.size)
  have HS1 : Hid (StackAt w1 (w.heap.size + 1) w.heap.size v1 [M]) := hS1
  have HR1 : Hid (Row w.heap.size w1 (.slice (some ⟨w.heap.size, 0, none⟩) 1 1) (ptsOf X Y [0])) := hR1
  have HB1 : Hid (Below w.heap.size w w1) := hB1
  clear hB0 hS0 hR0 hS1 hK1 hR1 hB1 c0 c1
  go_wp2_with fail
  go_step3
  go_wp2_with fail
  go_loopg [5, 6] n (fun g s5 s6 wx => ∃ (f : Nat) (st S0 R : List Nat) (vS : Value), n ≤ f + g ∧ s5 = .int .i64 (f : Int) ∧ StackAt wx (w.heap.size + 1) w.heap.size vS st.reverse ∧ Row w.heap.size wx s6 (ptsOf X Y (S0 ++ [f])) ∧ Rise f st n ∧ Rest X Y r f st R ∧ S0 ++ R = L ++ [M] ∧ Below w.heap.size w wx)
  case atStart =>
    have hm := HM.out
    exact ⟨0, [M], [], L ++ [M], v1, by omega, rfl, HS1.out, HR1.out, ⟨by omega, by show M < n; omega⟩, .seg 0 M [] L [M] HL.out (.done M), rfl, HB1.out⟩
  case round =>
    obtain ⟨f, st, S0, R, vS, hg, rfl, hS, hR, hRi, hRe, hLR, hB⟩ := hrel
    have hfn := hRi.lt
    cases gk with
    | zero => omega
    | succ g =>
      have Hg : Hid (n ≤ f + (g + 1)) := hg
      have HS : Hid (StackAt wr (w.heap.size + 1) w.heap.size vS st.reverse) := hS
      have HR : Hid (Row w.heap.size wr u6 (ptsOf X Y (S0 ++ [f]))) := hR
      have HRi : Hid (Rise f st n) := hRi
      have HRe : Hid (Rest X Y r f st R) := hRe
      have HLR : Hid (S0 ++ R = L ++ [M]) := hLR
      have HB : Hid (Below w.heap.size w wr) := hB
      clear hg hS hR hRi hRe hLR hB
      go_wp2_with fail
      obtain ⟨wo, hwo⟩ : ∃ wo : World, wo = wr := ⟨_, rfl⟩
      subst hwo
      go_loopg [5] n (fun g2 s5 wy => ∃ (st : List Nat) (R : List Nat) (vS : Value), s5 = .int .i64 (f : Int) ∧ (∀ t s, st = t :: s → t ≤ f + g2) ∧ StackAt wy (w.heap.size + 1) w.heap.size vS st.reverse ∧ Row w.heap.size wy u6 (ptsOf X Y (S0 ++ [f])) ∧ Rise f st n ∧ Rest X Y r f st R ∧ S0 ++ R = L ++ [M] ∧ Below w.heap.size w wy)
      case atStart =>
        refine ⟨st, R, vS, rfl, fun t s e => ?_, HS.out, HR.out, HRi.out, HRe.out, HLR.out, HB.out⟩
        have := HRi.out
        rw [e] at this
        have := Rise.lt _ _ _ this.2
        omega
      case round =>
        clear HS HR HRi HRe HLR HB
        clear R vS st
        obtain ⟨st, R, vS, rfl, hg2, hS, hR, hRi, hRe, hLR, hB⟩ := hrel
        have HR : Hid (Row w.heap.size wr u6 (ptsOf X Y (S0 ++ [f]))) := hR
        have HB : Hid (Below w.heap.size w wr) := hB
        have HLR : Hid (S0 ++ R = L ++ [M]) := hLR
        clear hR hB hLR
        cases st with
        | nil =>
          have hRf : R = [f] := by cases hRe; rfl
          have hT := top_none _ _ _ wr hS
          have HT := (show Hid _ from hT)
          have HE : Hid (S0 ++ [f] = L ++ [M]) := by show _ = _; rw [← hRf]; exact HLR.out
          clear hT hS hRe hRi hg2
          go_wp2_with fail
          refine Calls.mono HT.out ?_
          rintro e w2 ⟨rfl, hb2⟩
          have HR2 : Hid (Row w.heap.size w2 u6 (ptsOf X Y (S0 ++ [f]))) := HR.out.below hb2
          have HB2 : Hid (Below w.heap.size w w2) := bl_then HB.out hb2
          clear hb2
          go_wp2_with fail
          rw [Exit.noGoto_ret]
          go_ret
          exact ⟨_, rfl, by rw [← HE.out]; exact HR2.out, HB2.out⟩
        | cons t st =>
          cases gk with
          | zero =>
            have h1 := hg2 t st rfl
            have h2 := hRi.1
            omega
          | succ g2 =>
            have htg := hg2 t st rfl
            have hft := hRi.1
            have htn := Rise.lt _ _ _ hRi.2
            have hlen := Rise.len _ _ _ hRi
            simp only [List.reverse_cons, List.length_cons] at hS hlen
            have hT := top_some _ _ t vS st.reverse wr hS (by simp; omega)
            have HT := (show Hid _ from hT)
            have HS : Hid (StackAt wr (w.heap.size + 1) w.heap.size vS (st.reverse ++ [t])) := hS
            have HRi : Hid (Rise f (t :: st) n) := hRi
            have HRe : Hid (Rest X Y r f (t :: st) R) := hRe
            have Htg : Hid (t ≤ f + (g2 + 1)) := htg
            have hl2 : w.heap.size + 1 < wr.heap.size := hS.lt
            clear hT hS hRe hRi hg2 htg
            go_wp2_with fail
            refine Calls.mono HT.out ?_
            rintro e w2 ⟨rfl, hb2⟩
            have HR2 : Hid (Row w.heap.size w2 u6 (ptsOf X Y (S0 ++ [f]))) := HR.out.below hb2
            have HB2 : Hid (Below w.heap.size w w2) := bl_then HB.out hb2
            have HS2 : Hid (StackAt w2 (w.heap.size + 1) w.heap.size vS (st.reverse ++ [t])) := HS.out.below hb2
            clear hb2 HR HB HS HT
            have hft' : (f : Int) ≤ (t : Int) + 1 := by omega
            have htc : (t : Int) + 1 ≤ (cap : Int) := by omega
            have hf0 : (0 : Int) ≤ (f : Int) := by omega
            go_wp2_with fail
            have hPs : PtsAt w2 b (f * 2) (t + 1 - f) (fun i => X (f + i)) (fun i => Y (f + i)) := fun i hi => by
              obtain ⟨e1, e2⟩ := (HP.out.below HB2.out hbl) (f + i) (by omega)
              have e : 0 + (f + i) * 2 = f * 2 + i * 2 := by omega
              rw [e] at e1 e2
              exact ⟨e1, e2⟩
            refine (farthestIn_any b (f * 2) (t + 1 - f) (cap - f) (fun i => X (f + i)) (fun i => Y (f + i)) w2 hPs (Nat.lt_of_lt_of_le hbl HB2.out.size) (by omega) (by omega) (fun i hi => HOK.out (f + i) (by omega))).mono ?_
            rintro e w3 ⟨p, rfl, hF, hb3⟩
            have hFar : Far X Y f t f (t + 1) (f + p) := by
              refine Far.shift X Y (by omega) ?_
              have e1 : t + 1 - f - 1 = t - f := by omega
              have e2 : t + 1 - f = t - f + 1 := by omega
              rw [e1, e2] at hF
              exact hF
            obtain ⟨m, hm⟩ : ∃ m, m = f + p := ⟨_, rfl⟩
            rw [← hm] at hFar
            have hmi : (f : Int) + (p : Int) = (m : Int) := by omega
            have hmt : m < t + 1 := hFar.hi
            have hmf : f ≤ m := hFar.lo
            have HFar : Hid (Far X Y f t f (t + 1) m) := hFar
            have HR3 : Hid (Row w.heap.size w3 u6 (ptsOf X Y (S0 ++ [f]))) := HR2.out.below hb3
            have HB3 : Hid (Below w.heap.size w w3) := bl_then HB2.out hb3
            have HS3 : Hid (StackAt w3 (w.heap.size + 1) w.heap.size vS (st.reverse ++ [t])) := HS2.out.below hb3
            clear hPs hF hFar hb3 HR2 HB2 HS2 hm hft' htc
            have cm : ∀ i, i < n → ∀ W', Below w3.heap.size w3 W' → W'.cell? ⟨b, i * 2, none⟩ = some (.int .i64 (X i)) ∧ W'.cell? ⟨b, i * 2 + 1, none⟩ = some (.int .i64 (Y i)) := fun i hi W' h => by
              have := (HP.out.below (bl_then HB3.out h) hbl) i hi
              simpa using this
            have cm0 : ∀ W', Below w3.heap.size w3 W' → W'.cell? ⟨b, m * 2, none⟩ = some (.int .i64 (X m)) := fun W' h => (cm m (by omega) W' h).1
            have cm1 : ∀ W', Below w3.heap.size w3 W' → W'.cell? ⟨b, m * 2 + 1, none⟩ = some (.int .i64 (Y m)) := fun W' h => (cm m (by omega) W' h).2
            have cf0 : ∀ W', Below w3.heap.size w3 W' → W'.cell? ⟨b, f * 2, none⟩ = some (.int .i64 (X f)) := fun W' h => (cm f (by omega) W' h).1
            have cf1 : ∀ W', Below w3.heap.size w3 W' → W'.cell? ⟨b, f * 2 + 1, none⟩ = some (.int .i64 (Y f)) := fun W' h => (cm f (by omega) W' h).2
            have ct0 : ∀ W', Below w3.heap.size w3 W' → W'.cell? ⟨b, t * 2, none⟩ = some (.int .i64 (X t)) := fun W' h => (cm t (by omega) W' h).1
            have ct1 : ∀ W', Below w3.heap.size w3 W' → W'.cell? ⟨b, t * 2 + 1, none⟩ = some (.int .i64 (Y t)) := fun W' h => (cm t (by omega) W' h).2
            have hr3 : Below w3.heap.size w3 w3 := Below.refl _ _
            have bm0 : (0 : Int) ≤ (m : Int) := by omega
            have bm1 : (m : Int) < (n : Int) := by omega
            have bf1 : (f : Int) < (n : Int) := by omega
            have bt0 : (0 : Int) ≤ (t : Int) := by omega
            have bt1 : (t : Int) < (n : Int) := by omega
            have hnear : isNearB (X m) (Y m) (X f) (Y f) (X t) (Y t) r = !farB X Y r f t := by
              rw [← near_far X Y HFar.out]
              have o1 := HOK.out m (by omega)
              have o2 := HOK.out f (by omega)
              have o3 := HOK.out t (by omega)
              simp [isNearB, nearI, o1, o2, o3, inB, hr0, hr1]
            have HN : Hid (∀ W', Calls Tryz.prog 131 #[.agg #[.int .i64 (X m), .int .i64 (Y m)], .agg #[.int .i64 (X f), .int .i64 (Y f)], .agg #[.int .i64 (X t), .int .i64 (Y t)], .int .i64 r] W' fun e w' => e = .returned (.bool (!farB X Y r f t)) ∧ Below W'.heap.size W' w') := fun W' => by
              rw [← hnear]
              exact impl_IsNear_any _ _ _ _ _ _ _ _
            clear cm hnear
            go_wp2_with fail
            go_cut [46] (fun q wc => q = .bool (!farB X Y r f t) ∧ Below w3.heap.size w3 wc)
            case first =>
              go_region_held3 (fun W' => Below w3.heap.size w3 W') ((repeat (first | exact Below.refl _ _ | assumption | refine Below.drew ?_ | refine bl_alloc ?_ _ | refine bl_then ?_ (by assumption) | refine Below.setCell ?_ (by first | omega | (simp; done) | (simp; omega)) _ | refine bl_store ?_ ?_ _ _)))
                (first | (go_at_call 131; refine (HN.out _).mono ?_; rintro e w' ⟨rfl, hb⟩))
              go_wp2_with fail
              go_meet
              case rel => exact ⟨rfl, by assumption⟩
            case rest =>
              obtain ⟨rfl, hbc⟩ := hcut
              have HR4 : Hid (Row w.heap.size wc u6 (ptsOf X Y (S0 ++ [f]))) := HR3.out.below hbc
              have HB4 : Hid (Below w.heap.size w wc) := bl_then HB3.out hbc
              have HS4 : Hid (StackAt wc (w.heap.size + 1) w.heap.size vS (st.reverse ++ [t])) := HS3.out.below hbc
              have d0 := ct0 _ hbc
              have d1 := ct1 _ hbc
              clear cm0 cm1 cf0 cf1 ct0 ct1 hr3 HR3 HB3 HS3 hbc HN
              cases hfar : farB X Y r f t
              · obtain ⟨R', hRe', hR'⟩ : ∃ R', Rest X Y r t st R' ∧ R = [f] ++ R' := by
                  cases HRe.out with
                  | seg _ _ _ l R' hT hRe' =>
                    cases hT with
                    | near _ _ _ => exact ⟨R', hRe', rfl⟩
                    | split _ _ m' l1 l2 h1 _ _ _ => rw [hfar] at h1; cases h1
                have HRe' : Hid (Rest X Y r t st R') := hRe'
                have HLR' : Hid ((S0 ++ [f]) ++ R' = L ++ [M]) := by show _ = _; rw [List.append_assoc, ← hR']; exact HLR.out
                have hl100 : st.reverse.length ≤ 100 := by simp; omega
                clear hRe' hR' hfar
                go_wp2_with fail
                refine (drop_any _ _ t vS st.reverse wc HS4.out hl100).mono ?_
                rintro e w5 ⟨⟨u', rfl⟩, ⟨v5, hS5⟩, hK5⟩
                have hR5 := Row.kept2 HS4.out HR4.out hK5
                have hB5 : Below w.heap.size w w5 := HB4.out.trans (hK5.below (by omega) (fun g hg => (HS4.out.row.lt g hg).1) HB4.out.size)
                have hc5 := (HP.out.below hB5 hbl) t (by omega)
                simp only [Nat.zero_add] at hc5
                obtain ⟨e0, e1⟩ := hc5
                have HS5 : Hid (StackAt w5 (w.heap.size + 1) w.heap.size v5 st.reverse) := hS5
                have HR5 : Hid (Row w.heap.size w5 u6 (ptsOf X Y (S0 ++ [f]))) := hR5
                have HB5 : Hid (Below w.heap.size w w5) := hB5
                have hs5 : w.heap.size ≤ w5.heap.size := hB5.size
                have hlS : (S0 ++ [f]).length ≤ n + 1 := by
                  have h1 := congrArg List.length HLR'.out
                  have h2 := (HL.out.len X Y (by have := HM.out; omega)).1
                  have := HM.out
                  simp at h1 ⊢
                  omega
                have hlP : (ptsOf X Y (S0 ++ [f])).length ≤ n + 1 := by rw [ptsOf, List.length_map]; exact hlS
                clear hS5 hK5 hR5 hB5 d0 d1 HS4 HR4 HB4 hlS hl100
                go_wp2_with (first
                  | (at_builtin; go_must (refine wpList_append_own _ rfl _ _ 34 rfl w.heap.size 111 i0 (.agg #[.int .i64 0, .int .i64 0]) 2 16 Tryz.underlying34 hi hz0 hz1 hz2 rfl (by decide) _ (ptsOf X Y (S0 ++ [f])).length (cellsL (ptsOf X Y (S0 ++ [f]))) rfl (World.ownsRow.alloc HR5.out _) ⟨w5.heap.size, 0, none⟩ 1 1 [.int .i64 (X t), .int .i64 (Y t)] rfl rfl ?c1 ?c2 ?c3 ?c4 ?c5 ?_)))
                case c1 =>
                  intro q u hq
                  match q, hq with
                  | 0, hq => simp at hq; subst hq; simp [Addr.add, go_sem]
                  | 1, hq => simp at hq; subst hq; simp [Addr.add, go_sem]
                  | q + 2, hq => simp at hq
                case c2 => first | (intro u hu; simp at hu; rcases hu with rfl | rfl <;> rfl) | exact ⟨rfl, rfl⟩
                case c3 => unfold maxLen; omega
                case c4 => omega
                case c5 => first | omega | (simp; omega)
                intro v' w6 hown' hgrow hnil
                clear hnil
                have hBa : Below w5.heap.size w5 (w5.alloc (.cells #[.int .i64 (X t), .int .i64 (Y t)] 111)) := (Below.refl _ _).alloc (Nat.le_refl _) _
                have hBg : Below w.heap.size (w5.alloc (.cells #[.int .i64 (X t), .int .i64 (Y t)] 111)) w6 := (Below.refl _ _).grown hgrow (by simp; omega) (fun k hk => (HR5.out.lt k hk).1)
                have HB6 : Hid (Below w.heap.size w w6) := (bl_then HB5.out hBa).trans hBg
                have HS6 : Hid (StackAt w6 (w.heap.size + 1) w.heap.size v5 st.reverse) := (HS5.out.below hBa).grown (HR5.out.below hBa) hgrow
                have HR6 : Hid (Row w.heap.size w6 v' (ptsOf X Y ((S0 ++ [f]) ++ [t]))) := by
                  show Row _ _ _ _
                  rw [ptsOf_add X Y (S0 ++ [f]) t]
                  show World.ownsRow _ _ _ _ _ _ _
                  rw [cellsL_add, List.length_append]
                  exact hown'
                clear hown' hgrow hBa hBg
                go_wp2_with fail
                go_roundg g
                case measure => omega
                case rel => exact ⟨t, st, S0 ++ [f], R', v5, by have := Hg.out; omega, rfl, HS6.out, HR6.out, HRi.out.2, HRe'.out, HLR'.out, HB6.out⟩
              · have hmid := far_mid X Y HFar.out hfar
                obtain ⟨l1, l2, R', t1, t2, hRe', hR'⟩ : ∃ l1 l2 R', Thin X Y r f m l1 ∧ Thin X Y r m t l2 ∧ Rest X Y r t st R' ∧ R = (l1 ++ l2) ++ R' := by
                  cases HRe.out with
                  | seg _ _ _ l R' hT hRe' =>
                    cases hT with
                    | near _ _ h0 => rw [hfar] at h0; cases h0
                    | split _ _ m' l1 l2 h1 hm' t1 t2 =>
                      have e := hm'.uniq X Y hmid
                      subst e
                      exact ⟨l1, l2, R', t1, t2, hRe', rfl⟩
                have HRe' : Hid (Rest X Y r f (m :: t :: st) (l1 ++ (l2 ++ R'))) := .seg f m _ _ _ t1 (.seg m t _ _ _ t2 hRe')
                have HLR' : Hid (S0 ++ (l1 ++ (l2 ++ R')) = L ++ [M]) := by show _ = _; rw [← List.append_assoc l1, ← hR']; exact HLR.out
                have b1 := hmid.lo
                have b2 := hmid.hi
                have hl100 : (st.reverse ++ [t]).length ≤ 100 := by simp; omega
                clear hRe' hR' hfar hmid t1 t2
                go_wp2_with fail
                refine (push_any _ _ m vS (st.reverse ++ [t]) wc HS4.out hl100 HB4.out.size).mono ?_
                rintro e w5 ⟨⟨u', rfl⟩, ⟨v5, hS5⟩, hK5⟩
                have hR5 := Row.kept2 HS4.out HR4.out hK5
                have hB5 : Below w.heap.size w w5 := HB4.out.trans (hK5.below (by omega) (fun g hg => (HS4.out.row.lt g hg).1) HB4.out.size)
                have HS5 : Hid (StackAt w5 (w.heap.size + 1) w.heap.size v5 (m :: t :: st).reverse) := by
                  show StackAt _ _ _ _ _
                  simp only [List.reverse_cons]
                  exact hS5
                have HR5 : Hid (Row w.heap.size w5 u6 (ptsOf X Y (S0 ++ [f]))) := hR5
                have HB5 : Hid (Below w.heap.size w w5) := hB5
                clear hS5 hK5 hR5 hB5 d0 d1 HS4 HR4 HB4
                go_wp2_with fail
                go_roundg g2
                case measure => omega
                case rel =>
                  refine ⟨m :: t :: st, l1 ++ (l2 ++ R'), v5, rfl, fun t' s' e => ?_, HS5.out, HR5.out, ⟨by omega, by omega, HRi.out.2⟩, HRe'.out, HLR'.out, HB5.out⟩
                  injection e with e1 e2
                  have := Htg.out
                  omega
end Go.Proofs.YtdohlnnbibnnbaaGreat
