/- The model's sort of features: the same features, sorted. -/
import Derived.Test.YtdohlnnbibnnbaaGreatVPlaceLabels13
import Derived.Deep.CutBlock
import Derived.Deep.DeepCutAuto
namespace Go.Proofs.YtdohlnnbibnnbaaGreat
open Go.RowKit
set_option linter.unusedSimpArgs false
set_option linter.unusedVariables false
set_option maxRecDepth 100000

set_option maxHeartbeats 8000000 in
theorem l2Sort_any (b n cap : Nat) (G : Nat → Feat) (w : World) (hg : FsAt w b 0 n G) (hbl : b < w.heap.size) (hn : n ≤ 12) (hpos : ∀ i, i < n → 0 < (G i).n) (hs : SmallFs n G) :
    Calls Tryz.prog 79 #[.slice (some ⟨b, 0, none⟩) n cap] w fun e w' => ∃ v H, e = .returned v ∧ FRow w.heap.size w' v H (srtF n G) ∧ Copies w.heap.size w' n G H ∧ Below w.heap.size w w' := by
  obtain ⟨i0, hi, hz0, hz1, hz2⟩ := info_parts info_if
  have HG : Hid (FsAt w b 0 n G) := hg
  have HPOS : Hid (∀ i, i < n → 0 < (G i).n) := hpos
  have HS : Hid (SmallFs n G) := hs
  clear hg hpos hs
  go_enter Tryz.func79, Tryz.ntmps79
  go_wp2_with fail
  generalize hW : (w.alloc _ : World) = W
  have HB0 : Hid (Below w.heap.size w W) := by show Below _ _ _; subst hW; (repeat (first | exact Below.refl _ _ | assumption | refine Below.drew ?_ | refine bl_alloc ?_ _ | refine bl_then ?_ (by assumption) | refine Below.setCell ?_ (by first | omega | (simp; done) | (simp; omega)) _ | refine bl_store ?_ ?_ _ _))
  have HO0 : Hid (FRow w.heap.size W (.slice (some ⟨w.heap.size, 0, none⟩) 0 0) G []) := by
    show FRow _ _ _ _ _
    subst hW
    exact World.ownsRow_lit (base := w.heap.size) w #[] 0 (Nat.le_refl _) (Nat.zero_le _) rfl
  clear hW
  go_loopw [3, 4] (fun v i wr => ∃ (k : Nat) (H : Nat → Feat), k ≤ n ∧ i = .int .i64 (k : Int) ∧ (∃ g c, v = .slice (some ⟨g, 0, none⟩) k c) ∧ FRow w.heap.size wr v H (srtF k G) ∧ Copies w.heap.size wr k G H ∧ Below w.heap.size w wr) (fun _ i _ => n - (intOf i).toNat)
  case atStart => exact ⟨0, G, by omega, rfl, ⟨_, _, rfl⟩, HO0.out, ⟨fun i hi => by omega, fun i j hi => by omega⟩, HB0.out⟩
  case round =>
    obtain ⟨k, H, hk, rfl, ⟨g, c, rfl⟩, hO, hC, hB⟩ := hrel
    by_cases hlt : k < n
    · have hblr : b < wr.heap.size := Nat.lt_of_lt_of_le hbl hB.size
      have HGr : Hid (FsAt wr b 0 n G) := HG.out.below hB hbl
      have HO : Hid (FRow w.heap.size wr (.slice (some ⟨g, 0, none⟩) k c) H (srtF k G)) := hO
      have HC : Hid (Copies w.heap.size wr k G H) := hC
      have HB : Hid (Below w.heap.size w wr) := hB
      have HLT : Hid (k < n) := hlt
      have hlen : (srtF k G).length = k := srtK_len _ _ _
      have HAT : Hid (∀ i, i < k → FeatAt wr g (i * 7) (H ((srtF k G).getD i 0)).id (H ((srtF k G).getD i 0)).la (H ((srtF k G).getD i 0)).ki (H ((srtF k G).getD i 0)).wi (.slice (H ((srtF k G).getD i 0)).a (H ((srtF k G).getD i 0)).n (H ((srtF k G).getD i 0)).cap) (H ((srtF k G).getD i 0)).lab (H ((srtF k G).getD i 0)).pr) := by
        show ∀ i, i < k → _
        rcases hO.at with ⟨hv, hl⟩ | ⟨g', c', hv, _, _, _, _, hF⟩
        · cases hv
        · injection hv with e1 e2 e3
          injection e1 with e1
          injection e1 with e1
          subst e1
          intro i hi
          exact hF i (by rw [hlen]; exact hi)
      have hgw : g < wr.heap.size := by
        rcases hO.at with ⟨hv, hl⟩ | ⟨g', c', hv, _, hgl, _⟩
        · cases hv
        · injection hv with e1 e2 e3
          injection e1 with e1
          injection e1 with e1
          omega
      clear hO hC hB
      have hi' : (k : Int) < (n : Int) := by omega
      have hi0 : (0 : Int) ≤ (k : Int) := by omega
      generalize wr = wA at *
      go_upto_block 2 with fail
      go_cut [5] (fun v wc => ∃ t : Nat, t ≤ k ∧ v = .int .i64 (t : Int) ∧ (∀ j, j < t → ltK (fun i => (G i).la) (fun i => (G i).id) ((srtF k G).getD j 0) k = true) ∧ (t = k ∨ ltK (fun i => (G i).la) (fun i => (G i).id) ((srtF k G).getD t 0) k = false) ∧ Below wA.heap.size wA wc)
      case first =>
        go_wp2_with fail
        go_loopw [5] (fun v wr => ∃ t : Nat, t ≤ k ∧ v = .int .i64 (t : Int) ∧ (∀ j, j < t → ltK (fun i => (G i).la) (fun i => (G i).id) ((srtF k G).getD j 0) k = true) ∧ Below wA.heap.size wA wr) (fun v _ => k - (intOf v).toNat)
        case atStart => exact ⟨0, by omega, rfl, fun j hj => by omega, Below.refl _ _⟩
        case round =>
          obtain ⟨t, ht, rfl, hA, hBt⟩ := hrel
          have HA : Hid (∀ j, j < t → ltK (fun i => (G i).la) (fun i => (G i).id) ((srtF k G).getD j 0) k = true) := hA
          have HBt : Hid (Below wA.heap.size wA wr) := hBt
          clear hA
          have hgr : g < wr.heap.size := Nat.lt_of_lt_of_le hgw hBt.size
          by_cases htk : t < k
          · have ht' : (t : Int) < (k : Int) := by omega
            have ht0 : (0 : Int) ≤ (t : Int) := by omega
            have HL : Hid (∀ W', Below wr.heap.size wr W' → Calls Tryz.prog 114 #[.pointer (some ⟨g, t * 7, none⟩), .pointer (some ⟨b, k * 7, none⟩)] W' fun e w' => e = .returned (.bool (ltK (fun i => (G i).la) (fun i => (G i).id) ((srtF k G).getD t 0) k)) ∧ Below W'.heap.size W' w') := fun W' h => by
              have hb' : Below wA.heap.size wA W' := bl_then HBt.out h
              obtain ⟨a0, a1, _⟩ := (HAT.out t htk).below hb' hgw
              obtain ⟨b0, b1, _⟩ := (HGr.out.below hb' hblr k HLT.out).1
              rw [Nat.zero_add] at b0 b1
              obtain ⟨s1, s2, _⟩ := (HC.out.1 _ (srtF_lt k G t htk)).1
              have := l2Ahead_any g (t * 7) b (k * 7) (H ((srtF k G).getD t 0)) (G k) W' a0 a1 b0 b1
              unfold ltF at this
              rw [s1, s2] at this
              exact this
            cases hq : ltK (fun i => (G i).la) (fun i => (G i).id) ((srtF k G).getD t 0) k
            · rw [hq] at HL
              have HQ := (show Hid _ from hq)
              clear hBt hq
              go_wp2_with fail
              go_region_held3 (fun W' => Below wr.heap.size wr W') ((repeat (first | exact Below.refl _ _ | assumption | refine Below.drew ?_ | refine bl_alloc ?_ _ | refine bl_then ?_ (by assumption) | refine Below.setCell ?_ (by first | omega | (simp; done) | (simp; omega)) _ | refine bl_store ?_ ?_ _ _)))
                (first | (go_at_call 114; refine (HL.out _ (by assumption)).mono ?_; rintro e w' ⟨rfl, hb⟩) | fail)
              go_wp2_with fail
              go_meet
              case rel => exact ⟨t, ht, rfl, HA.out, .inr HQ.out, bl_then HBt.out (by assumption)⟩
            · rw [hq] at HL
              have HQ := (show Hid _ from hq)
              clear hBt hq
              go_wp2_with fail
              go_region_held3 (fun W' => Below wr.heap.size wr W') ((repeat (first | exact Below.refl _ _ | assumption | refine Below.drew ?_ | refine bl_alloc ?_ _ | refine bl_then ?_ (by assumption) | refine Below.setCell ?_ (by first | omega | (simp; done) | (simp; omega)) _ | refine bl_store ?_ ?_ _ _)))
                (first | (go_at_call 114; refine (HL.out _ (by assumption)).mono ?_; rintro e w' ⟨rfl, hb⟩) | fail)
              go_wp2_with fail
              go_roundw
              case rel => exact ⟨t + 1, by omega, by go_num, fun j hj => by
                  by_cases e : j = t
                  · rw [e]; exact HQ.out
                  · exact HA.out j (by omega), bl_then HBt.out (by assumption)⟩
              case measure => simp [intOf]; omega
          · have htk' : t = k := by omega
            subst htk'
            have hno : decide ((t : Int) < (t : Int)) = false := by simp
            clear hBt
            go_wp2_with fail
            go_region
            go_wp2_with fail
            go_meet
            case rel => exact ⟨t, ht, rfl, HA.out, .inl rfl, by have HB1 := HBt.out; (repeat (first | exact Below.refl _ _ | assumption | refine Below.drew ?_ | refine bl_alloc ?_ _ | refine bl_then ?_ (by assumption) | refine Below.setCell ?_ (by first | omega | (simp; done) | (simp; omega)) _ | refine bl_store ?_ ?_ _ _))⟩
      case rest =>
        obtain ⟨t, ht, rfl, hA, hE, hBc⟩ := hcut
        have HINS : Hid (srtF (k + 1) G = (srtF k G).take t ++ k :: (srtF k G).drop t) := by
          show srtK _ _ (k + 1) = _
          rw [srtK]
          have hlen' : (srtK (fun i => (G i).la) (fun i => (G i).id) k).length = k := hlen
          exact insK_at _ _ k _ t (by rw [hlen']; exact ht) hA (by rw [hlen']; exact hE)
        have HBc : Hid (Below wA.heap.size wA wc) := hBc
        have HOc : Hid (FRow w.heap.size wc (.slice (some ⟨g, 0, none⟩) k c) H (srtF k G)) := HO.out.below hBc
        have HCc : Hid (Copies w.heap.size wc k G H) := ⟨fun i hi => ⟨(HC.out.1 i hi).1, (HC.out.1 i hi).2.below hBc⟩, HC.out.2⟩
        have hgc : g < wc.heap.size := Nat.lt_of_lt_of_le hgw hBc.size
        have hkc : k ≤ c := by
          rcases HO.out.at with ⟨hv, hl⟩ | ⟨g', c', hv, _, _, hc', _⟩
          · cases hv
          · injection hv with e1 e2 e3
            omega
        have hwc : w.heap.size ≤ wc.heap.size := Nat.le_trans HB.out.size hBc.size
        have hblc : b < wc.heap.size := Nat.lt_of_lt_of_le hbl hwc
        clear hA hE hBc HO HC HAT
        have htc : (t : Int) ≤ (c : Int) := by omega
        have ht0 : (0 : Int) ≤ (t : Int) := by omega
        have htk : (t : Int) ≤ (k : Int) := by omega
        have hlt1 : ((srtF k G).take t).length = t := by rw [List.length_take, hlen]; omega
        go_wp2_with (first
          | (at_builtin; go_must (refine wpList_append_own _ rfl _ _ 24 rfl wc.heap.size 36 i0 (.agg #[.int .i64 0, .int .i64 0, .int .i64 0, .int .i64 0, .slice none 0 0, .string ⟨#[]⟩, .int .i64 0]) 7 80 Tryz.underlying24 hi hz0 hz1 hz2 rfl (by decide) (.slice (some ⟨wc.heap.size, 0, none⟩) 0 0) 0 [] rfl (World.ownsRow_lit (base := wc.heap.size) wc #[] 0 (Nat.le_refl _) (Nat.zero_le _) rfl) ⟨g, 0, none⟩ t c (cellsF H ((srtF k G).take t)) rfl ?c0 ?c1 ?c2 ?c3 ?c4 ?c5 ?_)))
        case c0 => rw [cellsF_len, hlt1]
        case c1 =>
          intro q u hq
          have h1 : (cellsF H (srtF k G))[q]? = some u := by
            have e : srtF k G = (srtF k G).take t ++ (srtF k G).drop t := (List.take_append_drop t _).symm
            rw [e, cellsF_app, List.getElem?_append_left (List.getElem?_eq_some_iff.1 hq).1]
            exact hq
          exact World.ownsRow.cells (HOc.out.below (by (repeat (first | exact Below.refl _ _ | assumption | refine Below.drew ?_ | refine bl_alloc ?_ _ | refine bl_then ?_ (by assumption) | refine Below.setCell ?_ (by first | omega | (simp; done) | (simp; omega)) _ | refine bl_store ?_ ?_ _ _)) : Below wc.heap.size wc (wc.alloc (.cells #[] 36)))) (g := g) rfl q u h1
        case c2 => exact cellsF_cell _ _
        case c3 => unfold maxLen; omega
        case c4 => omega
        case c5 => simp
        intro v6 w3 hown6 hgrow6 hnil6
        have hnn : v6 ≠ .slice none 0 0 := hnil6
        clear hnil6
        obtain ⟨g6, c6, hv6⟩ : ∃ g6 c6, v6 = .slice (some ⟨g6, 0, none⟩) t c6 := by
          obtain ⟨_, h2 | ⟨g', cp, cur, hv, _⟩⟩ := hown6
          · exact absurd h2.1 hnn
          · exact ⟨g', cp, by rw [hv]⟩
        subst hv6
        have hL3 : FRow wc.heap.size w3 (.slice (some ⟨g6, 0, none⟩) t c6) H ((srtF k G).take t) := by
          unfold FRow
          rw [hlt1]
          simpa using hown6
        have hB3 : Below wc.heap.size wc w3 := ((Below.refl _ _).alloc (Nat.le_refl _) _).trans ((Below.refl _ _).grown hgrow6 (by simp) (fun k hk => by simp [Value.ownBlock] at hk; omega))
        have HL3 : Hid (FRow wc.heap.size w3 (.slice (some ⟨g6, 0, none⟩) t c6) H ((srtF k G).take t)) := hL3
        have HB3 : Hid (Below wc.heap.size wc w3) := hB3
        clear hown6 hgrow6 hnn hL3 hB3
        have cc : ∀ W', Below w.heap.size w W' → FeatAt W' b (k * 7) (G k).id (G k).la (G k).ki (G k).wi (.slice (G k).a (G k).n (G k).cap) (G k).lab (G k).pr := fun W' h => by
          have := (HG.out.below h hbl k HLT.out).1
          rw [Nat.zero_add] at this
          exact this
        have q0 : ∀ W', Below w.heap.size w W' → W'.cell? ⟨b, k * 7, none⟩ = some (.int .i64 (G k).id) := fun W' h => (cc W' h).1
        have q1 : ∀ W', Below w.heap.size w W' → W'.cell? ⟨b, k * 7 + 1, none⟩ = some (.int .i64 (G k).la) := fun W' h => (cc W' h).2.1
        have q2 : ∀ W', Below w.heap.size w W' → W'.cell? ⟨b, k * 7 + 2, none⟩ = some (.int .i64 (G k).ki) := fun W' h => (cc W' h).2.2.1
        have q3 : ∀ W', Below w.heap.size w W' → W'.cell? ⟨b, k * 7 + 3, none⟩ = some (.int .i64 (G k).wi) := fun W' h => (cc W' h).2.2.2.1
        have q4 : ∀ W', Below w.heap.size w W' → W'.cell? ⟨b, k * 7 + 4, none⟩ = some (.slice (G k).a (G k).n (G k).cap) := fun W' h => (cc W' h).2.2.2.2.1
        have q5 : ∀ W', Below w.heap.size w W' → W'.cell? ⟨b, k * 7 + 5, none⟩ = some (.string (G k).lab) := fun W' h => (cc W' h).2.2.2.2.2.1
        have q6 : ∀ W', Below w.heap.size w W' → W'.cell? ⟨b, k * 7 + 6, none⟩ = some (.int .i64 (G k).pr) := fun W' h => (cc W' h).2.2.2.2.2.2
        clear cc
        have HBw3 : Hid (Below w.heap.size w w3) := (bl_then HB.out HBc.out).trans (HB3.out.mono hwc)
        obtain ⟨ad, had⟩ : ∃ ad : Addr, ad = if c = t then ⟨g, 0, none⟩ else ⟨g, t * 7, none⟩ := ⟨_, rfl⟩
        have HAD := (show Hid _ from had)
        clear had
        go_wp2_with fail
        refine wp_region_noPanic ?_
        refine wp_region_held_drew (S := fun W' => Below w.heap.size w W') (by kernel_rfl) (HBw3.out.drew) (fun hHeld => ?_)
        refine takeD (i := 0) (d := some 34) (v := ?vt0) rfl rfl (by kernel_rfl) (by kernel_rfl) (by kernel_rfl) (fun _ _ _ h => h) (Or.inl ⟨by rfl, ?hyt0⟩) (by assumption) ?_
        case hyt0 => (intro w hSw; (try dsimp only at hSw); go_simp <;> with_reducible rfl)
        try simp only [Act.put, List.setIfInBounds_toArray, List.set_cons_zero, List.set_cons_succ]
        refine takeD (i := 1) (d := some 35) (v := ?vt1) rfl rfl (by kernel_rfl) (by kernel_rfl) (by kernel_rfl) (fun _ _ _ h => h) (Or.inl ⟨by rfl, ?hyt1⟩) (by assumption) ?_
        case hyt1 => (intro w hSw; (try dsimp only at hSw); go_simp <;> with_reducible rfl)
        try simp only [Act.put, List.setIfInBounds_toArray, List.set_cons_zero, List.set_cons_succ]
        refine takeD (i := 2) (d := some 36) (v := ?vt2) rfl rfl (by kernel_rfl) (by kernel_rfl) (by kernel_rfl) (fun _ _ _ h => h) (Or.inl ⟨by rfl, ?hyt2⟩) (by assumption) ?_
        case hyt2 => (intro w hSw; (try dsimp only at hSw); go_simp <;> with_reducible rfl)
        try simp only [Act.put, List.setIfInBounds_toArray, List.set_cons_zero, List.set_cons_succ]
        refine takeD (i := 3) (d := some 37) (v := ?vt3) rfl rfl (by kernel_rfl) (by kernel_rfl) (by kernel_rfl) (fun _ _ _ h => h) (Or.inl ⟨by rfl, ?hyt3⟩) (by assumption) ?_
        case hyt3 => (intro w hSw; (try dsimp only at hSw); go_simp <;> with_reducible rfl)
        try simp only [Act.put, List.setIfInBounds_toArray, List.set_cons_zero, List.set_cons_succ]
        refine takeD (i := 4) (d := some 38) (v := ?vt4) rfl rfl (by kernel_rfl) (by kernel_rfl) (by kernel_rfl) (fun _ _ _ h => h) (Or.inl ⟨by rfl, ?hyt4⟩) (by assumption) ?_
        case hyt4 => (intro w hSw; (try dsimp only at hSw); go_simp <;> with_reducible rfl)
        try simp only [Act.put, List.setIfInBounds_toArray, List.set_cons_zero, List.set_cons_succ]
        refine takeD (i := 8) (d := some 42) (v := ?vt5) rfl rfl (by kernel_rfl) (by kernel_rfl) (by kernel_rfl) (fun _ _ _ h => h) (Or.inl ⟨by rfl, ?hyt5⟩) (by assumption) ?_
        case hyt5 => (intro w hSw; (try dsimp only at hSw); go_simp <;> with_reducible rfl)
        try simp only [Act.put, List.setIfInBounds_toArray, List.set_cons_zero, List.set_cons_succ]
        refine takeD (i := 9) (d := some 43) (v := ?vt6) rfl rfl (by kernel_rfl) (by kernel_rfl) (by kernel_rfl) (fun _ _ _ h => h) (Or.inl ⟨by rfl, ?hyt6⟩) (by assumption) ?_
        case hyt6 => (intro w hSw; (try dsimp only at hSw); go_simp <;> with_reducible rfl)
        try simp only [Act.put, List.setIfInBounds_toArray, List.set_cons_zero, List.set_cons_succ]
        refine takeD (i := 10) (d := some 44) (v := .slice (some ad) (k - t) (c - t)) rfl rfl (by kernel_rfl) (by kernel_rfl) (by kernel_rfl) (fun _ _ _ h => h) (Or.inl ⟨by rfl, ?hyt7⟩) (by assumption) ?_
        case hyt7 =>
          intro w hSw
          (try dsimp only at hSw)
          go_simp
          rw [HAD.out]
          split <;> rfl
        try simp only [Act.put, List.setIfInBounds_toArray, List.set_cons_zero, List.set_cons_succ]
        refine wpAnyH_ready (rs := [5]) (by kernel_rfl) (by simp) ?_
        refine (AllReadyH.cons rfl (fun K hK => ?_) AllReadyH.nil)
        go_simp
        obtain ⟨b', off', ha', hbl', hpt⟩ := (HG.out k HLT.out).2.resolve_left (by have := HPOS.out k HLT.out; omega)
        obtain ⟨z1, z2⟩ := HS.out.2 k HLT.out
        rw [ha']
        have hbl3 : b' < w3.heap.size := Nat.lt_of_lt_of_le hbl' HBw3.out.size
        refine (l2CopyOne_row _ _ _ _ b' _ _ (G k).X (G k).Y _ _ _ (hpt.below HBw3.out.drew hbl') hbl3 z1).mono ?_
        rintro e w5 ⟨a5, c5, rfl, hR5, hb5⟩
        replace hb5 : Below w3.heap.size w3 w5 := bl_then ((Below.refl _ w3).drew) hb5
        have hB5 : Below w.heap.size w w5 := bl_then HBw3.out hb5
        have HR5 : Hid (Row (w3.heap.size + 1 + 1) w5 (.slice a5 (G k).n c5) (ptsOf (G k).X (G k).Y (List.range (G k).n))) := hR5
        have Hb5 : Hid (Below w3.heap.size w3 w5) := hb5
        have hL5 : FRow wc.heap.size w5 (.slice (some ⟨g6, 0, none⟩) t c6) H ((srtF k G).take t) := HL3.out.below hb5
        clear hR5 hb5
        go_wp2_with fail
        refine hK.out _ _ hB5 (fun hHeld => ?_)
        clear hK K
        try simp only [Act.put, List.setIfInBounds_toArray, List.set_cons_zero, List.set_cons_succ]
        refine wpAnyH_ready (rs := [6]) (by kernel_rfl) (by simp) ?_
        refine (AllReadyH.cons rfl (fun K hK => ?_) AllReadyH.nil)
        go_simp
        generalize hw6 : (World.alloc w5 _ : World) = w6
        have hb6 : Below w5.heap.size w5 w6 := by subst hw6; (repeat (first | exact Below.refl _ _ | assumption | refine Below.drew ?_ | refine bl_alloc ?_ _ | refine bl_then ?_ (by assumption) | refine Below.setCell ?_ (by first | omega | (simp; done) | (simp; omega)) _ | refine bl_store ?_ ?_ _ _))
        have hnew : ∀ q u, (fcell { G k with a := a5, cap := c5 })[q]? = some u → w6.cell? ((⟨w5.heap.size, 0, none⟩ : Addr).add q) = some u := fun q u hq => by
          have hq7 : q < 7 := (List.getElem?_eq_some_iff.1 hq).1
          have hc : q = 0 ∨ q = 1 ∨ q = 2 ∨ q = 3 ∨ q = 4 ∨ q = 5 ∨ q = 6 := by omega
          subst hw6
          rcases hc with rfl | rfl | rfl | rfl | rfl | rfl | rfl <;> (simp [fcell] at hq; subst hq; simp [Addr.add, go_sem])
        have hl6 : w5.heap.size < w6.heap.size := by subst hw6; simp
        clear hw6
        have hB6 : Below w.heap.size w w6 := bl_then hB5 hb6
        refine hK.out _ _ hB6 (fun hHeld => ?_)
        clear hK K
        try simp only [Act.put, List.setIfInBounds_toArray, List.set_cons_zero, List.set_cons_succ]
        refine wpAnyH_ready (rs := [7]) (by kernel_rfl) (by simp) ?_
        refine (AllReadyH.cons rfl (fun K hK => ?_) AllReadyH.nil)
        have hL6 : FRow wc.heap.size w6 (.slice (some ⟨g6, 0, none⟩) t c6) H ((srtF k G).take t) := hL5.below hb6
        have hg6 : wc.heap.size ≤ g6 := by
          rcases hL6.at with ⟨hv, hl⟩ | ⟨g', c', hv, hg', _⟩
          · cases hv
          · injection hv with e1 e2 e3
            injection e1 with e1
            injection e1 with e1
            omega
        have hwc6 : wc.heap.size ≤ w6.heap.size := Nat.le_trans HB3.out.size (Nat.le_trans Hb5.out.size hb6.size)
        refine step_append_own rfl (.tmp 34) (.tmp 40) 24 rfl wc.heap.size 36 i0 (.agg #[.int .i64 0, .int .i64 0, .int .i64 0, .int .i64 0, .slice none 0 0, .string ⟨#[]⟩, .int .i64 0]) 7 80 Tryz.underlying24 hi hz0 hz1 hz2 rfl (by decide) (.slice (some ⟨g6, 0, none⟩) t c6) t (cellsF H ((srtF k G).take t)) rfl (by have h := hL6; unfold FRow at h; rw [hlt1] at h; exact h) ⟨w5.heap.size, 0, none⟩ 1 1 (fcell { G k with a := a5, cap := c5 }) rfl rfl hnew (fcell_one _) (by unfold maxLen; omega) (by omega) hwc6 ?_
        intro v7 w7 hown7 hgrow7 hnil7
        obtain ⟨g7, c7, hv7⟩ : ∃ g7 c7, v7 = .slice (some ⟨g7, 0, none⟩) (t + 1) c7 := by
          obtain ⟨_, h2 | ⟨g', cp, cur, hv, _⟩⟩ := hown7
          · have := hnil7.1 h2.1; simp at this
          · exact ⟨g', cp, hv⟩
        subst hv7
        have hmem : ∀ j, j ∈ srtF k G → j < k := fun j hj => (srtK_mem _ _ k j).1 hj
        have hL7 : FRow wc.heap.size w7 (.slice (some ⟨g7, 0, none⟩) (t + 1) c7) (fun i => if i = k then { G k with a := a5, cap := c5 } else H i) ((srtF k G).take t ++ [k]) := by
          unfold FRow
          have e1 : cellsF (fun i => if i = k then { G k with a := a5, cap := c5 } else H i) ((srtF k G).take t ++ [k]) = cellsF H ((srtF k G).take t) ++ fcell { G k with a := a5, cap := c5 } := by
            rw [cellsF_app, cellsF_one, if_pos rfl, cellsF_congr (H' := H) ((srtF k G).take t) (fun j hj => by rw [if_neg]; have := hmem j (List.mem_of_mem_take hj); omega)]
          rw [e1, List.length_append, hlt1]
          exact hown7
        have hO6 : FRow w.heap.size w6 (.slice (some ⟨g, 0, none⟩) k c) H (srtF k G) := ((HOc.out.below HB3.out).below Hb5.out).below hb6
        have hO7 : FRow w.heap.size w7 (.slice (some ⟨g, 0, none⟩) k c) H (srtF k G) := World.ownsRow.kept hO6 hgrow7 (.inr (by simp [Value.ownBlock]; omega))
        have hB7 : Below w.heap.size w w7 := hB6.grown hgrow7 hB6.size (fun q hq => by simp [Value.ownBlock] at hq; omega)
        have hw7 : wc.heap.size ≤ w7.heap.size := Nat.le_trans hwc6 hgrow7.size
        have Hg7 : Hid (w6.grownBy w7 (Value.slice (some ⟨g6, 0, none⟩) t c6).ownBlock) := hgrow7
        refine hK.out _ _ hB7 (fun hHeld => ?_)
        clear hK K
        try simp only [Act.put, List.setIfInBounds_toArray, List.set_cons_zero, List.set_cons_succ]
        refine wpAnyH_ready (rs := [11]) (by kernel_rfl) (by simp) ?_
        refine (AllReadyH.cons rfl (fun K hK => ?_) AllReadyH.nil)
        have hdl : ((srtF k G).drop t).length = k - t := by rw [List.length_drop, hlen]
        refine step_append_own rfl (.tmp 41) (.tmp 44) 24 rfl wc.heap.size 36 i0 (.agg #[.int .i64 0, .int .i64 0, .int .i64 0, .int .i64 0, .slice none 0 0, .string ⟨#[]⟩, .int .i64 0]) 7 80 Tryz.underlying24 hi hz0 hz1 hz2 rfl (by decide) (.slice (some ⟨g7, 0, none⟩) (t + 1) c7) (t + 1) (cellsF H ((srtF k G).take t) ++ fcell { G k with a := a5, cap := c5 }) rfl hown7 ad (k - t) (c - t) (cellsF H ((srtF k G).drop t)) rfl (by rw [cellsF_len, hdl]) ?hcl (cellsF_cell _ _) (by unfold maxLen; omega) (by omega) hw7 ?_
        case hcl =>
          intro j u hj
          by_cases hct : c = t
          · have : (cellsF H ((srtF k G).drop t)).length = 0 := by rw [cellsF_len, hdl]; omega
            have := (List.getElem?_eq_some_iff.1 hj).1
            omega
          · have h1 : (cellsF H (srtF k G))[t * 7 + j]? = some u := by
              have e : srtF k G = (srtF k G).take t ++ (srtF k G).drop t := (List.take_append_drop t _).symm
              rw [e, cellsF_app, List.getElem?_append_right (by rw [cellsF_len, hlt1]; omega), cellsF_len, hlt1]
              rw [Nat.add_sub_cancel_left]
              exact hj
            have h2 := World.ownsRow.cells hO7 (g := g) rfl (t * 7 + j) u h1
            rw [addK, Nat.zero_add] at h2
            rw [HAD.out, if_neg hct, addK]
            exact h2
        intro v8 w8 hown8 hgrow8 hnil8
        obtain ⟨g8, c8, hv8⟩ : ∃ g8 c8, v8 = .slice (some ⟨g8, 0, none⟩) (k + 1) c8 := by
          obtain ⟨_, h2 | ⟨g', cp, cur, hv, _⟩⟩ := hown8
          · have := hnil8.1 h2.1; simp at this
          · exact ⟨g', cp, by rw [hv]; congr 1; omega⟩
        subst hv8
        have HF8 : Hid (FRow w.heap.size w8 (.slice (some ⟨g8, 0, none⟩) (k + 1) c8) (fun i => if i = k then { G k with a := a5, cap := c5 } else H i) (srtF (k + 1) G)) := by
          show FRow _ _ _ _ _
          unfold FRow
          have hl1 : (srtF (k + 1) G).length = k + 1 := srtK_len _ _ _
          have e1 : cellsF (fun i => if i = k then { G k with a := a5, cap := c5 } else H i) (srtF (k + 1) G) = cellsF H ((srtF k G).take t) ++ fcell { G k with a := a5, cap := c5 } ++ cellsF H ((srtF k G).drop t) := by
            rw [HINS.out, cellsF_app, cellsF_cons, if_pos rfl, cellsF_congr (H' := H) ((srtF k G).take t) (fun j hj => by rw [if_neg]; have := hmem j (List.mem_of_mem_take hj); omega), cellsF_congr (H' := H) ((srtF k G).drop t) (fun j hj => by rw [if_neg]; have := hmem j (List.mem_of_mem_drop hj); omega), List.append_assoc]
          rw [e1, hl1]
          have e2 : t + 1 + (k - t) = k + 1 := by omega
          rw [e2] at hown8
          obtain ⟨y1, y2 | ⟨y3, y4, y5, y6, y7, y8⟩⟩ := hown8
          · exact ⟨y1, .inl y2⟩
          · exact ⟨y1, .inr ⟨y3, y4, y5, y6, by omega, y8⟩⟩
        have hRk : ∀ {u : Value} {l : List (Int × Int)} {B : Nat}, Row B w6 u l → Row B w8 u l := fun h => (h.keptF hL6 Hg7.out).keptF hL7 hgrow8
        have HC8 : Hid (Copies w.heap.size w8 (k + 1) G (fun i => if i = k then { G k with a := a5, cap := c5 } else H i)) := by
          show Copies _ _ _ _ _
          obtain ⟨g1, hg1, hg1', _⟩ := HR5.out.atP (HPOS.out k HLT.out)
          have hs53 := Hb5.out.size
          have hs3 := HBw3.out.size
          refine ⟨fun i hi => ?_, fun i j hi hj e => ?_⟩
          · by_cases e : i = k
            · subst e
              simp only [if_pos]
              exact ⟨⟨rfl, rfl, rfl, rfl, rfl, rfl, rfl, rfl, rfl⟩, (hRk (HR5.out.below hb6)).wideB (by omega)⟩
            · simp only [if_neg e]
              obtain ⟨s1, r1⟩ := HCc.out.1 i (by omega)
              exact ⟨s1, hRk (((r1.below HB3.out).below Hb5.out).below hb6)⟩
          · have old : ∀ i, i < k → (H i).a ≠ a5 := fun i hi e => by
              obtain ⟨s1, r1⟩ := HCc.out.1 i hi
              have hnn : (H i).n = (G i).n := s1.2.2.2.2.1
              rw [hnn] at r1
              obtain ⟨g', hg', _, hgl', _⟩ := r1.atP (HPOS.out i (by have := HLT.out; omega))
              rw [hg', hg1] at e
              injection e with e
              injection e with e
              have := HB3.out.size
              omega
            by_cases ei : i = k <;> by_cases ej : j = k
            · omega
            · simp only [if_pos ei, if_neg ej] at e
              exact absurd e.symm (old j (by omega))
            · simp only [if_neg ei, if_pos ej] at e
              exact absurd e (old i (by omega))
            · simp only [if_neg ei, if_neg ej] at e
              exact HCc.out.2 i j (by omega) (by omega) e
        have hg7 : wc.heap.size ≤ g7 := by
          rcases hL7.at with ⟨hv, hl⟩ | ⟨g', c', hv, hg', _⟩
          · cases hv
          · injection hv with e1 e2 e3
            injection e1 with e1
            injection e1 with e1
            omega
        have hB8 : Below w.heap.size w w8 := hB7.grown hgrow8 hB7.size (fun q hq => by simp [Value.ownBlock] at hq; omega)
        have HB8 : Hid (Below w.heap.size w w8) := hB8
        refine hK.out _ _ hB8 (fun hHeld => ?_)
        clear hK K
        try simp only [Act.put, List.setIfInBounds_toArray, List.set_cons_zero, List.set_cons_succ]
        refine takeD (i := 12) (d := some 3) (v := ?vt12) rfl rfl (by kernel_rfl) (by kernel_rfl) (by kernel_rfl) (fun _ _ _ h => h) (Or.inl ⟨by rfl, ?hyt12⟩) (by assumption) ?_
        case hyt12 => (intro w hSw; (try dsimp only at hSw); go_simp <;> with_reducible rfl)
        try simp only [Act.put, List.setIfInBounds_toArray, List.set_cons_zero, List.set_cons_succ]
        refine wpAnyH_done (by kernel_rfl) ?_ _
        refine NoPanic.normal ?_
        clear hown7 hgrow7 hnil7 hown8 hgrow8 hnil8 hL5 hL6 hL7 hO6 hO7 hB5 hB6 hB7 hB8 hb6 hnew hRk
        go_wp2_with fail
        go_roundw
        case rel => exact ⟨k + 1, _, by have := HLT.out; omega, by go_num, ⟨_, _, rfl⟩, HF8.out, HC8.out, HB8.out⟩
        case measure => have := HLT.out; simp [intOf]; omega
    · go_wp2
      go_ret
      have hkn : k = n := by omega
      subst hkn
      exact ⟨_, H, rfl, hO, hC, hB⟩
end Go.Proofs.YtdohlnnbibnnbaaGreat
