/- Several texts in one. -/
import Derived.Test.YtciidkmonfmipaaGreatVPutTile43
import Derived.Test.YtciidkmonfmipaaGreatVPutTile42

/- PutTile: the model. -/

namespace Go.Proofs.YtciidkmonfmipaaGreat
open Go.RowKit
set_option linter.unusedSimpArgs false
set_option linter.unusedVariables false
set_option maxRecDepth 100000

theorem resPtS {T : Array Value} {Wf : World} {r : Nat} {c s : Int} {v : Value} (hT : T[4]?.getD undef = .pointer (some ⟨r, 0, none⟩)) (h0 : Wf.cell? ⟨r, 0, none⟩ = some (.int .i64 c)) (h1 : Wf.cell? ⟨r, 1, none⟩ = some (.int .i64 s)) (h2 : Wf.cell? ⟨r, 2, none⟩ = some v) :
    (results Tryz.f8 T).run Tryz.prog Wf = .ok (crcV c s v) Wf := by
  simp [results, Tryz.results8, go_sem, hT, h0, h1, h2]
set_option maxHeartbeats 8000000 in
theorem spec_PutTile_any (s : Int) (b n cap : Nat) (A : Nat → Kp) (z x y : Int) (fb fn fc : Nat) (F : Nat → Feat) (k0 : Kp) (w : World) (ha : KoAt w b n A) (hs : SmallKs n A) (hft : FsAt w fb 0 fn F) (hfl : fb < w.heap.size) (hfs : SmallFs fn F) (hk0 : k0.z = z ∧ k0.x = x ∧ k0.y = y ∧ k0.fn = fn ∧ k0.F = F ∧ k0.m = 64 ∧ k0.I = nz (rtL z x y fn F)) :
    Calls Tryz.prog 8 #[caV s (.slice (some ⟨b, 0, none⟩) n cap), .agg #[.int .i64 z, .int .i64 x, .int .i64 y, .slice (some ⟨fb, 0, none⟩) fn fc]] w fun e w' => (puC s n A z x y fn F ≠ 0 → e = .returned (crcV (puC s n A z x y fn F) 0 (.slice none 0 0))) ∧ (puC s n A z x y fn F = 0 → ∃ a c R, e = .returned (crcV 0 s (.slice a (putM n A s z x y) c)) ∧ ∀ V, MidB 0 w.heap.size w' V → KsSm V a (putM n A s z x y) (putK n A s k0) R) ∧ Below w.heap.size w w' := by
  have HA : Hid (KoAt w b n A) := ha
  have HS : Hid (SmallKs n A) := hs
  have HFt : Hid (FsAt w fb 0 fn F ∧ fb < w.heap.size ∧ SmallFs fn F) := ⟨hft, hfl, hfs⟩
  have HKz := (show Hid _ from hk0)
  have HPC : Hid (puC s n A z x y fn F = if cacheC s n A = 0 then rtC z x y fn F else cacheC s n A) := rfl
  obtain ⟨PC, hPC⟩ : ∃ PC, puC s n A z x y fn F = PC := ⟨_, rfl⟩
  rw [hPC] at HPC ⊢
  obtain ⟨PM, hPM⟩ : ∃ PM, putM n A s z x y = PM := ⟨_, rfl⟩
  obtain ⟨PK, hPK⟩ : ∃ PK, putK n A s k0 = PK := ⟨_, rfl⟩
  rw [hPM, hPK]
  have HPM := (show Hid _ from hPM)
  have HPK := (show Hid _ from hPK)
  clear ha hs hft hfl hfs hk0 hPC hPM hPK
  go_enter Tryz.func8, Tryz.ntmps8
  go_wp2_with fail
  generalize hW : (((w.alloc _).alloc _).alloc _ : World) = W
  have HB0 : Hid (Below w.heap.size w W) := by show Below _ _ _; subst hW; (repeat (first | exact Below.refl _ _ | assumption | refine Below.drew ?_ | refine bl_alloc ?_ _ | refine bl_then ?_ (by assumption) | refine Below.setCell ?_ (by first | omega | (simp; done) | (simp; omega)) _ | refine bl_store ?_ ?_ _ _))
  have HC : Hid (CaA W w.heap.size s (.slice (some ⟨b, 0, none⟩) n cap)) := by show CaA _ _ _ _; subst hW; exact ((CaA.new _ _ _ _).below (by (repeat (first | exact Below.refl _ _ | assumption | refine Below.drew ?_ | refine bl_alloc ?_ _ | refine bl_then ?_ (by assumption) | refine Below.setCell ?_ (by first | omega | (simp; done) | (simp; omega)) _ | refine bl_store ?_ ?_ _ _)))).below (by (repeat (first | exact Below.refl _ _ | assumption | refine Below.drew ?_ | refine bl_alloc ?_ _ | refine bl_then ?_ (by assumption) | refine Below.setCell ?_ (by first | omega | (simp; done) | (simp; omega)) _ | refine bl_store ?_ ?_ _ _)))
  have HR : Hid (CtS W (w.heap.size + 1) z x y (.slice (some ⟨fb, 0, none⟩) fn fc)) := by show CtS _ _ _ _ _ _; subst hW; refine ⟨?_, ?_, ?_, ?_⟩ <;> simp [go_sem]
  have HT : Hid (There W (w.heap.size + 2) 3) := by
    show There _ _ _
    subst hW
    have := there3r ((w.alloc (.cells #[.int .i64 s, .slice (some ⟨b, 0, none⟩) n cap] 34)).alloc (.cells #[.int .i64 z, .int .i64 x, .int .i64 y, .slice (some ⟨fb, 0, none⟩) fn fc] 42)) (.int .i64 0) (.int .i64 0) (.slice none 0 0) 36
    simpa using this
  have hsz : w.heap.size + 2 < W.heap.size := by subst hW; simp
  clear hW
  refine (l11Fault_any w.heap.size s b n cap A W HC.out (HA.out.below HB0.out) HS.out).mono ?_
  rintro e w1 ⟨rfl, hb1⟩
  have HB1 : Hid (Below w.heap.size w w1) := bl_then HB0.out hb1
  have HC1 : Hid (CaA w1 w.heap.size s (.slice (some ⟨b, 0, none⟩) n cap)) := HC.out.below hb1
  have HR1 : Hid (CtS w1 (w.heap.size + 1) z x y (.slice (some ⟨fb, 0, none⟩) fn fc)) := HR.out.below hb1
  have HT1 : Hid (There w1 (w.heap.size + 2) 3) := HT.out.below hb1
  have hs1 : W.heap.size ≤ w1.heap.size := hb1.size
  clear hb1 HC HR HT HB0
  by_cases h0 : cacheC s n A = 0
  case neg =>
    have HE : Hid (PC = cacheC s n A) := by show _ = _; rw [HPC.out, if_neg h0]
    have hcb : (cacheC s n A == 0) = false := by simpa using h0
    have HN : Hid (cacheC s n A ≠ 0) := h0
    have hT' := HT1.out
    have t0 := hT'.cell 0 (by omega)
    have t1 := hT'.cell 1 (by omega)
    have t2 := hT'.cell 2 (by omega)
    have f0 := (hT' 0 (by omega)).2
    have f1 := (hT' 1 (by omega)).2
    have f2 := (hT' 2 (by omega)).2
    clear hT' h0 HPC
    generalize cacheC s n A = rc at *
    go_wp2_with fail
    obtain ⟨q0, q1, q2⟩ := set3_atq (a := .int .i64 rc) (b := .int .i64 0) (c := .slice none 0 0) HT1.out
    refine bodyPost_ret (resPtS rfl q0 q1 q2) rfl ⟨fun _ => by rw [HE.out], fun h => absurd (HE.out.symm.trans h) HN.out, ?_⟩
    exact ((HB1.out.setCell (leM _) _).setCell (leM _) _).setCell (leM _) _
  have hall := cacheC_zero h0
  have hn10 : n ≤ 10 := by
    unfold cacheC at h0
    split at h0
    · rename_i hin
      split at h0
      · cases h0
      · simp [inB] at hin
        omega
    · cases h0
  have HTi : Hid (∀ W', Below w1.heap.size w1 W' → Calls Tryz.prog 27 #[.pointer (some ⟨w.heap.size + 1, 0, none⟩)] W' fun e w' => e = .returned (.int .i64 (rtC z x y fn F)) ∧ Below W'.heap.size W' w') := fun W' h => l8Tile_off (w.heap.size + 1) 0 z x y fb fn fc F W' (show TileO W' (w.heap.size + 1) 0 z x y _ from HR1.out.below h) (HFt.out.1.below (bl_then HB1.out h) HFt.out.2.1) (Nat.lt_of_lt_of_le HFt.out.2.1 (bl_then HB1.out h).size) HFt.out.2.2
  have HPu : Hid (rtC z x y fn F = 0 → ∀ W', Below w1.heap.size w1 W' → Calls Tryz.prog 28 #[caV s (.slice (some ⟨b, 0, none⟩) n cap), .agg #[.int .i64 z, .int .i64 x, .int .i64 y, .slice (some ⟨fb, 0, none⟩) fn fc]] W' fun e w' => ∃ a c R, e = .returned (caV s (.slice a PM c)) ∧ (∀ W, GrF W'.heap.size none w' W → KsSm W a PM PK R) ∧ Below W'.heap.size W' w') := fun hrt W' h => by
    have hW := bl_then HB1.out h
    have := l11Put_any s b n cap A z x y fb fn fc F W' (HA.out.below hW) (fun i hi => SrcK_of (HA.out.below hW) HS.out hi (kC_zero (hall i hi)).1) (fun i hi => by rw [kC_m (hall i hi)]; omega) (by omega) (HFt.out.1.below hW HFt.out.2.1) (Nat.lt_of_lt_of_le HFt.out.2.1 hW.size) HFt.out.2.2 hrt k0 HKz.out (lessI n A z x y) (lesJ_at hall) (putO n A s z x y) rfl
    obtain ⟨e1, e2, e3, _⟩ := HKz.out
    have eK : (fun j => if j + putO n A s z x y < (lessI n A z x y).length then A ((lessI n A z x y).getD (j + putO n A s z x y) 0) else k0) = putK n A s k0 := by
      funext j
      unfold putK
      rw [e1, e2, e3]
    have eM : (lessI n A z x y).length + 1 - putO n A s z x y = PM := HPM.out
    rw [eK, eM, HPK.out] at this
    exact this
  have HPC2 : Hid (PC = rtC z x y fn F) := by show _ = _; rw [HPC.out, if_pos h0]
  rw [h0]
  clear h0 hall HPC
  go_wp2_with fail
  refine Calls.mono (HTi.out _ (Below.refl _ _)) ?_
  rintro e w2 ⟨rfl, hb2⟩
  have HB2 : Hid (Below w1.heap.size w1 w2) := hb2
  have HT2 : Hid (There w2 (w.heap.size + 2) 3) := HT1.out.below hb2
  obtain ⟨c0, c1⟩ := HC1.out.below hb2
  obtain ⟨d0, d1, d2, d3⟩ := HR1.out.below hb2
  clear hb2 HTi HT1
  by_cases hrt : rtC z x y fn F = 0
  · have HE : Hid (PC = 0) := HPC2.out.trans hrt
    have HL := (show Hid _ from HPu.out hrt w2 HB2.out)
    rw [hrt]
    clear HPu HPC2 hrt
    go_wp2_with fail
    refine Calls.mono HL.out ?_
    rintro e w3 ⟨a, c, R, rfl, hK, hb3⟩
    have HK : Hid (∀ W, GrF w2.heap.size none w3 W → KsSm W a PM PK R) := hK
    have hs2 : W.heap.size ≤ w2.heap.size := Nat.le_trans hs1 HB2.out.size
    have HB3 : Hid (Below w.heap.size w w3) := bl_then HB1.out (bl_then HB2.out hb3)
    have hT' := HT2.out.below hb3
    have HT3 : Hid (There w3 (w.heap.size + 2) 3) := hT'
    have t0 := hT'.cell 0 (by omega)
    have t1 := hT'.cell 1 (by omega)
    have t2 := hT'.cell 2 (by omega)
    have f0 := (hT' 0 (by omega)).2
    have f1 := (hT' 1 (by omega)).2
    have f2 := (hT' 2 (by omega)).2
    clear hT' hK hb3 HL HT2 c0 c1 d0 d1 d2 d3
    go_wp2_with fail
    obtain ⟨q0, q1, q2⟩ := set3_atq (a := .int .i64 0) (b := .int .i64 s) (c := .slice a PM c) HT3.out
    have hMM : MidB (w.heap.size + 2) (w.heap.size + 2 + 1) w3 (((w3.setCell ⟨w.heap.size + 2, 0, none⟩ (.int .i64 0)).setCell ⟨w.heap.size + 2, 1, none⟩ (.int .i64 s)).setCell ⟨w.heap.size + 2, 2, none⟩ (.slice a PM c)) := (((MidB.refl _ _ _).set (Nat.le_refl _) (Nat.lt_succ_self _) _ _).set (Nat.le_refl _) (Nat.lt_succ_self _) _ _).set (Nat.le_refl _) (Nat.lt_succ_self _) _ _
    refine bodyPost_ret (resPtS rfl q0 q1 q2) rfl ⟨fun h => absurd HE.out h, fun _ => ⟨a, c, R, rfl, fun V hV => HK.out V ⟨hV.os.trans hMM.os, hV.tape.trans hMM.tape, hV.output.trans hMM.output, Nat.le_trans hMM.size hV.size, fun j h1 h2 _ => (hV.block j (Nat.lt_of_lt_of_le h2 hMM.size) (.inr (by omega))).trans (hMM.block j h2 (.inr (by omega)))⟩⟩, ?_⟩
    exact ((HB3.out.setCell (leM _) _).setCell (leM _) _).setCell (leM _) _
  · have hcb : (rtC z x y fn F == 0) = false := by simpa using hrt
    have HN : Hid (rtC z x y fn F ≠ 0) := hrt
    have hT' := HT2.out
    have t0 := hT'.cell 0 (by omega)
    have t1 := hT'.cell 1 (by omega)
    have t2 := hT'.cell 2 (by omega)
    have f0 := (hT' 0 (by omega)).2
    have f1 := (hT' 1 (by omega)).2
    have f2 := (hT' 2 (by omega)).2
    have HB3 : Hid (Below w.heap.size w w2) := bl_then HB1.out HB2.out
    clear hT' HPu hrt c0 c1 d0 d1 d2 d3
    generalize rtC z x y fn F = rc at *
    go_wp2_with fail
    obtain ⟨q0, q1, q2⟩ := set3_atq (a := .int .i64 rc) (b := .int .i64 0) (c := .slice none 0 0) HT2.out
    refine bodyPost_ret (resPtS rfl q0 q1 q2) rfl ⟨fun _ => by rw [HPC2.out], fun h => absurd (HPC2.out.symm.trans h) HN.out, ?_⟩
    exact ((HB3.out.setCell (leM _) _).setCell (leM _) _).setCell (leM _) _
end Go.Proofs.YtciidkmonfmipaaGreat
/- PutTile: the program. -/

namespace Go.Proofs.YtciidkmonfmipaaGreat
open Go.RowKit
set_option linter.unusedSimpArgs false
set_option linter.unusedVariables false
set_option maxRecDepth 100000

theorem resPt {T : Array Value} {Wf : World} {r : Nat} {c s : Int} {v : Value} (hT : T[4]?.getD undef = .pointer (some ⟨r, 0, none⟩)) (h0 : Wf.cell? ⟨r, 0, none⟩ = some (.int .i64 c)) (h1 : Wf.cell? ⟨r, 1, none⟩ = some (.int .i64 s)) (h2 : Wf.cell? ⟨r, 2, none⟩ = some v) :
    (results Tryz.f11 T).run Tryz.prog Wf = .ok (crcV c s v) Wf := by
  simp [results, Tryz.results11, go_sem, hT, h0, h1, h2]
set_option maxHeartbeats 8000000 in
theorem impl_PutTile_any (s : Int) (b n cap : Nat) (A : Nat → Kp) (z x y : Int) (fb fn fc : Nat) (F : Nat → Feat) (w : World) (ha : KoAt w b n A) (hs : SmallKs n A) (hcap : ∀ i, i < n → (A i).fn ≤ (A i).fc) (hnc : n ≤ cap) (hft : FsAt w fb 0 fn F) (hfl : fb < w.heap.size) (hfs : SmallFs fn F) (hfc : fn ≤ fc) :
    Calls Tryz.prog 11 #[caV s (.slice (some ⟨b, 0, none⟩) n cap), .agg #[.int .i64 z, .int .i64 x, .int .i64 y, .slice (some ⟨fb, 0, none⟩) fn fc]] w fun e w' => (puC s n A z x y fn F ≠ 0 → e = .returned (crcV (puC s n A z x y fn F) 0 (.slice none 0 0))) ∧ (puC s n A z x y fn F = 0 → ∃ ia ic a c R, e = .returned (crcV 0 s (.slice a (putM n A s z x y) c)) ∧ CaNew w' w.heap.size a (putM n A s z x y) (putK n A s ⟨z, x, y, some ⟨fb, 0, none⟩, fn, fc, F, ia, 64, ic, nz (rtL z x y fn F)⟩) R) ∧ Below w.heap.size w w' := by
  have HF : Hid (∀ W, Below w.heap.size w W → Calls Tryz.prog 31 #[caV s (.slice (some ⟨b, 0, none⟩) n cap)] W fun e w' => ∃ p, e = .returned (.tuple #[.pointer (some ⟨p, 0, none⟩), .int .i64 (cacheC s n A)]) ∧ Below W.heap.size W w' ∧ (cacheC s n A = 0 → ShK w' W.heap.size p s n A)) := fun W h => shelfOf_any s b n cap A W (ha.below h) hs hcap hnc
  have HRa : Hid (∀ W, Below w.heap.size w W → Calls Tryz.prog 32 #[.agg #[.int .i64 z, .int .i64 x, .int .i64 y, .slice (some ⟨fb, 0, none⟩) fn fc]] W fun e w' => ∃ v, e = .returned (.agg #[.int .i64 (rtC z x y fn F), v]) ∧ OwnN w' W.heap.size v (rtL z x y fn F).length (nz (rtL z x y fn F)) ∧ Below W.heap.size W w') := fun W h => impl_RasterTile_any z x y fb fn fc F W (hft.below h hfl) (Nat.lt_of_lt_of_le hfl h.size) hfs hfc
  have HA : Hid (KoAt w b n A) := ha
  have HS : Hid (SmallKs n A) := hs
  have HFt : Hid (FsAt w fb 0 fn F ∧ fb < w.heap.size ∧ SmallFs fn F) := ⟨hft, hfl, hfs⟩
  have HPC : Hid (puC s n A z x y fn F = if cacheC s n A = 0 then rtC z x y fn F else cacheC s n A) := rfl
  clear ha hs hcap hnc hft hfl hfs hfc
  obtain ⟨PC, hPC⟩ : ∃ PC, puC s n A z x y fn F = PC := ⟨_, rfl⟩
  rw [hPC] at HPC
  rw [hPC]
  clear hPC
  go_enter Tryz.func11, Tryz.ntmps11
  go_wp2_with fail
  generalize hW : (((w.alloc _).alloc _).alloc _ : World) = W
  have HB0 : Hid (Below w.heap.size w W) := by show Below _ _ _; subst hW; (repeat (first | exact Below.refl _ _ | assumption | refine Below.drew ?_ | refine bl_alloc ?_ _ | refine bl_then ?_ (by assumption) | refine Below.setCell ?_ (by first | omega | (simp; done) | (simp; omega)) _ | refine bl_store ?_ ?_ _ _))
  have HR : Hid (CtS W (w.heap.size + 1) z x y (.slice (some ⟨fb, 0, none⟩) fn fc)) := by show CtS _ _ _ _ _ _; subst hW; refine ⟨?_, ?_, ?_, ?_⟩ <;> simp [go_sem]
  have HT : Hid (There W (w.heap.size + 2) 3) := by
    show There _ _ _
    subst hW
    have := there3r ((w.alloc (.cells #[.int .i64 s, .slice (some ⟨b, 0, none⟩) n cap] 34)).alloc (.cells #[.int .i64 z, .int .i64 x, .int .i64 y, .slice (some ⟨fb, 0, none⟩) fn fc] 42)) (.int .i64 0) (.int .i64 0) (.slice none 0 0) 36
    simpa using this
  have hsz : w.heap.size + 2 < W.heap.size := by subst hW; simp
  clear hW
  refine Calls.mono (HF.out W HB0.out) ?_
  rintro e w1 ⟨p, rfl, hb1, hK1⟩
  have HB1 : Hid (Below W.heap.size W w1) := hb1
  have HT1 : Hid (There w1 (w.heap.size + 2) 3) := HT.out.below hb1
  have HR1 : Hid (CtS w1 (w.heap.size + 1) z x y (.slice (some ⟨fb, 0, none⟩) fn fc)) := HR.out.below hb1
  have HK1 : Hid (cacheC s n A = 0 → ShK w1 W.heap.size p s n A) := hK1
  have HBw1 : Hid (Below w.heap.size w w1) := bl_then HB0.out hb1
  clear hb1 hK1 HF HT HR
  by_cases h0 : cacheC s n A = 0
  case neg =>
    have hcb : (cacheC s n A == 0) = false := by simpa using h0
    have HE : Hid (PC = cacheC s n A) := by show _ = _; rw [HPC.out, if_neg h0]
    have HC : Hid (cacheC s n A ≠ 0) := h0
    have hT' := HT1.out
    have t0 := hT'.cell 0 (by omega)
    have t1 := hT'.cell 1 (by omega)
    have t2 := hT'.cell 2 (by omega)
    have f0 := (hT' 0 (by omega)).2
    have f1 := (hT' 1 (by omega)).2
    have f2 := (hT' 2 (by omega)).2
    clear hT' HK1 h0 HPC HRa
    generalize cacheC s n A = rc at *
    go_wp2_with fail
    obtain ⟨q0, q1, q2⟩ := set3_atq (a := .int .i64 rc) (b := .int .i64 0) (c := .slice none 0 0) HT1.out
    refine bodyPost_ret (resPt rfl q0 q1 q2) rfl ⟨fun _ => by rw [HE.out], fun h => absurd (HE.out.symm.trans h) HC.out, ?_⟩
    exact ((HBw1.out.setCell (leM _) _).setCell (leM _) _).setCell (leM _) _
  have hall := cacheC_zero h0
  have hn10 : n ≤ 10 ∧ 0 ≤ s := by
    unfold cacheC at h0
    split at h0
    · rename_i hin
      split at h0
      · cases h0
      · rename_i hsn
        simp [inB] at hin
        omega
    · cases h0
  have HSf : Hid (Shf w1 W.heap.size p s (n : Int) (agL A n)) := (HK1.out h0).shf hall
  have HSr : Hid (∀ i, i < n → SrcK w (A i)) := fun i hi => SrcK_of HA.out HS.out hi (kC_zero (hall i hi)).1
  have HPC2 : Hid (PC = rtC z x y fn F) := by show _ = _; rw [HPC.out, if_pos h0]
  rw [h0]
  obtain ⟨r0, r1, r2, r3⟩ := HR1.out
  clear h0 hall HK1 HPC
  go_wp2_with fail
  refine Calls.mono (HRa.out w1 HBw1.out) ?_
  rintro e w2 ⟨v, rfl, hN2, hb2⟩
  obtain ⟨va, vc, hv, hvc, hvi⟩ := hN2.pts
  subst hv
  have HN2 : Hid (OwnN w2 w1.heap.size (.slice va (rtL z x y fn F).length vc) (rtL z x y fn F).length (nz (rtL z x y fn F))) := hN2
  have HB2 : Hid (Below w1.heap.size w1 w2) := hb2
  have HR2 : Hid (CtS w2 (w.heap.size + 1) z x y (.slice (some ⟨fb, 0, none⟩) fn fc)) := HR1.out.below hb2
  have h1s : W.heap.size ≤ w1.heap.size := HB1.out.size
  have h2s : w1.heap.size ≤ w2.heap.size := hb2.size
  clear hN2 hb2 hvi r0 r1 r2 r3 HRa
  have hrl2 : w.heap.size + 2 < w2.heap.size := by omega
  have HT2 : Hid (There w2 (w.heap.size + 2) 3) := HT1.out.below HB2.out
  have HBw2 : Hid (Below w.heap.size w w2) := bl_then HBw1.out HB2.out
  by_cases hrt : rtC z x y fn F = 0
  case neg =>
    have hcb : (rtC z x y fn F == 0) = false := by simpa using hrt
    have HC : Hid (rtC z x y fn F ≠ 0) := hrt
    have hT' := HT2.out
    have hne : ¬ (w.heap.size + 1 + 1 = w2.heap.size) := by omega
    have t0 := hT'.cell 0 (by omega)
    have t1 := hT'.cell 1 (by omega)
    have t2 := hT'.cell 2 (by omega)
    have f0 := (hT' 0 (by omega)).2
    have f1 := (hT' 1 (by omega)).2
    have f2 := (hT' 2 (by omega)).2
    clear hT' HSf HSr HN2 hrt
    generalize rtC z x y fn F = rc at *
    go_wp2_with fail
    obtain ⟨q0, q1, q2⟩ := set3_atq (a := .int .i64 rc) (b := .int .i64 0) (c := .slice none 0 0) HT2.out
    have hl3 : ∀ (v0 v1 v2 : Value), w.heap.size + 1 + 1 < (((w2.setCell ⟨w.heap.size + 2, 0, none⟩ v0).setCell ⟨w.heap.size + 2, 1, none⟩ v1).setCell ⟨w.heap.size + 2, 2, none⟩ v2).heap.size := fun v0 v1 v2 => by simp; exact hrl2
    refine bodyPost_ret (resPt rfl (by rw [World.cell?_alloc_old _ _ _ (Nat.ne_of_lt (hl3 _ _ _))]; exact q0) (by rw [World.cell?_alloc_old _ _ _ (Nat.ne_of_lt (hl3 _ _ _))]; exact q1) (by rw [World.cell?_alloc_old _ _ _ (Nat.ne_of_lt (hl3 _ _ _))]; exact q2)) rfl ⟨fun _ => by rw [HPC2.out], fun h => absurd (HPC2.out.symm.trans h) HC.out, ?_⟩
    have hb3 : Below w.heap.size w (((w2.setCell ⟨w.heap.size + 2, 0, none⟩ (.int .i64 rc)).setCell ⟨w.heap.size + 2, 1, none⟩ (.int .i64 0)).setCell ⟨w.heap.size + 2, 2, none⟩ (.slice none 0 0)) := ((HBw2.out.setCell (leM _) _).setCell (leM _) _).setCell (leM _) _
    exact hb3.alloc hb3.size _
  have HRB : Hid (I64 z ∧ I64 x ∧ I64 y) := ref_I64 (rtC_zero hrt).1
  have hl64 : (rtL z x y fn F).length = 64 := by unfold rtL; rw [if_pos hrt, rasK_len]
  have HIn : Hid (∃ ib, va = some ⟨ib, 0, none⟩ ∧ w1.heap.size ≤ ib ∧ ib < w2.heap.size ∧ NsAt w2 ib 0 64 (nz (rtL z x y fn F))) := by
    obtain ⟨a', c', hv', _, h | ⟨ib, e, g1, g2, g3, _⟩⟩ := HN2.out
    · omega
    · injection hv' with hv' _ _
      exact ⟨ib, hv'.trans e, g1, g2, by rw [hl64] at g3; exact g3⟩
  have HFe : Hid (fn ≤ 12 ∧ ∀ j, j < fn → 0 < (F j).n) := by
    obtain ⟨_, hf, _⟩ := rtC_zero hrt
    obtain ⟨h12, _, hfc⟩ := featsC_ok hf
    exact ⟨h12, fun j hj => (featC_posM (hfc j hj)).1⟩
  obtain ⟨mb, hBp, hBm, hM1⟩ := HSf.out.m
  have hp1 : p < w1.heap.size := World.block_lt_of_cell? _ _ hM1.1.1
  have hm1 : mb < w1.heap.size := by obtain ⟨D, hD, _⟩ := hM1.2.2; exact hD.lt
  have HM2 : Hid (ShM w2 p s (n : Int) mb (agL A n)) := by
    obtain ⟨m1, m2, D, m3, m4⟩ := hM1
    exact ⟨m1.below HB2.out, m2.below HB2.out, D, ownsMap_below m3 HB2.out, m4⟩
  clear hM1
  have HPC3 : Hid (PC = 0) := HPC2.out.trans hrt
  have hl1 : w.heap.size + 1 < w2.heap.size := by omega
  have k0 : ∀ o, (w2.alloc o).cell? ⟨w.heap.size + 1, 0, none⟩ = some (.int .i64 z) := fun o => by rw [World.cell?_alloc_old _ _ _ (Nat.ne_of_lt hl1)]; exact HR2.out.1
  have k1 : ∀ o, (w2.alloc o).cell? ⟨w.heap.size + 1, 1, none⟩ = some (.int .i64 x) := fun o => by rw [World.cell?_alloc_old _ _ _ (Nat.ne_of_lt hl1)]; exact HR2.out.2.1
  have k2 : ∀ o, (w2.alloc o).cell? ⟨w.heap.size + 1, 2, none⟩ = some (.int .i64 y) := fun o => by rw [World.cell?_alloc_old _ _ _ (Nat.ne_of_lt hl1)]; exact HR2.out.2.2.1
  have k3 : ∀ o, (w2.alloc o).cell? ⟨w.heap.size + 1, 3, none⟩ = some (.slice (some ⟨fb, 0, none⟩) fn fc) := fun o => by rw [World.cell?_alloc_old _ _ _ (Nat.ne_of_lt hl1)]; exact HR2.out.2.2.2
  rw [hrt]
  clear hrt HSf HPC2 HN2 HR1 HR2
  go_wp2_with fail
  generalize hU : (w2.alloc _ : World) = U
  have HBU : Hid (Below w2.heap.size w2 U) := by show Below _ _ _; subst hU; (repeat (first | exact Below.refl _ _ | assumption | refine Below.drew ?_ | refine bl_alloc ?_ _ | refine bl_then ?_ (by assumption) | refine Below.setCell ?_ (by first | omega | (simp; done) | (simp; omega)) _ | refine bl_store ?_ ?_ _ _))
  clear hU k0 k1 k2 k3
  have HMU : Hid (ShM U p s (n : Int) mb (agL A n)) := by
    obtain ⟨m1, m2, D, m3, m4⟩ := HM2.out
    exact ⟨m1.below HBU.out, m2.below HBU.out, D, ownsMap_below m3 HBU.out, m4⟩
  have HPut := (show Hid _ from ShM_put p mb s (n : Int) (agL A n) ⟨z, x, y, some ⟨fb, 0, none⟩, fn, fc, F, va, 64, vc, nz (rtL z x y fn F)⟩ U HMU.out HRB.out (fun b hb => by
    obtain ⟨i, hi, rfl⟩ := agL_mem.1 hb
    show (i : Int) + 1 ≤ (n : Int)
    omega) (by rw [agL_len]; omega) (by omega) (by omega) hn10.2)
  refine Calls.mono HPut.out ?_
  rintro e w3 ⟨rfl, hS3, hb3, hq3⟩
  have hUs := HBU.out.size
  have HB3 : Hid (Below W.heap.size W w3) := (bl_then HB1.out (bl_then HB2.out HBU.out)).trans (hb3 _ hBp hBm)
  have HBw3 : Hid (Below w.heap.size w w3) := HB0.out.trans (HB3.out.mono (by omega))
  have HT3 : Hid (There w3 (w.heap.size + 2) 3) := (HT2.out.below HBU.out).belowK (hb3 _ hBp hBm) hsz
  have hpm : putM n A s z x y ≤ 12 := by have := lessI_len n A z x y; unfold putM; omega
  have hSf3 : Shf w3 W.heap.size p s ((n : Int) + 1) (putL s (agL A n) (agK ⟨z, x, y, some ⟨fb, 0, none⟩, fn, fc, F, va, 64, vc, nz (rtL z x y fn F)⟩ ((n : Int) + 1))) := hS3.f hBp hBm
  have hll := putL_len n A s ⟨z, x, y, some ⟨fb, 0, none⟩, fn, fc, F, va, 64, vc, nz (rtL z x y fn F)⟩ ((n : Int) + 1)
  have hsrc0 : SrcK w3 ⟨z, x, y, some ⟨fb, 0, none⟩, fn, fc, F, va, 64, vc, nz (rtL z x y fn F)⟩ := by
    refine ⟨⟨fb, rfl, HFt.out.1.below HBw3.out HFt.out.2.1, Nat.lt_of_lt_of_le HFt.out.2.1 HBw3.out.size⟩, HFe.out.1, HFe.out.2, ⟨HFt.out.2.2, by show 64 ≤ _; omega⟩, ?_⟩
    obtain ⟨ib, e, g1, g2, g3⟩ := HIn.out
    have hq : w3.heap[ib]? = w2.heap[ib]? := (hq3 ib (by omega) (by omega) (by omega)).trans (HBU.out.block ib g2)
    refine ⟨ib, 0, e, fun i hi => (World.cell?_of_block (w := w2) (a := ⟨ib, 0 + i, none⟩) hq).trans (g3 i hi), ?_⟩
    have := (hb3 0 (Nat.zero_le _) (Nat.zero_le _)).size
    omega
  have HCa := (show Hid _ from shelfCache_any W.heap.size p s ((n : Int) + 1) _ (putK n A s ⟨z, x, y, some ⟨fb, 0, none⟩, fn, fc, F, va, 64, vc, nz (rtL z x y fn F)⟩) w3 hSf3 (by rw [hll]; show putM n A s z x y ≤ 100; omega) (fun i a hi => putL_at n A s _ _ i a hi) (fun i hi => putK_src (fun i hi => (HSr.out i hi).below HBw3.out) hsrc0 i))
  rw [hll] at HCa
  clear hS3 hb3 hq3 hSf3 hsrc0 HPut hll
  go_wp2_with fail
  refine Calls.mono HCa.out ?_
  rintro e w4 ⟨a, c, R, rfl, hN, hb4⟩
  have hT4 := HT3.out.below hb4
  have HT4 : Hid (There w4 (w.heap.size + 2) 3) := hT4
  have t0 := hT4.cell 0 (by omega)
  have t1 := hT4.cell 1 (by omega)
  have t2 := hT4.cell 2 (by omega)
  have f0 := (hT4 0 (by omega)).2
  have f1 := (hT4 1 (by omega)).2
  have f2 := (hT4 2 (by omega)).2
  have HN : Hid (CaNew w4 w3.heap.size a (putM n A s z x y) (putK n A s ⟨z, x, y, some ⟨fb, 0, none⟩, fn, fc, F, va, 64, vc, nz (rtL z x y fn F)⟩) R) := hN
  have HB4 : Hid (Below w.heap.size w w4) := bl_then HBw3.out hb4
  have hs3 := HB3.out.size
  have hs4 := hb4.size
  clear hN hb4 hT4 HCa
  go_wp2_with fail
  obtain ⟨q0, q1, q2⟩ := set3_atq (a := .int .i64 0) (b := .int .i64 s) (c := .slice a (putM n A s z x y) c) HT4.out
  have hMM : MidB (w.heap.size + 2) (w.heap.size + 2 + 1) w4 (((w4.setCell ⟨w.heap.size + 2, 0, none⟩ (.int .i64 0)).setCell ⟨w.heap.size + 2, 1, none⟩ (.int .i64 s)).setCell ⟨w.heap.size + 2, 2, none⟩ (.slice a (putM n A s z x y) c)) := (((MidB.refl _ _ _).set (Nat.le_refl _) (Nat.lt_succ_self _) _ _).set (Nat.le_refl _) (Nat.lt_succ_self _) _ _).set (Nat.le_refl _) (Nat.lt_succ_self _) _ _
  refine bodyPost_ret (resPt rfl q0 q1 q2) rfl ⟨fun h => absurd HPC3.out h, fun _ => ⟨va, vc, a, c, R, rfl, ?_⟩, HB4.out.trans ((hMM.below (by omega)).mono (by omega))⟩
  rcases HN.out with h0 | ⟨g, M, e, hg, c1, c2, c3, c4, c5⟩
  · exact .inl h0
  · refine .inr ⟨g, M, e, by omega, fun j hj => ?_, hMM.there c2 (.inr (by omega)), c3, fun j hj => ⟨(c4 j hj).1, (c4 j hj).2.mid hMM (by have := marks_le c4 j (by omega); omega)⟩, Nat.le_trans c5 hMM.size⟩
    obtain ⟨a0, a1, a2, a3, a4⟩ := c1 j hj
    exact ⟨hMM.cell a0 (.inr (by omega)), hMM.cell a1 (.inr (by omega)), hMM.cell a2 (.inr (by omega)), hMM.cell a3 (.inr (by omega)), hMM.cell a4 (.inr (by omega))⟩
end Go.Proofs.YtciidkmonfmipaaGreat
/- TakeTile: what both sides answer, said over the cache that came in. -/

namespace Go.Proofs.YtciidkmonfmipaaGreat
open Go.RowKit
set_option linter.unusedSimpArgs false
set_option linter.unusedVariables false
set_option maxRecDepth 100000

theorem lessI_get {n : Nat} {K : Nat → Kp} {z x y : Int} {j : Nat} (hj : j < (lessI n K z x y).length) : (lessI n K z x y).getD j 0 < n := by
  rw [List.getD_eq_getElem?_getD, List.getElem?_eq_getElem hj]
  exact lessI_mem (List.getElem_mem hj)
theorem OwnKs.lessI {w : World} {B b n : Nat} {K A : Nat → Kp} (h : OwnKs w B b n K A) (z x y : Int) : Go.Proofs.YtciidkmonfmipaaGreat.lessI n A z x y = Go.Proofs.YtciidkmonfmipaaGreat.lessI n K z x y := by
  unfold Go.Proofs.YtciidkmonfmipaaGreat.lessI
  refine List.filter_congr (fun i hi => ?_)
  obtain ⟨e1, e2, e3⟩ := h.ref (List.mem_range.1 hi)
  unfold isK
  rw [e1, e2, e3]
theorem OwnKs.sameK {w : World} {B b n : Nat} {K A : Nat → Kp} (h : OwnKs w B b n K A) {i : Nat} (hi : i < n) : (A i).z = (K i).z ∧ (A i).x = (K i).x ∧ (A i).y = (K i).y ∧ (A i).fn = (K i).fn ∧ (A i).m = (K i).m ∧ (A i).I = (K i).I ∧ ∀ j, j < (A i).fn → ((A i).F j).same ((K i).F j) := by
  obtain ⟨⟨e1, e2, e3⟩, ⟨fb, _, e4, _, hF⟩, ib, _, e5, _, e6, _⟩ := (h.2.2 i hi).2
  exact ⟨e1, e2, e3, e4, e5, e6, fun j hj => (hF.2.2.2 j (by omega)).1⟩
theorem CaNew.of_same {w : World} {B : Nat} {a : Option Addr} {n : Nat} {K K' R : Nat → Kp} (h : CaNew w B a n K R) (hs : ∀ i, i < n → (K i).z = (K' i).z ∧ (K i).x = (K' i).x ∧ (K i).y = (K' i).y ∧ (K i).fn = (K' i).fn ∧ (K i).m = (K' i).m ∧ (K i).I = (K' i).I ∧ ∀ j, j < (K i).fn → ((K i).F j).same ((K' i).F j)) : CaNew w B a n K' R := by
  refine h.imp id (fun ⟨g, M, e, hB, hA, hT, hg, hM, hMn⟩ => ⟨g, M, e, hB, fun j hj => ?_, hT, hg, fun j hj => ⟨(hM j hj).1, ?_⟩, hMn⟩)
  · have := hA j hj
    rw [if_pos hj] at this ⊢
    exact this
  · obtain ⟨_, ⟨a1, a2, a3⟩, h2, h3, h4, md, h5, h6, ⟨f1, f2, f3⟩, h8⟩ := hM j hj
    obtain ⟨e1, e2, e3, e4, e5, e6, e7⟩ := hs j hj
    refine ⟨⟨a1.trans e1, a2.trans e2, a3.trans e3⟩, h2.trans e4, h3.trans e5, h4.trans e6, md, h5, h6, ⟨by rw [← e4]; exact f1, fun i hi => ⟨Feat.same_trans (f2 i (by omega)).1 (e7 i (by omega)), (f2 i (by omega)).2⟩, by rw [← e4]; exact f3⟩, ?_⟩
    rw [← e5, ← e6]
    exact h8
end Go.Proofs.YtciidkmonfmipaaGreat
