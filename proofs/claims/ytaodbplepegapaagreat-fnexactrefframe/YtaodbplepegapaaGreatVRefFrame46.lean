/- Several texts in one. -/
import Derived.Test.YtaodbplepegapaaGreatVRefFrame45
import Derived.Test.YtaodbplepegapaaGreatVRefFrame39
import Derived.Test.YtaodbplepegapaaGreatVRefFrame18
import Derived.Test.YtaodbplepegapaaGreatVRefFrame1
import Derived.Test.YtaodbplepegapaaGreatRows
import Derived.WalkSpells
import Derived.WalkLawsBesides
import Derived.Outline
import Derived.Laws.IdiomStrings

/- RefFrame: the model and the program. -/

namespace Go.Proofs.YtaodbplepegapaaGreat
open Go.RowKit
set_option linter.unusedSimpArgs false
set_option linter.unusedVariables false
set_option maxRecDepth 100000

/-- The code of RefFrame, and its pixels. -/
noncomputable def rfC (z x y wd ht : Int) (n : Nat) (G : Nat → Feat) : Int := or2 (camC z x y wd ht) (featsC n G)
noncomputable def rfL (z x y wd ht : Int) (n : Nat) (G : Nat → Feat) : List Int := if rfC z x y wd ht n G = 0 then rowsL (paintS G n z) x y wd.toNat ht.toNat else []
theorem cam_nat {z x y wd ht : Int} (h : camB z x y wd ht = true) : ((wd.toNat : Nat) : Int) = wd ∧ ((ht.toNat : Nat) : Int) = ht := by have := camB_in h; omega
set_option maxHeartbeats 8000000 in
theorem spec_RefFrame_any (z x y wd ht : Int) (b n cap : Nat) (G : Nat → Feat) (w : World) (hg : FsAt w b 0 n G) (hbl : b < w.heap.size) (hs : SmallFs n G) :
    Calls Tryz.prog 26 #[.slice (some ⟨b, 0, none⟩) n cap, camV z x y wd ht] w fun e w' => ∃ v, e = .returned (.agg #[.int .i64 (rfC z x y wd ht n G), v]) ∧ OwnN w' w.heap.size v (rfL z x y wd ht n G).length (nz (rfL z x y wd ht n G)) ∧ Below w.heap.size w w' := by
  have HG : Hid (FsAt w b 0 n G) := hg
  have HS : Hid (SmallFs n G) := hs
  have HK : Hid (rfC z x y wd ht n G = or2 (camC z x y wd ht) (featsC n G)) := rfl
  have HKL : Hid (rfC z x y wd ht n G ≠ 0 → rfL z x y wd ht n G = []) := fun h => if_neg h
  clear hg hs
  go_enter Tryz.func26, Tryz.ntmps26
  go_wp2_with fail
  generalize hW : ((w.alloc _).alloc _ : World) = W
  have HB0 : Hid (Below w.heap.size w W) := by show Below _ _ _; subst hW; (repeat (first | exact Below.refl _ _ | assumption | refine Below.drew ?_ | refine bl_alloc ?_ _ | refine bl_then ?_ (by assumption) | refine Below.setCell ?_ (by first | omega | (simp; done) | (simp; omega)) _ | refine bl_store ?_ ?_ _ _))
  have HT : Hid (There W (w.heap.size + 1) 2) := by
    show There _ _ _
    subst hW
    have := there2t (w.alloc (.cells #[.int .i64 z, .int .i64 x, .int .i64 y, .int .i64 wd, .int .i64 ht] 57)) (.int .i64 0) (.slice none 0 0) 39
    simpa using this
  have hlW : w.heap.size + 1 < W.heap.size := by subst hW; simp
  have HC : Hid (CamAt W w.heap.size z x y wd ht) := by
    show CamAt _ _ _ _ _ _ _
    subst hW
    refine ⟨?_, ?_, ?_, ?_, ?_⟩ <;> simp [go_sem]
  clear hW
  refine (l9Fault_any w.heap.size z x y wd ht _ HC.out).mono ?_
  rintro e w1 ⟨rfl, hb1⟩
  have hT1 := HT.out.below hb1
  have HT1 : Hid (There w1 (w.heap.size + 1) 2) := hT1
  have HB1 : Hid (Below w.heap.size w w1) := bl_then HB0.out hb1
  have HC1 : Hid (CamAt w1 w.heap.size z x y wd ht) := HC.out.below hb1 (by omega)
  have hl1 : w.heap.size + 1 < w1.heap.size := Nat.lt_of_lt_of_le hlW hb1.size
  clear hb1
  rcases camC_cases z x y wd ht with ⟨hrc, hrb⟩ | ⟨hrc, hrb⟩
  · rw [hrc]
    rw [hrc, or2, if_pos rfl] at HK
    have HRB : Hid (camB z x y wd ht = true) := hrb
    clear hrc hrb hT1
    go_wp2_with fail
    refine (l2Many_any b n cap G _ (HG.out.below HB1.out hbl) (Nat.lt_of_lt_of_le hbl HB1.out.size) HS.out).mono ?_
    rintro e w2 ⟨rfl, hb2⟩
    have hT2 := HT1.out.below hb2
    have HT2 : Hid (There w2 (w.heap.size + 1) 2) := hT2
    have HB2 : Hid (Below w.heap.size w w2) := bl_then HB1.out hb2
    have HC2 : Hid (CamAt w2 w.heap.size z x y wd ht) := HC1.out.below hb2 (by omega)
    have hs2 : w.heap.size + 1 < w2.heap.size := Nat.lt_of_lt_of_le hl1 hb2.size
    clear hb2
    by_cases hf : featsC n G = 0
    · rw [hf] at HK ⊢
      have HL : Hid (rfL z x y wd ht n G = rowsL (paintS G n z) x y wd.toNat ht.toNat) := if_pos HK.out
      obtain ⟨ew, eh⟩ := cam_nat HRB.out
      have HRA : Hid (Calls Tryz.prog 62 #[.slice (some ⟨b, 0, none⟩) n cap, .pointer (some ⟨w.heap.size, 0, none⟩)] w2 fun e w' => ∃ v, e = .returned v ∧ RowN w2.heap.size w' v (rowsL (paintS G n z) x y wd.toNat ht.toNat) ∧ Below w2.heap.size w2 w') :=
        l9Frame_any w.heap.size z x y wd.toNat ht.toNat b n cap G w2 (by rw [ew, eh]; exact HC2.out) (by rw [ew, eh]; exact HRB.out) (HG.out.below HB2.out hbl) (Nat.lt_of_lt_of_le hbl HB2.out.size) HS.out hf
      clear hf hT2 ew eh
      go_wp2_with fail
      refine Calls.mono HRA.out ?_
      rintro e w9 ⟨v9, rfl, hR9, hb9⟩
      have HR9 : Hid (RowN w2.heap.size w9 v9 (rowsL (paintS G n z) x y wd.toNat ht.toNat)) := hR9
      have hT9 := HT2.out.below hb9
      have HT9 : Hid (There w9 (w.heap.size + 1) 2) := hT9
      have HB9 : Hid (Below w.heap.size w w9) := bl_then HB2.out hb9
      have t0 := hT9.cell 0 (by omega)
      have t1 := hT9.cell 1 (by omega)
      have f0 := (hT9 0 (by omega)).2
      have f1 := (hT9 1 (by omega)).2
      obtain ⟨xa, xn, xc, hxs⟩ : ∃ xa xn xc, v9 = .slice xa xn xc := by
        obtain ⟨a', c', e', _, _⟩ := hR9.own
        exact ⟨_, _, _, e'⟩
      subst hxs
      clear hR9 hb9 hT9
      go_wp2_with fail
      obtain ⟨q0, q1⟩ := set2t (a := .int .i64 0) (b := .slice xa xn xc) HT9.out
      refine bodyPost_ret (v := .agg #[.int .i64 0, .slice xa xn xc]) (by simp [results, Tryz.results26, go_sem, q0, q1]) rfl ⟨_, by rw [HK.out], ?_, ?_⟩
      · rw [HL.out]
        exact (((HR9.out.other hs2).other hs2).wide (by omega)).own
      · exact (HB9.out.setCell (Nat.le_succ _) _).setCell (Nat.le_succ _) _
    · have HL : Hid (rfL z x y wd ht n G = []) := HKL.out (by rw [HK.out]; exact hf)
      have hcb : (featsC n G == 0) = false := by simpa using hf
      obtain ⟨fc, hfc⟩ : ∃ fc, featsC n G = fc := ⟨_, rfl⟩
      rw [hfc] at HK hcb ⊢
      have t0 := hT2.cell 0 (by omega)
      have t1 := hT2.cell 1 (by omega)
      have f0 := (hT2 0 (by omega)).2
      have f1 := (hT2 1 (by omega)).2
      clear hf hfc hT2
      go_wp2_with fail
      obtain ⟨q0, q1⟩ := set2t (a := .int .i64 fc) (b := .slice none 0 0) HT2.out
      refine bodyPost_ret (v := .agg #[.int .i64 fc, .slice none 0 0]) (by simp [results, Tryz.results26, go_sem, q0, q1]) rfl ⟨_, by rw [HK.out], ?_, ?_⟩
      · rw [HL.out]; exact ownN_none _ _
      · exact (HB2.out.setCell (Nat.le_succ _) _).setCell (Nat.le_succ _) _
  · rw [hrc]
    have HQ : Hid (rfC z x y wd ht n G = 3) := by show _ = _; rw [HK.out, hrc]; rfl
    have HL : Hid (rfL z x y wd ht n G = []) := HKL.out (by rw [HQ.out]; omega)
    have t0 := hT1.cell 0 (by omega)
    have t1 := hT1.cell 1 (by omega)
    have f0 := (hT1 0 (by omega)).2
    have f1 := (hT1 1 (by omega)).2
    clear hrc hrb hT1
    go_wp2_with fail
    obtain ⟨q0, q1⟩ := set2t (a := .int .i64 3) (b := .slice none 0 0) HT1.out
    refine bodyPost_ret (v := .agg #[.int .i64 3, .slice none 0 0]) (by simp [results, Tryz.results26, go_sem, q0, q1]) rfl ⟨_, by rw [HQ.out], ?_, ?_⟩
    · rw [HL.out]; exact ownN_none _ _
    · exact (HB1.out.setCell (Nat.le_succ _) _).setCell (Nat.le_succ _) _
theorem enter_rf1 (args : Array Value) (w : World) : (callFunc 65 args).run Tryz.prog w = .ok (.enter 65 args) w := by
  have h1 : (Tryz.f65).name ≠ "runtime.NumGoroutine" := by
    have : ((Tryz.f65).name == "runtime.NumGoroutine") = false := by kernel_rfl
    simpa using this
  have hb : ∃ c, (Tryz.f65).body = some c := ⟨_, rfl⟩
  obtain ⟨c, hb⟩ := hb
  simp [callFunc, Tryz.func65, h1, hb]
set_option maxHeartbeats 4000000 in
theorem refFrame1_any (B2 B3 b n cap : Nat) (z x y : Int) (G : Nat → Feat) (w : World) (h2 : w.cell? ⟨B2, 0, none⟩ = some (.slice (some ⟨b, 0, none⟩) n cap)) (h3 : w.cell? ⟨B3, 0, none⟩ = some (.int .i64 z)) (hg : FsAt w b 0 n G) (hbl : b < w.heap.size) (hs : SmallFs n G) (hcap : n ≤ cap) (hf : featsC n G = 0) (hpx : pixB z x y = true) :
    Calls Tryz.prog 65 #[.int .i64 x, .int .i64 y, .pointer (some ⟨B2, 0, none⟩), .pointer (some ⟨B3, 0, none⟩)] w fun e w' => e = .returned (.int .i64 (paintS G n z x y)) ∧ Below w.heap.size w w' := by
  have HP : Hid (Calls Tryz.prog 10 #[.slice (some ⟨b, 0, none⟩) n cap, .int .i64 z, .int .i64 x, .int .i64 y] w fun e w' => e = .returned (.agg #[.int .i64 0, .int .i64 (paintS G n z x y)]) ∧ Below w.heap.size w w') := impl_PaintedAt_ok z x y b n cap G w hg hbl hs hcap (pixB_zoom hpx) hf hpx
  clear hg hs hf hpx
  generalize paintS G n z x y = pv at *
  have f1 : ∀ w, (Instr.field 25 (.agg #[.int .i64 0, .int .i64 pv]) 1).run Tryz.prog w = .ok (.int .i64 pv) w := fun _ => by kernel_rfl
  go_enter Tryz.func65, Tryz.ntmps65
  go_wp2_with fail
  refine Calls.mono HP.out ?_
  rintro e w1 ⟨rfl, hb1⟩
  go_wp2
  go_ret
  exact ⟨rfl, hb1⟩
set_option maxHeartbeats 8000000 in
theorem impl_RefFrame_any (z x y wd ht : Int) (b n cap : Nat) (G : Nat → Feat) (w : World) (hg : FsAt w b 0 n G) (hbl : b < w.heap.size) (hs : SmallFs n G) (hcap : n ≤ cap) :
    Calls Tryz.prog 28 #[.slice (some ⟨b, 0, none⟩) n cap, camV z x y wd ht] w fun e w' => ∃ v, e = .returned (.agg #[.int .i64 (rfC z x y wd ht n G), v]) ∧ OwnN w' w.heap.size v (rfL z x y wd ht n G).length (nz (rfL z x y wd ht n G)) ∧ Below w.heap.size w w' := by
  have hmf : ∀ (fn : Fn) (first cap : Array Value) (w : World), (Instr.makeFunc fn first cap).run Tryz.prog w = .ok (.func fn first cap) w := fun _ _ _ _ => rfl
  have HG : Hid (FsAt w b 0 n G) := hg
  have HS : Hid (SmallFs n G) := hs
  clear hg hs
  obtain ⟨rc, hrc⟩ : ∃ rc, camC z x y wd ht = rc := ⟨_, rfl⟩
  obtain ⟨fc, hfc⟩ : ∃ fc, featsC n G = fc := ⟨_, rfl⟩
  have HFF : Hid (∀ W', Below w.heap.size w W' → Calls Tryz.prog 46 #[.slice (some ⟨b, 0, none⟩) n cap] W' fun e w' => e = .returned (.int .i64 fc) ∧ Below W'.heap.size W' w') := fun W' hW => hfc ▸ FeaturesFault_any b n cap G W' (HG.out.below hW hbl) (Nat.lt_of_lt_of_le hbl hW.size) HS.out hcap
  have HRF : Hid (∀ W', Calls Tryz.prog 63 #[.agg #[.int .i64 z, .int .i64 x, .int .i64 y, .int .i64 wd, .int .i64 ht]] W' fun e w' => e = .returned (.int .i64 rc) ∧ Below W'.heap.size W' w') := fun W' => hrc ▸ camFault_any z x y wd ht W'
  have HRC : Hid (camC z x y wd ht = rc) := hrc
  have HFC : Hid (featsC n G = fc) := hfc
  have HK : Hid (rfC z x y wd ht n G = or2 rc fc) := by show or2 _ _ = _; rw [hrc, hfc]
  have HKL : Hid (rfC z x y wd ht n G ≠ 0 → rfL z x y wd ht n G = []) := fun h => if_neg h
  clear hrc hfc
  go_enter Tryz.func28, Tryz.ntmps28
  go_wp2_with fail
  generalize hW : (((w.alloc _).alloc _).alloc _ : World) = W
  have HB0 : Hid (Below w.heap.size w W) := by show Below _ _ _; subst hW; (repeat (first | exact Below.refl _ _ | assumption | refine Below.drew ?_ | refine bl_alloc ?_ _ | refine bl_then ?_ (by assumption) | refine Below.setCell ?_ (by first | omega | (simp; done) | (simp; omega)) _ | refine bl_store ?_ ?_ _ _))
  have hszW : W.heap.size = w.heap.size + 3 := by subst hW; simp
  have HT : Hid (There W (w.heap.size + 1 + 1) 2) := by
    show There _ _ _
    subst hW
    have := there2t ((w.alloc (.cells #[.slice (some ⟨b, 0, none⟩) n cap] 27)).alloc (.cells #[.int .i64 z, .int .i64 x, .int .i64 y, .int .i64 wd, .int .i64 ht] 57)) (.int .i64 0) (.slice none 0 0) 39
    simpa using this
  have s0 : ∀ W', Below W.heap.size W W' → W'.cell? ⟨w.heap.size, 0, none⟩ = some (.slice (some ⟨b, 0, none⟩) n cap) := fun W' h => by rw [h.cell (by rw [hszW]; simp <;> omega)]; subst hW; simp [go_sem]
  have c0 : ∀ W', Below W.heap.size W W' → W'.cell? ⟨w.heap.size + 1, 0, none⟩ = some (.int .i64 z) := fun W' h => by rw [h.cell (by rw [hszW]; simp <;> omega)]; subst hW; simp [go_sem]
  have c1 : ∀ W', Below W.heap.size W W' → W'.cell? ⟨w.heap.size + 1, 1, none⟩ = some (.int .i64 x) := fun W' h => by rw [h.cell (by rw [hszW]; simp <;> omega)]; subst hW; simp [go_sem]
  have c2 : ∀ W', Below W.heap.size W W' → W'.cell? ⟨w.heap.size + 1, 2, none⟩ = some (.int .i64 y) := fun W' h => by rw [h.cell (by rw [hszW]; simp <;> omega)]; subst hW; simp [go_sem]
  have c3 : ∀ W', Below W.heap.size W W' → W'.cell? ⟨w.heap.size + 1, 3, none⟩ = some (.int .i64 wd) := fun W' h => by rw [h.cell (by rw [hszW]; simp <;> omega)]; subst hW; simp [go_sem]
  have c4 : ∀ W', Below W.heap.size W W' → W'.cell? ⟨w.heap.size + 1, 4, none⟩ = some (.int .i64 ht) := fun W' h => by rw [h.cell (by rw [hszW]; simp <;> omega)]; subst hW; simp [go_sem]
  clear hW
  have HSZ : Hid (W.heap.size = w.heap.size + 3) := hszW
  clear hszW
  refine wp_region_noPanic ?_
  refine wp_region_held_drew (S := fun W' => Below W.heap.size W W') (by kernel_rfl) (by (repeat (first | exact Below.refl _ _ | assumption | refine Below.drew ?_ | refine bl_alloc ?_ _ | refine bl_then ?_ (by assumption) | refine Below.setCell ?_ (by first | omega | (simp; done) | (simp; omega)) _ | refine bl_store ?_ ?_ _ _))) (fun hHeld => ?_)
  have hX0 : Below W.heap.size W W.drew := hHeld
  refine takeD (i := 0) (d := some 6) (v := ?va0) rfl rfl (by kernel_rfl) (by kernel_rfl) (by kernel_rfl) (fun _ _ _ h => h) (Or.inl ⟨by rfl, ?hya0⟩) hX0 ?_
  case hya0 => (intro w hSw; (try dsimp only at hSw); go_simp <;> with_reducible rfl)
  try simp only [Act.put, List.setIfInBounds_toArray, List.set_cons_zero, List.set_cons_succ]
  refine takeD (i := 2) (d := some 8) (v := ?va2) rfl rfl (by kernel_rfl) (by kernel_rfl) (by kernel_rfl) (fun _ _ _ h => h) (Or.inl ⟨by rfl, ?hya2⟩) hX0 ?_
  case hya2 => (intro w hSw; (try dsimp only at hSw); go_simp <;> with_reducible rfl)
  try simp only [Act.put, List.setIfInBounds_toArray, List.set_cons_zero, List.set_cons_succ]
  refine wpAnyH_ready (rs := [1]) (by kernel_rfl) (by simp) ?_
  refine (AllReadyH.cons rfl (fun K hK => ?_) AllReadyH.nil)
  rw [if_pos (by rfl)]
  go_simp
  refine Calls.mono (HRF.out _) ?_
  rintro e w1 ⟨rfl, hb1⟩
  have hX1 : Below W.heap.size W w1 := bl_then hX0 hb1
  go_wp2_with fail
  refine hK.out _ _ hX1 (fun hHeld => ?_)
  clear hK K hb1
  try simp only [Act.put, List.setIfInBounds_toArray, List.set_cons_zero, List.set_cons_succ]
  refine wpAnyH_ready (rs := [3]) (by kernel_rfl) (by simp) ?_
  refine (AllReadyH.cons rfl (fun K hK => ?_) AllReadyH.nil)
  rw [if_pos (by rfl)]
  go_simp
  refine Calls.mono (HFF.out _ (bl_then HB0.out hX1)) ?_
  rintro e w2 ⟨rfl, hb2⟩
  have hX2 : Below W.heap.size W w2 := bl_then hX1 hb2
  go_wp2_with fail
  refine hK.out _ _ hX2 (fun hHeld => ?_)
  clear hK K hb2
  try simp only [Act.put, List.setIfInBounds_toArray, List.set_cons_zero, List.set_cons_succ]
  refine wpAnyH_ready (rs := [4]) (by kernel_rfl) (by simp) ?_
  refine (AllReadyH.cons rfl (fun K hK => ?_) AllReadyH.nil)
  rw [if_pos (by rfl)]
  go_simp
  generalize hwA : (World.alloc _ _ : World) = wA
  have hbA : Below w2.heap.size w2 wA := by subst hwA; (repeat (first | exact Below.refl _ _ | assumption | refine Below.drew ?_ | refine bl_alloc ?_ _ | refine bl_then ?_ (by assumption) | refine Below.setCell ?_ (by first | omega | (simp; done) | (simp; omega)) _ | refine bl_store ?_ ?_ _ _))
  have g0 : wA.cell? ⟨w2.heap.size, 0, none⟩ = some (.int .i64 rc) := by subst hwA; simp [go_sem]
  have g1 : wA.cell? ⟨w2.heap.size, 1, none⟩ = some (.int .i64 fc) := by subst hwA; simp [go_sem]
  have hXA : Below W.heap.size W wA := bl_then hX2 hbA
  clear hwA hbA
  refine hK.out _ _ hXA (fun hHeld => ?_)
  clear hK K
  try simp only [Act.put, List.setIfInBounds_toArray, List.set_cons_zero, List.set_cons_succ]
  refine wpAnyH_ready (rs := [5]) (by kernel_rfl) (by simp) ?_
  refine (AllReadyH.cons rfl (fun K hK => ?_) AllReadyH.nil)
  rw [if_pos (by rfl)]
  go_simp
  refine (cmpOr2_any _ _ rc fc _ g0 g1).mono ?_
  rintro e w3 ⟨rfl, rfl⟩
  go_wp2_with fail
  refine hK.out _ _ hXA (fun hHeld => ?_)
  clear hK K g0 g1
  try simp only [Act.put, List.setIfInBounds_toArray, List.set_cons_zero, List.set_cons_succ]
  refine takeD (i := 6) (d := some 5) (v := ?vb6) rfl rfl (by kernel_rfl) (by kernel_rfl) (by kernel_rfl) (fun _ _ _ h => h) (Or.inl ⟨by rfl, ?hyb6⟩) hXA ?_
  case hyb6 => (intro w hSw; (try dsimp only at hSw); go_simp <;> with_reducible rfl)
  try simp only [Act.put, List.setIfInBounds_toArray, List.set_cons_zero, List.set_cons_succ]
  refine wpAnyH_done (by kernel_rfl) ?_ _
  refine NoPanic.normal ?_
  have HBA : Hid (Below w.heap.size w w3) := bl_then HB0.out hXA
  have hTA := HT.out.below hXA
  have HTA : Hid (There w3 (w.heap.size + 1 + 1) 2) := hTA
  have hsA : w.heap.size + 1 + 1 < w3.heap.size := by have := HSZ.out; have := hXA.size; omega
  by_cases hor : or2 rc fc = 0
  · obtain ⟨h0, h1⟩ := or2_zero hor
    have HRB : Hid (camB z x y wd ht = true) := by
      show _ = _
      rcases camC_cases z x y wd ht with ⟨_, h⟩ | ⟨h, _⟩
      · exact h
      · rw [HRC.out, h0] at h; omega
    have HF : Hid (featsC n G = 0) := HFC.out.trans h1
    have HQ : Hid (rfC z x y wd ht n G = 0) := HK.out.trans hor
    have HL : Hid (rfL z x y wd ht n G = rowsL (paintS G n z) x y wd.toNat ht.toNat) := if_pos HQ.out
    have HXA : Hid (Below W.heap.size W w3) := hXA
    obtain ⟨ew, eh⟩ := cam_nat HRB.out
    have hin := camB_in HRB.out
    have hpb := pixI_bd (camB_zoom HRB.out)
    have HRS : Hid (Calls Tryz.prog 64 #[.int .i64 x, .int .i64 y, .int .i64 wd, .int .i64 ht, .func (.func 65) #[] #[.pointer (some ⟨w.heap.size, 0, none⟩), .pointer (some ⟨w.heap.size + 1, 0, none⟩)]] w3 fun e w' => ∃ v, e = .returned v ∧ RowN w3.heap.size w' v (rowsL (paintS G n z) x y wd.toNat ht.toNat) ∧ Below w3.heap.size w3 w') := by
      have h := rowByRow_any 65 #[.pointer (some ⟨w.heap.size, 0, none⟩), .pointer (some ⟨w.heap.size + 1, 0, none⟩)] x y wd.toNat ht.toNat (paintS G n z) w3 (by omega) (by omega) (by omega) (by omega) enter_rf1 (fun W' c r hW hc hr => by
        have hWW := bl_then HXA.out hW
        have hWw := bl_then HBA.out hW
        exact refFrame1_any w.heap.size (w.heap.size + 1) b n cap z _ _ G W' (s0 W' hWW) (c0 W' hWW) (HG.out.below hWw hbl) (Nat.lt_of_lt_of_le hbl hWw.size) HS.out hcap HF.out (pix_of_cam (by rw [ew, eh]; exact HRB.out) c r hc hr))
      rw [ew, eh] at h
      exact h
    clear ew eh hin hpb
    have d0 := c0 w3 hXA
    have d1 := c1 w3 hXA
    have d2 := c2 w3 hXA
    have d3 := c3 w3 hXA
    have d4 := c4 w3 hXA
    rw [hor]
    clear hor hTA h0 h1 s0 c0 c1 c2 c3 c4 hX0 hX1 hX2 hXA
    go_wp2_with fail
    refine Calls.mono HRS.out ?_
    rintro e w9 ⟨v9, rfl, hR9, hb9⟩
    have HR9 : Hid (RowN w3.heap.size w9 v9 (rowsL (paintS G n z) x y wd.toNat ht.toNat)) := hR9
    have hT9 := HTA.out.below hb9
    have HT9 : Hid (There w9 (w.heap.size + 1 + 1) 2) := hT9
    have HB9 : Hid (Below w.heap.size w w9) := bl_then HBA.out hb9
    have t0 := hT9.cell 0 (by omega)
    have t1 := hT9.cell 1 (by omega)
    have f0 := (hT9 0 (by omega)).2
    have f1 := (hT9 1 (by omega)).2
    obtain ⟨xa, xn, xc, hxs⟩ : ∃ xa xn xc, v9 = .slice xa xn xc := by
      obtain ⟨a', c', e', _, _⟩ := hR9.own
      exact ⟨_, _, _, e'⟩
    subst hxs
    clear hR9 hb9 hT9
    go_wp2_with fail
    obtain ⟨q0, q1⟩ := set2t (a := .int .i64 0) (b := .slice xa xn xc) HT9.out
    refine bodyPost_ret (v := .agg #[.int .i64 0, .slice xa xn xc]) (by simp [results, Tryz.results28, go_sem, q0, q1]) rfl ⟨_, by rw [HQ.out], ?_, ?_⟩
    · rw [HL.out]
      exact (((HR9.out.other hsA).other hsA).wide (by omega)).own
    · exact Below.setCell (Below.setCell HB9.out (show w.heap.size ≤ w.heap.size + 1 + 1 by omega) _) (show w.heap.size ≤ w.heap.size + 1 + 1 by omega) _
  · have HL : Hid (rfL z x y wd ht n G = []) := HKL.out (by rw [HK.out]; exact hor)
    have hcb : (or2 rc fc == 0) = false := by simpa using hor
    have t0 := hTA.cell 0 (by omega)
    have t1 := hTA.cell 1 (by omega)
    have f0 := (hTA 0 (by omega)).2
    have f1 := (hTA 1 (by omega)).2
    generalize or2 rc fc = oc at *
    clear hor hTA s0 c0 c1 c2 c3 c4
    go_wp2_with fail
    obtain ⟨q0, q1⟩ := set2t (a := .int .i64 oc) (b := .slice none 0 0) HTA.out
    refine bodyPost_ret (v := .agg #[.int .i64 oc, .slice none 0 0]) (by simp [results, Tryz.results28, go_sem, q0, q1]) rfl ⟨_, by rw [HK.out], ?_, ?_⟩
    · rw [HL.out]; exact ownN_none _ _
    · exact Below.setCell (Below.setCell HBA.out (show w.heap.size ≤ w.heap.size + 1 + 1 by omega) _) (show w.heap.size ≤ w.heap.size + 1 + 1 by omega) _
end Go.Proofs.YtaodbplepegapaaGreat
/- The law of PaintedAt returns true at every list of features and all numbers. -/

namespace Go.Proofs.YtaodbplepegapaaGreat
open Go.RowKit
set_option linter.unusedSimpArgs false
set_option linter.unusedVariables false
set_option maxRecDepth 100000

theorem srtF_same {n : Nat} {G F : Nat → Feat} (h : ∀ i, i < n → (G i).same (F i)) : srtF n G = srtF n F := srtK_congr n (fun j hj => ⟨(h j hj).2.1, (h j hj).1⟩)
theorem paintS_same {n : Nat} {G F : Nat → Feat} (h : ∀ i, i < n → (G i).same (F i)) (z x y : Int) : paintS G n z x y = paintS F n z x y := by
  unfold paintS
  rw [srtF_same h]
  refine paintI_congr fun i hi => ?_
  have hs := h _ (srtF_lt n F i hi)
  refine ⟨?_, hs.1⟩
  unfold covL
  rw [simL_same hs, hs.2.2.1, hs.2.2.2.1]
theorem pa_same {z x y : Int} {n : Nat} {G F : Nat → Feat} (h : ∀ i, i < n → (G i).same (F i)) : paC z x y n G = paC z x y n F ∧ paV z x y n G = paV z x y n F := by
  have e1 : paC z x y n G = paC z x y n F := by unfold paC; rw [featsC_same h]
  exact ⟨e1, by unfold paV; rw [e1, paintS_same h]⟩
set_option maxHeartbeats 4000000 in
theorem FnExactPaintedAt_walk (a : Option Addr) (n cap : Nat) (F : Nat → Feat) (z x y : Int) (w : World) (h : IsFs w a n F ∧ CameFs n F) :
    Calls Tryz.prog 3 #[.slice a n cap, .int .i64 z, .int .i64 x, .int .i64 y] w fun e w' => e = .returned (.bool true) ∧ Below w.heap.size w w' := by
  obtain ⟨hf, hc⟩ := h
  have HI : Hid (IsFs w a n F) := hf
  have HC : Hid (CameFs n F) := hc
  clear hf hc
  go_enter Tryz.func3, Tryz.ntmps3
  go_wp2_with fail
  refine (szFeatureS_any a n cap F 1048576 w (by omega) HI.out HC.out).mono ?_
  rintro e w1 ⟨rfl | ⟨m, hm, hS, rfl⟩, hB1⟩
  · go_wp2
    go_ret
    exact ⟨rfl, hB1⟩
  have HS : Hid (SmallFs n F) := hS
  have hall : Hid (∀ i, i < n → (F i).n ≤ 1048576) := fun i hi => (hS.2 i hi).1
  have hn := hS.1
  have hneg : ¬ ((m : Nat) : Int) < 0 := by omega
  clear hS
  obtain ⟨kc, hkc⟩ : ∃ C, C = paC z x y n F := ⟨_, rfl⟩
  obtain ⟨kv, hkv⟩ : ∃ C, C = paV z x y n F := ⟨_, rfl⟩
  have HSP : Hid (∀ b w G B, OwnFs w B b n F G → Calls Tryz.prog 8 #[.slice (some ⟨b, 0, none⟩) n n, .int .i64 z, .int .i64 x, .int .i64 y] w fun e w' => e = .returned (.agg #[.int .i64 kc, .int .i64 kv]) ∧ Below w.heap.size w w') := fun b w G B hO => by
    obtain ⟨e1, e2⟩ := pa_same (z := z) (x := x) (y := y) (fun i hi => (hO.2.2.2 i hi).1)
    rw [hkc, hkv, ← e1, ← e2]
    exact spec_PaintedAt_any z x y b n n G w hO.2.2.1 hO.2.1 (hO.small HS.out)
  have HIM : Hid (∀ b w G B, OwnFs w B b n F G → Calls Tryz.prog 10 #[.slice (some ⟨b, 0, none⟩) n n, .int .i64 z, .int .i64 x, .int .i64 y] w fun e w' => e = .returned (.agg #[.int .i64 kc, .int .i64 kv]) ∧ Below w.heap.size w w') := fun b w G B hO => by
    obtain ⟨e1, e2⟩ := pa_same (z := z) (x := x) (y := y) (fun i hi => (hO.2.2.2 i hi).1)
    rw [hkc, hkv, ← e1, ← e2]
    exact impl_PaintedAt_any z x y b n n G w hO.2.2.1 hO.2.1 (hO.small HS.out) (Nat.le_refl _)
  clear hkc hkv
  go_wp2_with fail
  refine (toFeatureS_any a n cap F _ (HI.out.below hB1) hn hall.out).mono ?_
  rintro e w2 ⟨b2, G2, rfl, hO2, hb2⟩
  have HO2 : Hid (OwnFs w2 w1.heap.size b2 n F G2) := hO2
  have hB2 : Below w.heap.size w w2 := bl_then hB1 hb2
  clear hO2 hb2 hB1
  go_wp2_with fail
  refine (HSP.out b2 _ G2 _ HO2.out).mono ?_
  rintro e w3 ⟨rfl, hb3⟩
  have hB3 : Below w.heap.size w w3 := bl_then hB2 hb3
  clear hb3 hB2 HO2
  go_wp2_with fail
  generalize hV : (w3.alloc _ : World) = V
  have hBV : Below w.heap.size w V := by subst hV; exact bl_alloc hB3 _
  have v0 : ∀ W', Below V.heap.size V W' → W'.cell? ⟨w3.heap.size, 0, none⟩ = some (.int .i64 kc) := fun W' h => by rw [h.cell (by subst hV; simp)]; subst hV; simp [go_sem]
  have v1 : ∀ W', Below V.heap.size V W' → W'.cell? ⟨w3.heap.size, 1, none⟩ = some (.int .i64 kv) := fun W' h => by rw [h.cell (by subst hV; simp)]; subst hV; simp [go_sem]
  have HLV : Hid (w3.heap.size < V.heap.size) := by show _ < _; subst hV; simp
  clear hV hB3
  refine (toFeatureS_any a n cap F _ (HI.out.below hBV) hn hall.out).mono ?_
  rintro e w4 ⟨b4, G4, rfl, hO4, hb4⟩
  have HO4 : Hid (OwnFs w4 V.heap.size b4 n F G4) := hO4
  have HV4 : Hid (Below V.heap.size V w4) := hb4
  clear hO4 hb4
  go_wp2_with fail
  refine (HIM.out b4 _ G4 _ HO4.out).mono ?_
  rintro e w5 ⟨rfl, hb5⟩
  have HO5 : Hid (OwnFs w5 V.heap.size b4 n F G4) := HO4.out.below hb5
  have hV5 : Below V.heap.size V w5 := bl_then HV4.out hb5
  have r0 := v0 w5 hV5
  have r1 := v1 w5 hV5
  have hl5 : w3.heap.size < w5.heap.size := Nat.lt_of_lt_of_le HLV.out hV5.size
  have HV5 : Hid (Below V.heap.size V w5) := hV5
  clear hb5 HO4 hV5 v0 v1
  go_wp2_with fail
  refine (eqIntResult_any kc kv _).mono ?_
  rintro e w6 ⟨rfl, hb6⟩
  have hV6 : Below V.heap.size V w6 := bl_then (bl_alloc HV5.out _) hb6
  have h56 : Below w5.heap.size w5 w6 := bl_then (bl_alloc (Below.refl _ _) _) hb6
  have HO6 : Hid (OwnFs w6 V.heap.size b4 n F G4) := HO5.out.below h56
  have hB6 : Below w.heap.size w w6 := bl_then hBV hV6
  clear hb6 hV6 h56 HO5 r0 r1
  go_wp2_with fail
  refine (toFeatureS_any a n cap F _ (HI.out.below hB6) hn hall.out).mono ?_
  rintro e w7 ⟨b7, G7, rfl, hO7, hb7⟩
  have HO7 : Hid (OwnFs w7 w6.heap.size b7 n F G7) := hO7
  have HO8 : Hid (OwnFs w7 V.heap.size b4 n F G4) := HO6.out.below hb7
  have hB7 : Below w.heap.size w w7 := bl_then hB6 hb7
  clear hO7 hb7 hB6 HO6
  go_wp2_with fail
  refine (eqFeatureS_any b4 b7 n _ _ F G4 G7 _ HO8.out HO7.out HS.out).mono ?_
  rintro e w8 ⟨rfl, hb8⟩
  have HB8 : Hid (Below w.heap.size w w8) := bl_then hB7 hb8
  clear hb8 hB7
  go_wp2
  go_ret
  exact ⟨rfl, HB8.out⟩
end Go.Proofs.YtaodbplepegapaaGreat
/- The text of a mark: the same for the same number. -/

namespace Go.Proofs.YtaodbplepegapaaGreat
open Go.RowKit
set_option linter.unusedSimpArgs false
set_option linter.unusedVariables false
set_option maxRecDepth 100000

def dgB (m : Nat) : UInt8 := UInt8.ofNat (48 + m % 10)
theorem dgB_nat (m : Nat) : (dgB m).toNat = 48 + m % 10 := by
  unfold dgB
  rw [UInt8.toNat_ofNat']
  omega
/-- The digits of k, ahead of s. -/
def mDg (k : Nat) (s : ByteArray) : ByteArray := if h : k = 0 then s else mDg (k / 10) (⟨#[dgB k]⟩ ++ s)
termination_by k
decreasing_by omega
def mTx (k : Nat) : ByteArray := ⟨#[109]⟩ ++ mDg k ⟨#[]⟩
set_option maxHeartbeats 2000000 in
theorem markText_any (k : Nat) (w : World) (h0 : 0 < k) (hk : k ≤ 1152921504606846976) :
    Calls Tryz.prog 60 #[.int .i64 (k : Int)] w fun e w' => e = .returned (.string (mTx k)) ∧ Below w.heap.size w w' := by
  have hneg : ¬ (k : Int) ≤ 0 := by omega
  go_enter Tryz.func60, Tryz.ntmps60
  go_wp2
  go_loopw [0, 3] (fun kk o wr => ∃ (m : Nat) (s : ByteArray) (j : Nat), kk = .int .i64 (m : Int) ∧ o = .string s ∧ m ≤ k ∧ mDg m s = mDg k ⟨#[]⟩ ∧ m < 10 ^ j ∧ s.size + j = 20 ∧ Below w.heap.size w wr) (fun kk _ _ => (intOf kk).toNat)
  case atStart => exact ⟨k, ⟨#[]⟩, 20, rfl, rfl, Nat.le_refl _, rfl, by omega, rfl, Below.refl _ _⟩
  case round =>
    obtain ⟨m, s, j, rfl, rfl, hm, hd, hj, hsj, hB⟩ := hrel
    by_cases hz : 0 < m
    · have hz' : (0 : Int) < (m : Int) := by omega
      have HD : Hid (mDg m s = mDg k ⟨#[]⟩) := hd
      have HJ : Hid (m < 10 ^ j) := hj
      clear hd hj
      have hcv : ∀ W B : World, W = B.alloc (.cells #[.int .u8 (48 + (m : Int) % 10)] 5) → (convert 139 9 (.slice (some ⟨B.heap.size, 0, none⟩) 1 1)).run Tryz.prog W = .ok (.string ⟨#[dgB m]⟩) W := fun W B e => by
        subst e
        have h := run_convert_bytes_back (P := Tryz.prog) (B.alloc (.cells #[.int .u8 (48 + (m : Int) % 10)] 5)) 139 9 5 ⟨B.heap.size, 0, none⟩ 1 [dgB m] Tryz.underlying139 Tryz.underlying5 Tryz.underlying9
        refine h (fun j hj => ?_)
        have hj0 : j = 0 := by simpa using hj
        subst hj0
        simp [Addr.add, go_sem, dgB_nat]
      have hcw := hcv _ wr rfl
      clear hcv
      go_wp2
      go_roundw
      case rel =>
        have hjp : 0 < j := by
          rcases Nat.eq_zero_or_pos j with h | h
          · have := HJ.out; rw [h] at this; simp at this; omega
          · exact h
        refine ⟨m / 10, _, j - 1, by simp, rfl, by omega, ?_, ?_, ?_, by (repeat (first | exact Below.refl _ _ | assumption | refine Below.drew ?_ | refine bl_alloc ?_ _ | refine bl_then ?_ (by assumption) | refine Below.setCell ?_ (by first | omega | (simp; done) | (simp; omega)) _ | refine bl_store ?_ ?_ _ _))⟩
        · rw [← HD.out]
          conv => rhs; rw [mDg]
          rw [dif_neg (by omega)]
        · have h1 := HJ.out
          have e : j = (j - 1) + 1 := by omega
          rw [e, Nat.pow_succ] at h1
          omega
        · have e1 : (⟨#[dgB m]⟩ : ByteArray).size = 1 := rfl
          rw [ByteArray.size_append, e1]
          omega
      case measure => simp [intOf]; omega
    · have hm0 : m = 0 := by omega
      subst hm0
      have HE : Hid (s = mDg k ⟨#[]⟩) := by
        show _ = _
        rw [← hd]
        rw [mDg]
        simp
      clear hd hj
      go_wp2
      go_ret
      refine ⟨?_, hB⟩
      have := HE.out
      rw [mTx, ← this]
      rfl
end Go.Proofs.YtaodbplepegapaaGreat
