/- PlaceLabels: the walks of the model and of the program. -/
import Derived.Test.YtdohlnnbibnnbaaGreatVPlaceLabels47
namespace Go.Proofs.YtdohlnnbibnnbaaGreat
open Go.RowKit
set_option linter.unusedSimpArgs false
set_option linter.unusedVariables false
set_option maxRecDepth 100000

theorem there2pl (V : World) (a b : Value) (t : TypeId) : There (V.alloc (.cells #[a, b] t)) V.heap.size 2 := fun o ho => by
  have hc : o = 0 ∨ o = 1 := by omega
  rcases hc with rfl | rfl <;> exact ⟨⟨_, by simp [go_sem]; rfl⟩, by simp [go_sem]⟩
theorem ownP_nil (w : World) (base : Nat) : OwnP w base (.slice none 0 0) 0 (fun i => ([] : List Plc).getD i zPl) := ⟨none, 0, rfl, Nat.le_refl _, .inl rfl⟩
set_option maxHeartbeats 8000000 in
theorem spec_PlaceLabels_any (z x y wd ht : Int) (b n cap : Nat) (G : Nat → Feat) (w : World) (hg : FsAt w b 0 n G) (hbl : b < w.heap.size) (hs : SmallFs n G) :
    Calls Tryz.prog 8 #[.slice (some ⟨b, 0, none⟩) n cap, camV z x y wd ht] w fun e w' => ∃ v, e = .returned (.agg #[.int .i64 (plqC z x y wd ht n G), v]) ∧ OwnP w' w.heap.size v (plqL z x y wd ht n G).length (fun i => (plqL z x y wd ht n G).getD i zPl) ∧ Below w.heap.size w w' := by
  have HG : Hid (FsAt w b 0 n G) := hg
  have HS : Hid (SmallFs n G) := hs
  have key : ∀ (T : Array Value) (Wf : World) (r : Nat) (v0 v1 : Value), T[4]?.getD undef = .pointer (some ⟨r, 0, none⟩) → Wf.cell? ⟨r, 0, none⟩ = some v0 → Wf.cell? ⟨r, 1, none⟩ = some v1 → (results Tryz.f8 T).run Tryz.prog Wf = .ok (.agg #[v0, v1]) Wf := fun T Wf r v0 v1 hT h0 h1 => by
    simp [results, Tryz.results8, go_sem, hT, h0, h1]
  have KEY := (show Hid _ from key)
  have HC : Hid (plqC z x y wd ht n G = if camC z x y wd ht = 0 then featsC n G else camC z x y wd ht) := rfl
  have HL : Hid (plqL z x y wd ht n G = if plqC z x y wd ht n G = 0 then plsP x y wd ht (lbG z G) (srtL n G) else []) := rfl
  obtain ⟨PC, hPC⟩ : ∃ PC, plqC z x y wd ht n G = PC := ⟨_, rfl⟩
  obtain ⟨PL, hPL⟩ : ∃ PL, plqL z x y wd ht n G = PL := ⟨_, rfl⟩
  rw [hPC, hPL] at HL
  rw [hPC] at HC
  rw [hPC, hPL]
  clear hg hs key hPC hPL
  go_enter Tryz.func8, Tryz.ntmps8
  go_wp2_with fail
  generalize hW : ((w.alloc _).alloc _ : World) = W
  have HB0 : Hid (Below w.heap.size w W) := by show Below _ _ _; subst hW; (repeat (first | exact Below.refl _ _ | assumption | refine Below.drew ?_ | refine bl_alloc ?_ _ | refine bl_then ?_ (by assumption) | refine Below.setCell ?_ (by first | omega | (simp; done) | (simp; omega)) _ | refine bl_store ?_ ?_ _ _))
  have HCa : Hid (CamAt W w.heap.size z x y wd ht) := by show CamAt _ _ _ _ _ _ _; subst hW; refine ⟨?_, ?_, ?_, ?_, ?_⟩ <;> simp [go_sem]
  have HT : Hid (There W (w.heap.size + 1) 2) := by
    show There _ _ _
    subst hW
    have := there2pl (w.alloc (.cells #[.int .i64 z, .int .i64 x, .int .i64 y, .int .i64 wd, .int .i64 ht] 26)) (.int .i64 0) (.slice none 0 0) 31
    simpa using this
  have hWl : w.heap.size + 1 < W.heap.size := by subst hW; simp
  clear hW
  refine (l9Fault_any w.heap.size z x y wd ht W HCa.out).mono ?_
  rintro e w1 ⟨rfl, hb1⟩
  have HB1 : Hid (Below w.heap.size w w1) := bl_then HB0.out hb1
  have HC1 : Hid (CamAt w1 w.heap.size z x y wd ht) := CamAt_bl HCa.out hb1
  have HT1 : Hid (There w1 (w.heap.size + 1) 2) := HT.out.below hb1
  have hs1 := hb1.size
  clear hb1 HCa HT HB0
  by_cases hc : camC z x y wd ht = 0
  case neg =>
    have HE : Hid (PC = camC z x y wd ht) := by show _ = _; rw [HC.out, if_neg hc]
    have HE0 : Hid (PL = []) := by show _ = _; rw [HL.out, if_neg (by rw [HE.out]; exact hc)]
    have hcb : (camC z x y wd ht == 0) = false := by simpa using hc
    generalize camC z x y wd ht = rc at *
    have hT' := HT1.out
    have t0 := hT'.cell 0 (by omega)
    have t1 := hT'.cell 1 (by omega)
    have f0 := (hT' 0 (by omega)).2
    have f1 := (hT' 1 (by omega)).2
    clear hT' hc HC HL
    go_wp2_with fail
    obtain ⟨q0, q1⟩ := set2_at (W := w1) (r := w.heap.size + 1) (i := 0) (j := 1) (u := .int .i64 rc) (v := .slice none 0 0) (by omega) (by rw [t0]; rfl) (by rw [t1]; rfl)
    refine bodyPost_ret (KEY.out _ _ _ _ _ rfl q0 q1) rfl ⟨_, by rw [HE.out], by rw [HE0.out]; exact ownP_nil _ _, ?_⟩
    exact (HB1.out.setCell (Nat.le_succ _) _).setCell (Nat.le_succ _) _
  have hcam : camB z x y wd ht = true := by
    rcases camC_cases z x y wd ht with ⟨_, h⟩ | ⟨h, _⟩
    · exact h
    · rw [h] at hc; cases hc
  have HCam : Hid (camB z x y wd ht = true) := hcam
  have HC2 : Hid (PC = featsC n G) := by show _ = _; rw [HC.out, if_pos hc]
  rw [hc]
  clear hc hcam HC
  go_wp2_with fail
  refine (l2Many_any b n cap G w1 (HG.out.below HB1.out hbl) (Nat.lt_of_lt_of_le hbl HB1.out.size) HS.out).mono ?_
  rintro e w2 ⟨rfl, hb2⟩
  have HB2 : Hid (Below w.heap.size w w2) := bl_then HB1.out hb2
  have HCc : Hid (CamAt w2 w.heap.size z x y wd ht) := CamAt_bl HC1.out hb2
  have HT2 : Hid (There w2 (w.heap.size + 1) 2) := HT1.out.below hb2
  have hs2 := hb2.size
  clear hb2 HC1 HT1 HB1
  by_cases hf : featsC n G = 0
  case neg =>
    have HE : Hid (PC = featsC n G) := HC2.out
    have HE0 : Hid (PL = []) := by show _ = _; rw [HL.out, if_neg (by rw [HE.out]; exact hf)]
    have hcb : (featsC n G == 0) = false := by simpa using hf
    generalize featsC n G = rc at *
    have hT' := HT2.out
    have t0 := hT'.cell 0 (by omega)
    have t1 := hT'.cell 1 (by omega)
    have f0 := (hT' 0 (by omega)).2
    have f1 := (hT' 1 (by omega)).2
    clear hT' hf HC2 HL
    go_wp2_with fail
    obtain ⟨q0, q1⟩ := set2_at (W := w2) (r := w.heap.size + 1) (i := 0) (j := 1) (u := .int .i64 rc) (v := .slice none 0 0) (by omega) (by rw [t0]; rfl) (by rw [t1]; rfl)
    refine bodyPost_ret (KEY.out _ _ _ _ _ rfl q0 q1) rfl ⟨_, by rw [HE.out], by rw [HE0.out]; exact ownP_nil _ _, ?_⟩
    exact (HB2.out.setCell (Nat.le_succ _) _).setCell (Nat.le_succ _) _
  have hz := camB_zoom HCam.out
  obtain ⟨hn12, hap, hok⟩ := featsC_ok hf
  have HAll := (show Hid _ from l4All_any b n cap G z w2 (HG.out.below HB2.out hbl) (Nat.lt_of_lt_of_le hbl HB2.out.size) HS.out hf hz)
  have HPL : Hid (PL = plsP x y wd ht (lbG z G) (srtL n G)) := by show _ = _; rw [HL.out, if_pos (by rw [HC2.out]; exact hf)]
  have HPC : Hid (PC = 0) := HC2.out.trans hf
  have HOk : Hid (∀ i, i < n → okC (G i)) := fun i hi => hok i hi
  have HAp : Hid (apartK (fun i => (G i).id) n) := hap
  have HZ : Hid (zoomB z = true) := hz
  have hlen : (srtF n G).length = n := srtK_len _ _ _
  rw [hf]
  obtain ⟨c0, _⟩ := HCc.out
  clear hf hap hok HL HC2 hz
  go_wp2_with fail
  refine Calls.mono HAll.out ?_
  rintro e w3 ⟨g, c, T, rfl, hwg, hgl, hfs, hsim, _, hb3⟩
  have HFs : Hid (FsAt w3 g 0 n T) := hfs
  have HSim : Hid (∀ i, i < n → simOf z (G ((srtF n G).getD i 0)) (T i)) := hsim
  have HB3 : Hid (Below w.heap.size w w3) := bl_then HB2.out hb3
  have HCd : Hid (CamAt w3 w.heap.size z x y wd ht) := CamAt_bl HCc.out hb3
  have HT3 : Hid (There w3 (w.heap.size + 1) 2) := HT2.out.below hb3
  have hs3 := HB3.out.size
  have hs23 := hb3.size
  have HPT : Hid (∀ i, i < n → 0 < (T i).n ∧ inW ((T i).X 0) ((T i).Y 0) = true ∧ (T i).lab.size ≤ 1048576) := fun i hi => by
    obtain ⟨h1, h2, h3, h4, h5, h6, h7, h8, h9⟩ := hsim i hi
    have ho := HOk.out _ (srtF_lt n G i hi)
    obtain ⟨_, _, ha, h0⟩ := simL_facts ho HZ.out
    refine ⟨by rw [h5]; exact h0, by rw [h6, h7]; exact ha.at 0, ?_⟩
    rw [h8]
    have := (featC_zero ho).2.2.2.2.2
    omega
  have HPl := (show Hid _ from l10Place_any g n c w.heap.size T z x y wd ht w3 HFs.out hgl (by omega) HCd.out HZ.out HCam.out HPT.out)
  clear hfs hsim hb3 hwg HAll HCc HT2 HB2 c0
  go_wp2_with fail
  refine Calls.mono HPl.out ?_
  rintro e w4 ⟨v, rfl, hR, hb4⟩
  have hO := hR.own
  have hEq : plsP x y wd ht (lbB z T) (srtL n T) = PL := by
    rw [HPL.out]
    refine plsP_sim (fun i => (srtF n G).getD i 0) ?_ HAp.out (fun i hi => srtF_lt n G i hi) (fun i j hi hj h => srtF_inj n G i j hi hj h) HSim.out
    have e1 : (List.range n).map (fun i => (srtF n G).getD i 0) = srtF n G := by
      apply List.ext_getElem
      · simp [hlen]
      · intro i h1 h2
        simp at h1
        simp [List.getD_eq_getElem?_getD, hlen, h1]
    rw [e1]
    exact srtK_perm _ _ n
  rw [hEq] at hO
  obtain ⟨va, vc, hv, hvc, hvi⟩ := hO.pts
  subst hv
  have HO : Hid (OwnP w4 w3.heap.size (.slice va PL.length vc) PL.length (fun i => PL.getD i zPl)) := hO
  have hT4 := HT3.out.below hb4
  have HT4 : Hid (There w4 (w.heap.size + 1) 2) := hT4
  have t0 := hT4.cell 0 (by omega)
  have t1 := hT4.cell 1 (by omega)
  have f0 := (hT4 0 (by omega)).2
  have f1 := (hT4 1 (by omega)).2
  have HB4 : Hid (Below w.heap.size w w4) := bl_then HB3.out hb4
  clear hO hR hEq hvi hvc hb4 hT4 HPl
  go_wp2_with fail
  obtain ⟨q0, q1⟩ := set2_at (W := w4) (r := w.heap.size + 1) (i := 0) (j := 1) (u := .int .i64 0) (v := .slice va PL.length vc) (by omega) (by rw [t0]; rfl) (by rw [t1]; rfl)
  refine bodyPost_ret (KEY.out _ _ _ _ _ rfl q0 q1) rfl ⟨_, by rw [HPC.out], ((HO.out.set (by omega) (Nat.le_refl _)).set (by omega) (by omega)), ?_⟩
  exact (HB4.out.setCell (Nat.le_succ _) _).setCell (Nat.le_succ _) _
set_option maxHeartbeats 8000000 in
theorem impl_PlaceLabels_any (z x y wd ht : Int) (b n cap : Nat) (G : Nat → Feat) (w : World) (hg : FsAt w b 0 n G) (hbl : b < w.heap.size) (hs : SmallFs n G) (hcap : n ≤ cap) (hcaps : ∀ i, i < n → (G i).n ≤ (G i).cap) :
    Calls Tryz.prog 7 #[.slice (some ⟨b, 0, none⟩) n cap, camV z x y wd ht] w fun e w' => ∃ v, e = .returned (.agg #[.int .i64 (plqC z x y wd ht n G), v]) ∧ OwnP w' w.heap.size v (plqL z x y wd ht n G).length (fun i => (plqL z x y wd ht n G).getD i zPl) ∧ Below w.heap.size w w' := by
  obtain ⟨i0, hi, hz0, hz1, hz2⟩ := info_parts info_if
  have HG : Hid (FsAt w b 0 n G) := hg
  have HS : Hid (SmallFs n G) := hs
  have HCp : Hid (∀ i, i < n → (G i).n ≤ (G i).cap) := hcaps
  have key : ∀ (T : Array Value) (Wf : World) (r : Nat) (v0 v1 : Value), T[4]?.getD undef = .pointer (some ⟨r, 0, none⟩) → Wf.cell? ⟨r, 0, none⟩ = some v0 → Wf.cell? ⟨r, 1, none⟩ = some v1 → (results Tryz.f7 T).run Tryz.prog Wf = .ok (.agg #[v0, v1]) Wf := fun T Wf r v0 v1 hT h0 h1 => by
    simp [results, Tryz.results7, go_sem, hT, h0, h1]
  have KEY := (show Hid _ from key)
  have HC : Hid (plqC z x y wd ht n G = or2 (camC z x y wd ht) (featsC n G)) := by show _ = _; unfold plqC or2; rfl
  have HL : Hid (plqL z x y wd ht n G = if plqC z x y wd ht n G = 0 then plsP x y wd ht (lbG z G) (srtL n G) else []) := rfl
  have HSp : Hid (plqC z x y wd ht n G = 0 → camC z x y wd ht = 0 ∧ featsC n G = 0) := fun h => by
    unfold plqC at h
    by_cases hc : camC z x y wd ht = 0
    · rw [if_pos hc] at h; exact ⟨hc, h⟩
    · rw [if_neg hc] at h; exact absurd h hc
  obtain ⟨PC, hPC⟩ : ∃ PC, plqC z x y wd ht n G = PC := ⟨_, rfl⟩
  obtain ⟨PL, hPL⟩ : ∃ PL, plqL z x y wd ht n G = PL := ⟨_, rfl⟩
  rw [hPC, hPL] at HL
  rw [hPC] at HC HSp
  rw [hPC, hPL]
  clear hg hs hcaps key hPC hPL
  go_enter Tryz.func7, Tryz.ntmps7
  go_wp2_with fail
  generalize hW : ((w.alloc _).alloc _ : World) = W
  have HB0 : Hid (Below w.heap.size w W) := by show Below _ _ _; subst hW; (repeat (first | exact Below.refl _ _ | assumption | refine Below.drew ?_ | refine bl_alloc ?_ _ | refine bl_then ?_ (by assumption) | refine Below.setCell ?_ (by first | omega | (simp; done) | (simp; omega)) _ | refine bl_store ?_ ?_ _ _))
  have HCa : Hid (CamAt W w.heap.size z x y wd ht) := by show CamAt _ _ _ _ _ _ _; subst hW; refine ⟨?_, ?_, ?_, ?_, ?_⟩ <;> simp [go_sem]
  have HT : Hid (There W (w.heap.size + 1) 2) := by
    show There _ _ _
    subst hW
    have := there2pl (w.alloc (.cells #[.int .i64 z, .int .i64 x, .int .i64 y, .int .i64 wd, .int .i64 ht] 26)) (.int .i64 0) (.slice none 0 0) 31
    simpa using this
  have hWl : w.heap.size + 1 < W.heap.size := by subst hW; simp
  clear hW
  refine (camFault_any z x y wd ht W).mono ?_
  rintro e w1 ⟨rfl, hb1⟩
  have HB1 : Hid (Below w.heap.size w w1) := bl_then HB0.out hb1
  have HB01 : Hid (Below W.heap.size W w1) := hb1
  generalize hcc : camC z x y wd ht = cc at *
  clear hb1 HB0
  go_wp2_with fail
  refine (FeaturesFault_any b n cap G w1 (HG.out.below HB1.out hbl) (Nat.lt_of_lt_of_le hbl HB1.out.size) HS.out hcap).mono ?_
  rintro e w2 ⟨rfl, hb2⟩
  have HB2 : Hid (Below w.heap.size w w2) := bl_then HB1.out hb2
  have HB02 : Hid (Below W.heap.size W w2) := bl_then HB01.out hb2
  generalize hff : featsC n G = fcC at *
  clear hb2 HB1 HB01
  go_wp2_with fail
  generalize hX : (w2.alloc _ : World) = wX
  have hx0 : wX.cell? ⟨w2.heap.size, 0, none⟩ = some (.int .i64 cc) := by subst hX; simp [go_sem]
  have hx1 : wX.cell? ⟨w2.heap.size, 1, none⟩ = some (.int .i64 fcC) := by subst hX; simp [go_sem]
  have HBX : Hid (Below w.heap.size w wX) := bl_then HB2.out (by subst hX; (repeat (first | exact Below.refl _ _ | assumption | refine Below.drew ?_ | refine bl_alloc ?_ _ | refine bl_then ?_ (by assumption) | refine Below.setCell ?_ (by first | omega | (simp; done) | (simp; omega)) _ | refine bl_store ?_ ?_ _ _)))
  have HB0X : Hid (Below W.heap.size W wX) := bl_then HB02.out (by subst hX; (repeat (first | exact Below.refl _ _ | assumption | refine Below.drew ?_ | refine bl_alloc ?_ _ | refine bl_then ?_ (by assumption) | refine Below.setCell ?_ (by first | omega | (simp; done) | (simp; omega)) _ | refine bl_store ?_ ?_ _ _)))
  clear hX HB2 HB02
  refine (cmpOr2_any w2.heap.size 2 cc fcC wX hx0 hx1).mono ?_
  rintro e w3 ⟨rfl, rfl⟩
  have HT3 : Hid (There w3 (w.heap.size + 1) 2) := HT.out.below HB0X.out
  have HC3 : Hid (CamAt w3 w.heap.size z x y wd ht) := CamAt_bl HCa.out HB0X.out
  clear hx0 hx1 HT HCa
  rw [← HC.out]
  by_cases hp : PC = 0
  case neg =>
    have HE0 : Hid (PL = []) := by show _ = _; rw [HL.out, if_neg hp]
    have hcb : (PC == 0) = false := by simpa using hp
    have hT' := HT3.out
    have t0 := hT'.cell 0 (by omega)
    have t1 := hT'.cell 1 (by omega)
    have f0 := (hT' 0 (by omega)).2
    have f1 := (hT' 1 (by omega)).2
    clear hT' hp HC HL HSp
    go_wp2_with fail
    obtain ⟨q0, q1⟩ := set2_at (W := w3) (r := w.heap.size + 1) (i := 0) (j := 1) (u := .int .i64 PC) (v := .slice none 0 0) (by omega) (by rw [t0]; rfl) (by rw [t1]; rfl)
    refine bodyPost_ret (KEY.out _ _ _ _ _ rfl q0 q1) rfl ⟨_, rfl, by rw [HE0.out]; exact ownP_nil _ _, ?_⟩
    exact (HBX.out.setCell (Nat.le_succ _) _).setCell (Nat.le_succ _) _
  obtain ⟨hc0, hf0⟩ := HSp.out hp
  subst hc0 hf0
  have hcam : camB z x y wd ht = true := by
    rcases camC_cases z x y wd ht with ⟨_, h⟩ | ⟨h, _⟩
    · exact h
    · rw [h] at hcc; cases hcc
  have hz := camB_zoom hcam
  obtain ⟨hn12, hap, hok⟩ := featsC_ok hff
  have HPL : Hid (PL = plsP x y wd ht (lbG z G) (srtL n G)) := by show _ = _; rw [HL.out, if_pos hp]
  have HPC : Hid (PC = 0) := hp
  have HCam : Hid (camB z x y wd ht = true) := hcam
  have HOk : Hid (∀ i, i < n → okC (G i)) := fun i hi => hok i hi
  have HAp : Hid (apartK (fun i => (G i).id) n) := hap
  have HZ : Hid (zoomB z = true) := hz
  rw [hp]
  clear hp hcam hap hok HL HC HSp hz hcc hff
  have i1 : ∀ (id la ki wi : Int) (a : Option Addr) (m c : Nat) (lab : ByteArray) (pr : Int) (w : World), (Instr.field 61 (.agg #[.int .i64 0, .int .i64 id, .int .i64 la, .int .i64 ki, .int .i64 wi, .slice a m c, .string lab, .int .i64 pr]) 1).run Tryz.prog w = .ok (.agg #[.int .i64 id, .int .i64 la, .int .i64 ki, .int .i64 wi, .slice a m c, .string lab, .int .i64 pr]) w := fun _ _ _ _ _ _ _ _ _ _ => by kernel_rfl
  go_wp2_with fail
  go_loopw [6, 21] (fun v i wr => ∃ (k : Nat) (T : Nat → Feat), k ≤ n ∧ i = .int .i64 (k : Int) ∧ SfRow w3.heap.size wr v k z G T ∧ Below w3.heap.size w3 wr) (fun _ i _ => n - (intOf i).toNat)
  case atStart => exact ⟨0, G, by omega, rfl, ⟨World.ownsRow_nil _ _ _ _, fun i hi => by omega, fun i j hi => by omega⟩, Below.refl _ _⟩
  case round =>
    obtain ⟨k, T, hk, rfl, hO, hB⟩ := hrel
    have HO : Hid (SfRow w3.heap.size wr u6 k z G T) := hO
    have HB : Hid (Below w3.heap.size w3 wr) := hB
    clear hO hB
    by_cases hlt : k < n
    · have HLT : Hid (k < n) := hlt
      have HBw : Hid (Below w.heap.size w wr) := HBX.out.trans (HB.out.mono HBX.out.size)
      have hblr : b < wr.heap.size := Nat.lt_of_lt_of_le hbl HBw.out.size
      have hok := HOk.out k hlt
      obtain ⟨hk3, hk0, hk12, _, hin, hl6⟩ := featC_zero hok
      have hff := (HG.out.below HBw.out hbl k hlt).1
      rw [Nat.zero_add] at hff
      obtain ⟨q, o, ea, hql, hpt⟩ : ∃ q o, (G k).a = some ⟨q, o, none⟩ ∧ q < wr.heap.size ∧ PtsAt wr q o (G k).n (G k).X (G k).Y := by
        rcases (HG.out.below HBw.out hbl k hlt).2 with h' | ⟨q, o, e, hl, hp⟩
        · omega
        · exact ⟨q, o, e, hl, hp⟩
      rw [ea] at hff
      obtain ⟨f0, f1, f2, f3, f4, f5, f6⟩ := hff
      have hsc : 0 = simpC z (featC (G k).id (G k).la (G k).ki (G k).wi (G k).n (G k).X (G k).Y (G k).lab (G k).pr) := by
        unfold simpC; rw [if_pos HZ.out]; exact hok.symm
      have HSF : Hid (0 < (simL z (G k)).length ∧ (simL z (G k)).length ≤ 12) := ⟨(simL_facts hok HZ.out).2.2.2, (simL_facts hok HZ.out).2.1⟩
      have HS3 : Hid (∀ W', Below wr.heap.size wr W' → Calls Tryz.prog 28 #[.agg #[.int .i64 (G k).id, .int .i64 (G k).la, .int .i64 (G k).ki, .int .i64 (G k).wi, .slice (some ⟨q, o, none⟩) (G k).n (G k).cap, .string (G k).lab, .int .i64 (G k).pr], .int .i64 z] W' fun e w' => ∃ a c, e = .returned (.agg #[.int .i64 0, .int .i64 (G k).id, .int .i64 (G k).la, .int .i64 (G k).ki, .int .i64 (G k).wi, .slice a (simL z (G k)).length c, .string (G k).lab, .int .i64 (G k).pr]) ∧ Row W'.heap.size w' (.slice a (simL z (G k)).length c) (simL z (G k)) ∧ Below W'.heap.size W' w') := fun W' h => by
        refine (impl_SimpleAt_any (G k).id (G k).la (G k).ki (G k).wi z q (G k).n (G k).cap (G k).X (G k).Y (G k).lab (G k).pr (thinOf z (G k)) W' (hpt.below h hql) (Nat.lt_of_lt_of_le hql h.size) (by omega) (HCp.out k HLT.out) (by omega) (thinOf_spec z (G k)) 0 hsc).mono ?_
        rintro e w' ⟨v, he, hR, hb⟩
        obtain ⟨g2, c2, hv2, _⟩ := hR.at HSF.out.1
        exact ⟨some ⟨g2, 0, none⟩, c2, by rw [he, hv2]; rfl, by rw [hv2] at hR; exact hR, hb⟩
      obtain ⟨c0, _⟩ := CamAt_bl HC3.out HB.out
      have hi1 : (k : Int) < (n : Int) := by omega
      have hi0 : (0 : Int) ≤ (k : Int) := by omega
      clear hpt hok hk3 hk0 hk12 hin hl6 ea hsc
      generalize wr = wU at *
      have c0' : ∀ o, (wU.alloc o).cell? ⟨w.heap.size, 0, none⟩ = some (.int .i64 z) := fun o => bl_cell (by (repeat (first | exact Below.refl _ _ | assumption | refine Below.drew ?_ | refine bl_alloc ?_ _ | refine bl_then ?_ (by assumption) | refine Below.setCell ?_ (by first | omega | (simp; done) | (simp; omega)) _ | refine bl_store ?_ ?_ _ _))) c0
      go_wp2_with fail
      generalize hV : (wU.alloc _ : World) = wV
      have HBV : Hid (Below wU.heap.size wU wV) := by show Below _ _ _; subst hV; (repeat (first | exact Below.refl _ _ | assumption | refine Below.drew ?_ | refine bl_alloc ?_ _ | refine bl_then ?_ (by assumption) | refine Below.setCell ?_ (by first | omega | (simp; done) | (simp; omega)) _ | refine bl_store ?_ ?_ _ _))
      clear hV f0 f1 f2 f3 f4 f5 f6 c0 c0'
      refine Calls.mono (HS3.out _ HBV.out) ?_
      rintro e wL ⟨a2, c2, rfl, hR2, hbL⟩
      have HBL : Hid (Below wU.heap.size wU wL) := bl_then HBV.out hbL
      generalize hLn : (simL z (G k)).length = N at *
      have HR2 : Hid (Row wV.heap.size wL (.slice a2 N c2) (simL z (G k))) := hR2
      have HO2 : Hid (SfRow w3.heap.size wL u6 k z G T) := HO.out.below HBL.out
      have HB2 : Hid (Below w3.heap.size w3 wL) := bl_then HB.out HBL.out
      have hwr2 := HB.out.size
      have hUV := HBV.out.size
      have hw3L := HB2.out.size
      have HFR : Hid (∀ i, i < k → (T i).a ≠ a2) := fun i hi e => by
        obtain ⟨g2, c2', hv2, hg2, _⟩ := HR2.out.at (by rw [hLn]; exact HSF.out.1)
        injection hv2 with e1 _ _
        have := (World.ownsRow.lt (HO.out.2.1 i hi).2 g2 (by rw [e, e1]; rfl)).2
        omega
      obtain ⟨ua, uc, hu6⟩ : ∃ ua uc, u6 = .slice ua k uc := by
        rcases HO.out.1.at with ⟨hv, hl⟩ | ⟨g', c', hv, _⟩
        · have hk0 : k = 0 := by simpa using congrArg List.length hl
          exact ⟨none, 0, by rw [hv, hk0]⟩
        · rw [List.length_range] at hv
          exact ⟨_, c', hv⟩
      subst hu6
      clear hR2 hbL HS3 HBV HO HB HBw HBL
      go_wp2_with (first
        | (at_builtin; go_must (refine wpList_append_own _ rfl _ _ 24 rfl w3.heap.size 36 i0 (.agg #[.int .i64 0, .int .i64 0, .int .i64 0, .int .i64 0, .slice none 0 0, .string ⟨#[]⟩, .int .i64 0]) 7 80 Tryz.underlying24 hi hz0 hz1 hz2 rfl (by decide) (.slice ua k uc) k (cellsF T (List.range k)) rfl ?c6 ⟨wL.heap.size, 0, none⟩ 1 1 (fcell ⟨(G k).id, (G k).la, (G k).ki, (G k).wi, a2, N, c2, px (simL z (G k)), py (simL z (G k)), (G k).lab, (G k).pr⟩) rfl ?c0 ?c1 ?c2 ?c3 ?c4 ?c5 ?_)))
      case c6 =>
        have := HO2.out.1.below ((Below.refl wL.heap.size wL).alloc (Nat.le_refl _) (.cells #[.int .i64 (G k).id, .int .i64 (G k).la, .int .i64 (G k).ki, .int .i64 (G k).wi, .slice a2 N c2, .string (G k).lab, .int .i64 (G k).pr] 36))
        unfold FRow at this
        rw [List.length_range] at this
        exact this
      case c0 => rfl
      case c1 =>
        intro q u hq
        have hq7 : q < 7 := (List.getElem?_eq_some_iff.1 hq).1
        have hc : q = 0 ∨ q = 1 ∨ q = 2 ∨ q = 3 ∨ q = 4 ∨ q = 5 ∨ q = 6 := by omega
        rcases hc with rfl | rfl | rfl | rfl | rfl | rfl | rfl <;> (simp [fcell] at hq; subst hq; simp [Addr.add, go_sem])
      case c2 => exact fcell_one _
      case c3 => unfold maxLen; omega
      case c4 => omega
      case c5 => first | omega | (simp; omega)
      intro v' w4 hown' hgrow hnil
      have hbA : Below wL.heap.size wL (wL.alloc (.cells #[.int .i64 (G k).id, .int .i64 (G k).la, .int .i64 (G k).ki, .int .i64 (G k).wi, .slice a2 N c2, .string (G k).lab, .int .i64 (G k).pr] 36)) := (Below.refl wL.heap.size wL).alloc (Nat.le_refl _) _
      have hOA := HO2.out.below hbA
      have HF4 := (show Hid (SfRow w3.heap.size w4 v' (k + 1) z G (fun i => if i = k then ⟨(G k).id, (G k).la, (G k).ki, (G k).wi, a2, N, c2, px (simL z (G k)), py (simL z (G k)), (G k).lab, (G k).pr⟩ else T i)) from
        SfRow.app hOA ⟨rfl, rfl, rfl, rfl, hLn.symm, rfl, rfl, rfl, rfl⟩ ((HR2.out.below hbA).wide (by omega)) hown' hgrow HFR.out)
      have HB4 : Hid (Below w3.heap.size w3 w4) := (bl_then HB2.out hbA).grown hgrow (by simp; omega) (fun q hq => (World.ownsRow.lt hOA.1 q hq).1)
      clear hown' hgrow hnil hOA hbA
      go_wp2_with fail
      go_roundw
      case rel => exact ⟨k + 1, _, by have := HLT.out; omega, by go_num, HF4.out, HB4.out⟩
      case measure => have := HLT.out; simp [intOf]; omega
    · obtain rfl : k = n := by omega
      obtain ⟨ua, uc, hu6⟩ : ∃ ua uc, u6 = .slice ua k uc := by
        rcases HO.out.1.at with ⟨hv, hl⟩ | ⟨g', c', hv, _⟩
        · have hk0 : k = 0 := by simpa using congrArg List.length hl
          exact ⟨none, 0, by rw [hv, hk0]⟩
        · rw [List.length_range] at hv
          exact ⟨_, c', hv⟩
      subst hu6
      have hSim : ∀ i, i < k → simOf z (G i) (T i) := fun i hi => (HO.out.2.1 i hi).1
      have HSim := (show Hid _ from hSim)
      have hFs : k = 0 ∨ ∃ g, ua = some ⟨g, 0, none⟩ ∧ g < wr.heap.size ∧ FsAt wr g 0 k T := by
        rcases HO.out.1.at with ⟨hv, hl⟩ | ⟨g', c', hv, _⟩
        · exact .inl (by simpa using congrArg List.length hl)
        · right
          rw [List.length_range] at hv
          injection hv with e1 _ e3
          subst e1 e3
          obtain ⟨h1, _, h3⟩ := HO.out.fs
          exact ⟨g', rfl, h1, h3⟩
      have hPT : ∀ i, i < k → 0 < (T i).n ∧ inW ((T i).X 0) ((T i).Y 0) = true ∧ (T i).lab.size ≤ 1048576 := fun i hi => by
        obtain ⟨h1, h2, h3, h4, h5, h6, h7, h8, h9⟩ := hSim i hi
        have ho := HOk.out i hi
        obtain ⟨_, _, ha, h0⟩ := simL_facts ho HZ.out
        refine ⟨by rw [h5]; exact h0, by rw [h6, h7]; exact ha.at 0, ?_⟩
        rw [h8]
        have := (featC_zero ho).2.2.2.2.2
        omega
      have hapT : apartK (fun i => (T i).id) k := fun i j hi hj e => by
        have e1 := (hSim i hi).1
        have e2 := (hSim j hj).1
        have e' : (T i).id = (T j).id := e
        rw [e1, e2] at e'
        exact HAp.out i j hi hj e'
      have HPl := (show Hid _ from placedIn_any ua k uc T z x y wd ht wr hFs (by omega) hapT HZ.out HCam.out hPT)
      have HBw : Hid (Below w.heap.size w wr) := HBX.out.trans (HB.out.mono HBX.out.size)
      have hsw := HBw.out.size
      have hsX := HB0X.out.size
      have hsr := HB.out.size
      have HTr : Hid (There wr (w.heap.size + 1) 2) := HT3.out.below HB.out
      obtain ⟨c0, c1, c2, c3, c4⟩ := CamAt_bl HC3.out HB.out
      clear hSim hFs hPT hapT HO HB
      go_wp2_with fail
      refine Calls.mono HPl.out ?_
      rintro e w4 ⟨v, rfl, hR, hb4⟩
      have hO := hR.own
      have hEq : plsP x y wd ht (lbB z T) (srtL k T) = PL := by
        rw [HPL.out]
        exact plsP_sim (fun i => i) (by simp) HAp.out (fun i hi => hi) (fun i j _ _ h => h) HSim.out
      rw [hEq] at hO
      obtain ⟨va, vc, hv, hvc, hvi⟩ := hO.pts
      subst hv
      have HO : Hid (OwnP w4 wr.heap.size (.slice va PL.length vc) PL.length (fun i => PL.getD i zPl)) := hO
      have hT4 := HTr.out.below hb4
      have HT4 : Hid (There w4 (w.heap.size + 1) 2) := hT4
      have t0 := hT4.cell 0 (by omega)
      have t1 := hT4.cell 1 (by omega)
      have f0 := (hT4 0 (by omega)).2
      have f1 := (hT4 1 (by omega)).2
      have HB4 : Hid (Below w.heap.size w w4) := bl_then HBw.out hb4
      clear hO hR hEq hvi hvc hb4 hT4 HPl c0 c1 c2 c3 c4
      go_wp2_with fail
      obtain ⟨q0, q1⟩ := set2_at (W := w4) (r := w.heap.size + 1) (i := 0) (j := 1) (u := .int .i64 0) (v := .slice va PL.length vc) (by omega) (by rw [t0]; rfl) (by rw [t1]; rfl)
      refine bodyPost_ret (KEY.out _ _ _ _ _ rfl q0 q1) rfl ⟨_, by rw [HPC.out], ((HO.out.set (by omega) (Nat.le_refl _)).set (by omega) (by omega)), ?_⟩
      exact (HB4.out.setCell (Nat.le_succ _) _).setCell (Nat.le_succ _) _
end Go.Proofs.YtdohlnnbibnnbaaGreat
