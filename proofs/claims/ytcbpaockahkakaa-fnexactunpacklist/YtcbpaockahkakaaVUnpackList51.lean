/- Several texts in one. -/
import Derived.Test.YtcbpaockahkakaaVUnpackList50
import Derived.Test.YtcbpaockahkakaaRows
import Derived.Test.YtcbpaockahkakaaVUnpackList1
import Derived.WalkKit
import Derived.Below
import Derived.ProofKit
import Derived.OpenShut
import Derived.ChangeOld
import Derived.Deep.Slices

/- The law of UnpackList: its steps. -/

namespace Go.Proofs.Ytcbpaockahkakaa
open Go.RowKit
set_option linter.unusedSimpArgs false
set_option linter.unusedVariables false
set_option maxRecDepth 100000

set_option maxHeartbeats 8000000 in
theorem FnExactUnpackList_walk (a : Option Addr) (n cap : Nat) (Z : Nat → Int) (w : World) (h : IsBytes w a n Z ∧ (∀ i, 0 ≤ Z i ∧ Z i ≤ 255) ∧ n ≤ cap) :
    Calls Try.prog 4 #[.slice a n cap] w fun e w' => e = .returned (.bool true) ∧ Below w.heap.size w w' := by
  obtain ⟨hp, hr, hcap⟩ := h
  by_cases hbig : 1048576 < n
  · have hbi : (1048576 : Int) < (n : Int) := by omega
    go_enter Try.func4, Try.ntmps4
    go_wp2
    go_ret
    exact ⟨rfl, by (repeat (first | exact Below.refl _ _ | assumption | refine Below.drew ?_ | refine bl_alloc ?_ _ | refine bl_then ?_ (by assumption) | refine Below.setCell ?_ (by first | omega | (simp; done) | (simp; omega)) _ | refine bl_store ?_ ?_ _ _))⟩
  · have hn : n ≤ 1048576 := by omega
    have hbi : ¬ (1048576 : Int) < (n : Int) := by omega
    obtain ⟨hM12, hN12⟩ := upL_ok Z n
    have Hs : Hid (∀ b W, BsAt W b 0 n Z → b < W.heap.size → Calls Try.prog 9 #[.slice (some ⟨b, 0, none⟩) n n] W (UpAns (upC Z n) (upL Z n) W)) := fun b W h1 h2 => (spec_UnpackList_some b 0 n n Z W h2 h1 (Nat.le_refl _) hr hn).mono fun e w' h => unP_ans h
    have Hi : Hid (∀ b W, BsAt W b 0 n Z → b < W.heap.size → Calls Try.prog 8 #[.slice (some ⟨b, 0, none⟩) n n] W (UpAns (upC Z n) (upL Z n) W)) := fun b W h1 h2 => (impl_UnpackList_any _ n n Z W (h1.is h2) hr hn (Nat.le_refl _)).mono fun e w' h => unP_ans h
    have HI : Hid (IsBytes w a n Z) := hp
    clear hp hr hbig
    generalize upC Z n = C at *
    generalize upL Z n = L at *
    have HNN : Hid (∀ {T : Nat → Feat}, (∀ i, i < L.length → (T i).same (fxG L i)) → ∀ i, i < L.length → (T i).n ≤ 1048576) := fun {T} hT i hi => by
      have h1 := (hT i hi).2.2.2.2.1
      have h2 := hN12 i hi
      omega
    unfold UpAns at Hs Hi
    clear hN12
    generalize fxG L = G at *
    obtain ⟨M, hM⟩ : ∃ M, L.length = M := ⟨_, rfl⟩
    rw [hM] at Hs Hi HNN hM12
    clear hM
    have hMn : M ≤ 1048576 := by omega
    clear hM12
    go_enter Try.func4, Try.ntmps4
    go_wp2_with fail
    refine (toByteS_own a n cap Z _ HI.out hn).mono ?_
    rintro e w1 ⟨b1, rfl, hle1, hlt1, hp1, ht1, hb1⟩
    have HP1 : Hid (BsAt w1 b1 0 n Z) := hp1
    clear hp1 ht1
    go_wp2_with fail
    refine (Hs.out _ _ HP1.out hlt1).mono ?_
    rintro e w3 ⟨a0, cap0, S0, rfl, hF0, hS0, _, hb3⟩
    have hB3 : Below w.heap.size w w3 := bl_then hb1 hb3
    have HF0 : Hid (IsFs w3 a0 M S0) := hF0
    have HS0 : Hid (∀ i, i < M → (S0 i).same (G i)) := hS0
    clear hb1 hb3 HP1 hlt1 hle1 hF0 hS0
    go_wp2_with fail
    generalize hW3 : (w3.alloc _ : World) = w3'
    have hb3' : Below w3.heap.size w3 w3' := by subst hW3; (repeat (first | exact Below.refl _ _ | assumption | refine Below.drew ?_ | refine bl_alloc ?_ _ | refine bl_then ?_ (by assumption) | refine Below.setCell ?_ (by first | omega | (simp; done) | (simp; omega)) _ | refine bl_store ?_ ?_ _ _))
    have HR0 : Hid (R2At w3' w3.heap.size C (.slice a0 M cap0)) := by show R2At _ _ _ _; subst hW3; exact ⟨by simp [go_sem], by simp [go_sem]⟩
    have hs3 : w3.heap.size < w3'.heap.size := by subst hW3; simp
    clear hW3
    have hB3' : Below w.heap.size w w3' := bl_then hB3 hb3'
    have HF3 : Hid (IsFs w3' a0 M S0) := HF0.out.below hb3'
    have hws3 : w.heap.size ≤ w3.heap.size := hB3.size
    clear HF0 hb3' hB3
    refine (toByteS_own a n cap Z _ (HI.out.below hB3') hn).mono ?_
    rintro e w4 ⟨b4, rfl, hle4, hlt4, hp4, ht4, hb4⟩
    have HP4 : Hid (BsAt w4 b4 0 n Z) := hp4
    have HT4 : Hid (There w4 b4 n) := ht4
    have Hb4 : Hid (Below w3'.heap.size w3' w4) := hb4
    have hs4 := hb4.size
    clear hp4 ht4 hb4
    go_wp2_with fail
    refine (Hi.out _ _ HP4.out hlt4).mono ?_
    rintro e w5 ⟨a1, cap1, T1, rfl, hF1, hT1, hO1, hb5⟩
    have HF1 : Hid (IsFs w5 a1 M T1) := hF1
    have HT1 : Hid (∀ i, i < M → (T1 i).same (G i)) := hT1
    have HR1 : Hid (OwnR w5 w4.heap.size w5.heap.size a1 M (fun i => (T1 i).n) (fun i => (T1 i).cap)) := hO1
    have HP5 : Hid (BsAt w5 b4 0 n Z) := HP4.out.below hb5 hlt4
    have HT5 : Hid (There w5 b4 n) := HT4.out.below hb5
    have Hb5 : Hid (Below w3'.heap.size w3' w5) := bl_then Hb4.out hb5
    have hs5 := hb5.size
    clear hb5 hF1 hT1 hO1 HP4 HT4 Hb4
    obtain ⟨k0, k1⟩ := HR0.out.below Hb5.out
    have hp0 : w3.heap.size < w5.heap.size := by omega
    go_wp2_with fail
    generalize hW6 : (w5.alloc _ : World) = w6
    have hb6 : Below w5.heap.size w5 w6 := by subst hW6; (repeat (first | exact Below.refl _ _ | assumption | refine Below.drew ?_ | refine bl_alloc ?_ _ | refine bl_then ?_ (by assumption) | refine Below.setCell ?_ (by first | omega | (simp; done) | (simp; omega)) _ | refine bl_store ?_ ?_ _ _))
    have HRg6 : Hid (R2At w6 w5.heap.size C (.slice a1 M cap1)) := by show R2At _ _ _ _; subst hW6; exact ⟨by simp [go_sem], by simp [go_sem]⟩
    have hs6 : w5.heap.size < w6.heap.size := by subst hW6; simp
    clear hW6 k0 k1
    have Hb6 : Hid (Below w3'.heap.size w3' w6) := bl_then Hb5.out hb6
    have HSM : Hid (∀ i, i < M → (T1 i).same (S0 i)) := fun i hi => Feat.same_trans (HT1.out i hi) (Feat.same_symm (HS0.out i hi))
    have HNS : Hid (∀ i, i < M → (S0 i).n ≤ 1048576) := HNN.out HS0.out
    have HNT : Hid (∀ i, i < M → (T1 i).n ≤ 1048576) := HNN.out HT1.out
    refine (eqFeaturesResult_any C a1 a0 M cap1 cap0 T1 S0 w6 (HF1.out.below hb6) (HF3.out.below Hb6.out) HSM.out hMn HNS.out).mono ?_
    rintro e w7 ⟨rfl, hb7⟩
    have hb67 : Below w5.heap.size w5 w7 := bl_then hb6 hb7
    have HF7 : Hid (IsFs w7 a1 M T1) := HF1.out.below hb67
    have HR7 : Hid (OwnR w7 w4.heap.size w5.heap.size a1 M (fun i => (T1 i).n) (fun i => (T1 i).cap)) := HR1.out.below hb67
    have HP7 : Hid (BsAt w7 b4 0 n Z) := HP5.out.below hb67 (by omega)
    have HT7 : Hid (There w7 b4 n) := HT5.out.below hb67
    have HRg7 : Hid (R2At w7 w5.heap.size C (.slice a1 M cap1)) := HRg6.out.below hb7
    have Hb7 : Hid (Below w3'.heap.size w3' w7) := bl_then Hb6.out hb7
    have hs7 := hb7.size
    clear hb6 hb7 hb67 HF1 HR1 HP5 HT5 HRg6 Hb6 Hb5
    have HB3 : Hid (Below w.heap.size w w3') := hB3'
    clear hB3'
    have hws : w.heap.size ≤ w3'.heap.size := HB3.out.size
    go_wp2_with fail
    refine (toByteS_own a n cap Z _ (HI.out.below (bl_then HB3.out Hb7.out)) hn).mono ?_
    rintro e w8 ⟨b8, rfl, hle8, hlt8, hp8, ht8, hb8⟩
    have HP8 : Hid (BsAt w8 b8 0 n Z) := hp8
    have Hb8 : Hid (Below w7.heap.size w7 w8) := hb8
    have hs8 := hb8.size
    clear hp8 ht8 hb8
    go_wp2_with fail
    refine (eqByteS_any _ _ _ _ _ Z _ ((HP7.out.below Hb8.out (by omega)).is (by omega)) (HP8.out.is hlt8) hn).mono ?_
    rintro e w9 ⟨rfl, hb9⟩
    have hb79 : Below w7.heap.size w7 w9 := bl_then Hb8.out hb9
    have HF9 : Hid (IsFs w9 a1 M T1) := HF7.out.below hb79
    have HR9 : Hid (OwnR w9 w4.heap.size w5.heap.size a1 M (fun i => (T1 i).n) (fun i => (T1 i).cap)) := HR7.out.below hb79
    have HT9 : Hid (There w9 b4 n) := HT7.out.below hb79
    have HRg9 : Hid (R2At w9 w5.heap.size C (.slice a1 M cap1)) := HRg7.out.below hb79
    have Hb9 : Hid (Below w3'.heap.size w3' w9) := bl_then Hb7.out hb79
    have hs9 := hb79.size
    clear hb79 hb9 HF7 HR7 HP7 HT7 HRg7 Hb7 HP8 Hb8
    go_wp2_with fail
    -- the argument is marked
    refine (markByteS_any b4 n _ 1 w9 HT9.out (by omega) hn (by omega)).mono ?_
    rintro e wa ⟨rfl, hGa, _, _⟩
    have hMa : MidB w3'.heap.size w4.heap.size w9 wa := MidB.of_grown hGa hle4 hlt4
    clear hGa
    have hsa := hMa.size
    have Hba : Hid (Below w3'.heap.size w3' wa) := Hb9.out.trans (hMa.below (by omega))
    have HFa : Hid (IsFs wa a1 M T1) := isFs_mid HF9.out HR9.out hMa (Nat.le_refl _)
    have HRa : Hid (OwnR wa w4.heap.size w5.heap.size a1 M (fun i => (T1 i).n) (fun i => (T1 i).cap)) := HR9.out.away hMa (.inl (Nat.le_refl _))
    have HRga : Hid (R2At wa w5.heap.size C (.slice a1 M cap1)) := HRg9.out.mid hMa (.inr hs5)
    have hqk : ¬ ((1 + n : Nat) : Int) < 0 := by omega
    generalize ((1 + n : Nat) : Int) = qk at *
    clear hMa HF9 HR9 HT9 HRg9 Hb9
    obtain ⟨g0, g1⟩ := HRga.out
    obtain ⟨p0, p1⟩ := HR0.out.below Hba.out
    go_wp2_with fail
    refine (eqFeaturesResult_any C a1 a0 M cap1 cap0 T1 S0 wa HFa.out (HF3.out.below Hba.out) HSM.out hMn HNS.out).mono ?_
    rintro e wb ⟨rfl, hbb⟩
    have hsb := hbb.size
    have HRb : Hid (OwnR wb w4.heap.size w5.heap.size a1 M (fun i => (T1 i).n) (fun i => (T1 i).cap)) := HRa.out.below hbb
    have HRgb : Hid (R2At wb w5.heap.size C (.slice a1 M cap1)) := HRga.out.below hbb
    have Hbb : Hid (Below w3'.heap.size w3' wb) := bl_then Hba.out hbb
    clear g0 g1 p0 p1 hbb HFa HRa HRga Hba
    obtain ⟨g0, g1⟩ := HRgb.out
    have hqm : ¬ ((kS (fun i => (T1 i).n) 1 M : Nat) : Int) < 0 := by omega
    have Hmark : Hid (Calls Try.prog 20 #[.agg #[.int .i64 C, .slice a1 M cap1], .int .i64 1] wb fun e w' => e = .returned (.int .i64 ((kS (fun i => (T1 i).n) 1 M : Nat) : Int)) ∧ MidB w4.heap.size w5.heap.size wb w' ∧ MarkR w' a1 M (fun i => (T1 i).n) (fun i => (T1 i).cap)) := markFeaturesResult_any _ _ C a1 M cap1 _ _ wb HRb.out hMn HNT.out
    have Hheld : Hid (∀ w, MarkR w a1 M (fun i => (T1 i).n) (fun i => (T1 i).cap) → Calls Try.prog 21 #[.agg #[.int .i64 C, .slice a1 M cap1], .int .i64 1] w fun e w' => e = .returned (.int .i64 ((kS (fun i => (T1 i).n) 1 M : Nat) : Int)) ∧ Below w.heap.size w w') := fun w h => heldFeaturesResult_any C a1 M cap1 _ _ w h hMn HNT.out
    generalize ((kS (fun i => (T1 i).n) 1 M : Nat) : Int) = qm at *
    go_wp2_with fail
    -- the answer is marked
    refine Calls.mono Hmark.out ?_
    rintro e wc ⟨rfl, hMc, hKc⟩
    have hsc := hMc.size
    have Hbc : Hid (Below w3'.heap.size w3' wc) := Hbb.out.trans ((hMc.below (by omega)).mono (by omega))
    have HRgc : Hid (R2At wc w5.heap.size C (.slice a1 M cap1)) := HRgb.out.mid hMc (.inr (Nat.le_refl _))
    have HKc : Hid (MarkR wc a1 M (fun i => (T1 i).n) (fun i => (T1 i).cap)) := hKc
    clear g0 g1 hMc hKc HRb HRgb Hbb Hmark
    obtain ⟨g0, g1⟩ := HRgc.out
    go_wp2_with fail
    refine (Hheld.out _ HKc.out).mono ?_
    rintro e wd ⟨rfl, hbd⟩
    have hsd := hbd.size
    have Hbd : Hid (Below w3'.heap.size w3' wd) := bl_then Hbc.out hbd
    have HRgd : Hid (R2At wd w5.heap.size C (.slice a1 M cap1)) := HRgc.out.below hbd
    have HKd : Hid (MarkR wd a1 M (fun i => (T1 i).n) (fun i => (T1 i).cap)) := HKc.out.below hbd
    clear g0 g1 hbd HRgc HKc Hbc
    go_wp2_with fail
    -- once more
    refine (toByteS_own a n cap Z _ (HI.out.below (bl_then HB3.out Hbd.out)) hn).mono ?_
    rintro e we ⟨be, rfl, hlee, hlte, hpe, hte, hbe⟩
    have HPe : Hid (BsAt we be 0 n Z) := hpe
    have Hbe : Hid (Below wd.heap.size wd we) := hbe
    clear hpe hte hbe
    go_wp2_with fail
    refine (Hi.out _ _ HPe.out hlte).mono ?_
    rintro e wf ⟨af, capf, Tf, rfl, hFf, htf, _, hbf⟩
    have hbdf := bl_then Hbe.out hbf
    have hsf := hbdf.size
    have Hbf : Hid (Below w3'.heap.size w3' wf) := bl_then Hbd.out hbdf
    have HRgf : Hid (R2At wf w5.heap.size C (.slice a1 M cap1)) := HRgd.out.below hbdf
    have HKf : Hid (MarkR wf a1 M (fun i => (T1 i).n) (fun i => (T1 i).cap)) := HKd.out.below hbdf
    have HFf : Hid (IsFs wf af M Tf) := hFf
    have HSf : Hid (∀ i, i < M → (Tf i).same (S0 i)) := fun i hi => Feat.same_trans (htf i hi) (Feat.same_symm (HS0.out i hi))
    clear hbf hFf htf HPe Hbe hbdf HRgd HKd Hbd
    obtain ⟨p0, p1⟩ := HR0.out.below Hbf.out
    have hpf : w3.heap.size < wf.heap.size := by omega
    go_wp2_with fail
    generalize hWg : (wf.alloc _ : World) = wg
    have hbg : Below wf.heap.size wf wg := by subst hWg; (repeat (first | exact Below.refl _ _ | assumption | refine Below.drew ?_ | refine bl_alloc ?_ _ | refine bl_then ?_ (by assumption) | refine Below.setCell ?_ (by first | omega | (simp; done) | (simp; omega)) _ | refine bl_store ?_ ?_ _ _))
    clear hWg p0 p1
    refine (eqFeaturesResult_any C af a0 M capf cap0 Tf S0 wg (HFf.out.below hbg) (HF3.out.below (bl_then Hbf.out hbg)) HSf.out hMn HNS.out).mono ?_
    rintro e wh ⟨rfl, hbh⟩
    have hbfh := bl_then hbg hbh
    have Hbh : Hid (Below w3'.heap.size w3' wh) := bl_then Hbf.out hbfh
    have HKh : Hid (MarkR wh a1 M (fun i => (T1 i).n) (fun i => (T1 i).cap)) := HKf.out.below hbfh
    obtain ⟨g0, g1⟩ := HRgf.out.below hbfh
    clear hbg hbh hbfh HRgf HKf Hbf HFf
    go_wp2_with fail
    refine (Hheld.out _ HKh.out).mono ?_
    rintro e wi ⟨rfl, hbi⟩
    have HBi : Hid (Below w.heap.size w wi) := bl_then HB3.out (bl_then Hbh.out hbi)
    clear hbi g0 g1
    go_wp2
    go_ret
    exact ⟨rfl, HBi.out⟩
end Go.Proofs.Ytcbpaockahkakaa
/- How a list of bytes that came in is read. -/

namespace Go.Proofs.Ytcbpaockahkakaa
open Go.ChangeShapes Go.WideShapes Go.ChangeAt Go.RowKit
set_option linter.unusedVariables false

theorem own : ownKnob Try.prog.godebug = none := by kernel_rfl
theorem laidOut : laidOutB Try.prog = true := by kernel_rfl

set_option maxRecDepth 100000 in
theorem open_bytes {H : Type} {enc : TypeId × Value → H} {w : World} {base b0 : Nat} {held : Bool} {r : Reach} {v : Value} {d : DataW H} {p : List MemPlace}
    (hv : Value.okWide Try.prog w r b0 22 v) (h : DataW.Trod enc Try.prog w base (fun _ => true) held 22 v d p) :
    ∃ (a : Option Addr) (n cap : Nat) (Z : Nat → Int), v = .slice a n cap ∧ IsBytes w a n Z ∧ (∀ i, 0 ≤ Z i ∧ Z i ≤ 255) ∧ n ≤ cap := by
  obtain ⟨a, len, cap, rfl⟩ := okWide_slice Try.underlying22 hv
  obtain ⟨fuel, hf⟩ := h
  rcases open_ints Try.underlying22 Try.underlying5 (by kernel_rfl) hf with ⟨hcs, _⟩ | ⟨x, l, c, zs, hcs, _, hl, hm, hz, _, hcell, hwz⟩
  · simp [Value.cells] at hcs
    obtain ⟨rfl, rfl, rfl⟩ := hcs
    exact ⟨none, 0, 0, fun _ => 0, rfl, .inl rfl, fun _ => ⟨Int.le_refl _, by show (0 : Int) ≤ 255; omega⟩, Nat.le_refl _⟩
  · simp [Value.cells] at hcs
    obtain ⟨rfl, rfl, rfl⟩ := hcs
    have hz' : zs.length = cap := by simpa using hz
    refine ⟨some x, len, cap, fun i => zs.getD i 0, rfl, ?_, fun i => ?_, hl⟩
    · by_cases h0 : len = 0
      · exact .inl h0
      · right
        obtain ⟨b, off, spot⟩ := x
        have e0 := hcell 0 (by omega)
        have hspot : spot = none := by simpa [Addr.add] using World.cell?_spot e0
        subst hspot
        refine ⟨b, off, rfl, ?_, fun i hi => ?_⟩
        · have := World.block_lt_of_cell? _ _ e0
          simpa [Addr.add] using this
        · have := hcell i (by omega)
          have e : (⟨b, off, none⟩ : Addr).add i = ⟨b, off + i, none⟩ := by
            unfold Addr.add
            by_cases h : i = 0 <;> simp [h]
          rw [e] at this
          exact this
    · by_cases hi : i < zs.length
      · have hw := hwz zs[i] (List.getElem_mem hi)
        simp [Lit.wf, IntKind.min, IntKind.max, IntKind.signed, IntKind.bits] at hw
        simp [List.getD, hi]
        omega
      · simp [List.getD, hi]
end Go.Proofs.Ytcbpaockahkakaa
