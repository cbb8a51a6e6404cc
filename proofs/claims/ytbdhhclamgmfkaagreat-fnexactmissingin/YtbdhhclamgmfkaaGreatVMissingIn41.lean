/- Several texts in one. -/
import Derived.Test.YtbdhhclamgmfkaaGreatVMissingIn40
import Derived.Test.YtbdhhclamgmfkaaGreatVMissingIn6
import Derived.Test.YtbdhhclamgmfkaaGreatVMissingIn19

/- MissingIn of both. -/

namespace Go.Proofs.YtbdhhclamgmfkaaGreat
open Go.RowKit
set_option linter.unusedSimpArgs false
set_option linter.unusedVariables false
set_option maxRecDepth 100000

/-- What MissingIn tells. -/
noncomputable def misA (z x y wd ht now s : Int) (n : Nat) (A : Nat → Kp) (rn : Nat) (E : Nat → Req) (bad : Int) : List Req := if viewC z x y wd ht now s n A rn E bad = 0 then misL n A (visR z x y wd) (visM z x y wd ht) else []
theorem OwnT.nil (w : World) (base : Nat) (R : Rfs) : OwnT w base (.slice none 0 0) 0 R := ⟨none, 0, rfl, Nat.le_refl _, .inl rfl⟩
theorem resMi {T : Array Value} {Wf : World} {r : Nat} {c : Int} {v : Value} (hT : T[2]?.getD undef = .pointer (some ⟨r, 0, none⟩)) (h0 : Wf.cell? ⟨r, 0, none⟩ = some (.int .i64 c)) (h1 : Wf.cell? ⟨r, 1, none⟩ = some v) :
    (results Tryz.f9 T).run Tryz.prog Wf = .ok (.agg #[.int .i64 c, v]) Wf := by
  simp [results, Tryz.results9, go_sem, hT, h0, h1]
theorem resMs {T : Array Value} {Wf : World} {r : Nat} {c : Int} {v : Value} (hT : T[2]?.getD undef = .pointer (some ⟨r, 0, none⟩)) (h0 : Wf.cell? ⟨r, 0, none⟩ = some (.int .i64 c)) (h1 : Wf.cell? ⟨r, 1, none⟩ = some v) :
    (results Tryz.f7 T).run Tryz.prog Wf = .ok (.agg #[.int .i64 c, v]) Wf := by
  simp [results, Tryz.results7, go_sem, hT, h0, h1]
set_option maxHeartbeats 8000000 in
theorem impl_MissingIn_any (z x y wd ht now s : Int) (b n cap : Nat) (A : Nat → Kp) (ra : Option Addr) (rn rc : Nat) (E : Nat → Req) (bad : Int) (w : World) (ha : KoAt w b n A) (hs : SmallKs n A) (hcap : ∀ i, i < n → (A i).fn ≤ (A i).fc) (hnc : n ≤ cap) (hr : IsWs w ra rn E) (hrn : rn ≤ 1048576) (hrc : rn ≤ rc) :
    Calls Tryz.prog 9 #[vwV z x y wd ht now s (.slice (some ⟨b, 0, none⟩) n cap) (.slice ra rn rc) bad] w fun e w' => ∃ v, e = .returned (.agg #[.int .i64 (viewC z x y wd ht now s n A rn E bad), v]) ∧ OwnT w' w.heap.size v (misA z x y wd ht now s n A rn E bad).length (rfsOf (misA z x y wd ht now s n A rn E bad)) ∧ Below w.heap.size w w' := by
  obtain ⟨VC, hVC⟩ : ∃ VC, viewC z x y wd ht now s n A rn E bad = VC := ⟨_, rfl⟩
  have HF : Hid (∀ W, Below w.heap.size w W → Calls Tryz.prog 29 #[vwV z x y wd ht now s (.slice (some ⟨b, 0, none⟩) n cap) (.slice ra rn rc) bad] W fun e w' => ∃ p, e = .returned (.tuple #[.pointer (some ⟨p, 0, none⟩), .int .i64 VC]) ∧ Below W.heap.size W w' ∧ (VC = 0 → LkA w' W.heap.size p z x y wd ht now s n A ra rn rc bad)) := fun W h => lookerOf_any z x y wd ht now s b n cap A ra rn rc E bad VC W hVC (ha.below h) hs hcap hnc (hr.below h) hrn hrc
  have HC : Hid (VC = 0 → camB z x y wd ht = true ∧ ∀ j, j < n → kC A j = 0) := fun h => by
    obtain ⟨h1, h2⟩ := viewC_zero (hVC.trans h)
    exact ⟨h1, cacheC_zero h2⟩
  obtain ⟨L, hL⟩ : ∃ L, misA z x y wd ht now s n A rn E bad = L := ⟨_, rfl⟩
  have HL0 : Hid (VC = 0 → misL n A (visR z x y wd) (visM z x y wd ht) = L) := fun h => by
    rw [← hL]; unfold misA; rw [if_pos (hVC.trans h)]
  have HL1 : Hid (VC ≠ 0 → L = []) := fun h => by
    rw [← hL]; unfold misA; rw [if_neg (fun e => h (hVC.symm.trans e))]
  rw [hVC, hL]
  clear ha hs hcap hnc hr hVC hL
  go_enter Tryz.func9, Tryz.ntmps9
  go_wp2_with fail
  generalize hW : ((w.alloc _).alloc _ : World) = W
  have HB0 : Hid (Below w.heap.size w W) := by show Below _ _ _; subst hW; (repeat (first | exact Below.refl _ _ | assumption | refine Below.drew ?_ | refine bl_alloc ?_ _ | refine bl_then ?_ (by assumption) | refine Below.setCell ?_ (by first | omega | (simp; done) | (simp; omega)) _ | refine bl_store ?_ ?_ _ _))
  have HT : Hid (There W (w.heap.size + 1) 2) := by
    show There _ _ _
    subst hW
    have := there2r (w.alloc (.cells #[.int .i64 z, .int .i64 x, .int .i64 y, .int .i64 wd, .int .i64 ht, .int .i64 now, .int .i64 s, .slice (some ⟨b, 0, none⟩) n cap, .slice ra rn rc, .int .i64 bad] 41)) (.int .i64 0) (.slice none 0 0) 33
    simpa using this
  have hsz : w.heap.size + 1 < W.heap.size := by subst hW; simp
  clear hW
  refine Calls.mono (HF.out W HB0.out) ?_
  rintro e w1 ⟨p, rfl, hb1, hK1⟩
  have HK1 : Hid (VC = 0 → LkA w1 W.heap.size p z x y wd ht now s n A ra rn rc bad) := hK1
  have HB1 : Hid (Below w.heap.size w w1) := bl_then HB0.out hb1
  have HT1 : Hid (There w1 (w.heap.size + 1) 2) := HT.out.below hb1
  have hs1 : W.heap.size ≤ w1.heap.size := hb1.size
  clear hb1 hK1 HF HT HB0
  by_cases h0 : VC = 0
  case neg =>
    have hcb : (VC == 0) = false := by simpa using h0
    have HE := (show Hid _ from HL1.out h0)
    have hT' := HT1.out
    have t0 := hT'.cell 0 (by omega)
    have t1 := hT'.cell 1 (by omega)
    have f0 := (hT' 0 (by omega)).2
    have f1 := (hT' 1 (by omega)).2
    clear hT' HK1 HL0 HL1 HC h0
    go_wp2_with fail
    obtain ⟨q0, q1⟩ := set2_at (W := w1) (r := w.heap.size + 1) (i := 0) (j := 1) (u := .int .i64 VC) (v := .slice none 0 0) (by omega) (by rw [t0]; rfl) (by rw [t1]; rfl)
    refine bodyPost_ret (resMi rfl q0 q1) rfl ⟨_, rfl, ?_, (HB1.out.setCell (Nat.le_succ _) _).setCell (Nat.le_succ _) _⟩
    rw [HE.out]
    exact OwnT.nil _ _ _
  obtain ⟨hcam, hall⟩ := HC.out h0
  have HM : Hid (Calls Tryz.prog 30 #[.pointer (some ⟨p, 0, none⟩)] w1 fun e w' => ∃ v, e = .returned v ∧ RowS w1.heap.size w' v L ∧ Below w1.heap.size w1 w') := by
    have := missing_any W.heap.size p z x y wd ht now s n A ra rn rc bad w1 (HK1.out h0) hcam hall
    rw [HL0.out h0] at this
    exact this
  subst h0
  clear HK1 HL0 HL1 HC hcam hall
  go_wp2_with fail
  refine Calls.mono HM.out ?_
  rintro e w2 ⟨v, rfl, hR, hb2⟩
  obtain ⟨a2, c2, hv, hc2, _⟩ := hR.own
  have HO2 : Hid (OwnT w2 w1.heap.size v L.length (rfsOf L)) := hR.own
  subst hv
  have HB2 : Hid (Below w.heap.size w w2) := bl_then HB1.out hb2
  have hT2 := HT1.out.below hb2
  have t0 := hT2.cell 0 (by omega)
  have t1 := hT2.cell 1 (by omega)
  have f0 := (hT2 0 (by omega)).2
  have f1 := (hT2 1 (by omega)).2
  clear hR hb2 hT2 HM HB1 HT1
  go_wp2_with fail
  obtain ⟨q0, q1⟩ := set2_at (W := w2) (r := w.heap.size + 1) (i := 0) (j := 1) (u := .int .i64 0) (v := .slice a2 L.length c2) (by omega) (by rw [t0]; rfl) (by rw [t1]; rfl)
  refine bodyPost_ret (resMi rfl q0 q1) rfl ⟨_, rfl, ?_, (HB2.out.setCell (Nat.le_succ _) _).setCell (Nat.le_succ _) _⟩
  exact (HO2.out.set (B := w1.heap.size) (by omega) (Nat.le_refl _)).set (B := w.heap.size) (by omega) (by omega)
set_option maxHeartbeats 8000000 in
theorem spec_MissingIn_any (z x y wd ht now s : Int) (b n cap : Nat) (A : Nat → Kp) (ra : Option Addr) (rn rc : Nat) (E : Nat → Req) (bad : Int) (w : World) (ha : KoAt w b n A) (hs : SmallKs n A) (hr : IsWs w ra rn E) (hrn : rn ≤ 1048576) :
    Calls Tryz.prog 7 #[vwV z x y wd ht now s (.slice (some ⟨b, 0, none⟩) n cap) (.slice ra rn rc) bad] w fun e w' => ∃ v, e = .returned (.agg #[.int .i64 (viewC z x y wd ht now s n A rn E bad), v]) ∧ OwnT w' w.heap.size v (misA z x y wd ht now s n A rn E bad).length (rfsOf (misA z x y wd ht now s n A rn E bad)) ∧ Below w.heap.size w w' := by
  obtain ⟨VC, hVC⟩ : ∃ VC, viewC z x y wd ht now s n A rn E bad = VC := ⟨_, rfl⟩
  have HA : Hid (KoAt w b n A) := ha
  have HI : Hid (IsKs w (some ⟨b, 0, none⟩) n A) := ha.is
  have HS : Hid (SmallKs n A) := hs
  have HR : Hid (IsWs w ra rn E) := hr
  have HVC : Hid (viewC z x y wd ht now s n A rn E bad = VC) := hVC
  have HC : Hid (VC = 0 → camB z x y wd ht = true) := fun h => (viewC_zero (hVC.trans h)).1
  obtain ⟨L, hL⟩ : ∃ L, misA z x y wd ht now s n A rn E bad = L := ⟨_, rfl⟩
  have HL0 : Hid (VC = 0 → misL n A (visR z x y wd) (visM z x y wd ht) = L) := fun h => by
    rw [← hL]; unfold misA; rw [if_pos (hVC.trans h)]
  have HL1 : Hid (VC ≠ 0 → L = []) := fun h => by
    rw [← hL]; unfold misA; rw [if_neg (fun e => h (hVC.symm.trans e))]
  rw [hVC, hL]
  clear ha hs hr hVC hL
  go_enter Tryz.func7, Tryz.ntmps7
  go_wp2_with fail
  generalize hW : ((w.alloc _).alloc _ : World) = W
  have HB0 : Hid (Below w.heap.size w W) := by show Below _ _ _; subst hW; (repeat (first | exact Below.refl _ _ | assumption | refine Below.drew ?_ | refine bl_alloc ?_ _ | refine bl_then ?_ (by assumption) | refine Below.setCell ?_ (by first | omega | (simp; done) | (simp; omega)) _ | refine bl_store ?_ ?_ _ _))
  have HT : Hid (There W (w.heap.size + 1) 2) := by
    show There _ _ _
    subst hW
    have := there2r (w.alloc (.cells #[.int .i64 z, .int .i64 x, .int .i64 y, .int .i64 wd, .int .i64 ht, .int .i64 now, .int .i64 s, .slice (some ⟨b, 0, none⟩) n cap, .slice ra rn rc, .int .i64 bad] 41)) (.int .i64 0) (.slice none 0 0) 33
    simpa using this
  have HV : Hid (Blk W w.heap.size [.int .i64 z, .int .i64 x, .int .i64 y, .int .i64 wd, .int .i64 ht, .int .i64 now, .int .i64 s, .slice (some ⟨b, 0, none⟩) n cap, .slice ra rn rc, .int .i64 bad]) := by show Blk _ _ _; subst hW; exact (Blk.new w _ _).alloc (by simp) _
  have hsz : w.heap.size + 1 < W.heap.size := by subst hW; simp
  clear hW
  have HF := (show Hid _ from l13Fault_any _ z x y wd ht now s b n cap A ra rn rc E bad W HV.out (HA.out.below HB0.out) HS.out (HR.out.below HB0.out) hrn)
  rw [HVC.out] at HF
  refine Calls.mono HF.out ?_
  rintro e w1 ⟨rfl, hb1⟩
  have HB1 : Hid (Below w.heap.size w w1) := bl_then HB0.out hb1
  have HT1 : Hid (There w1 (w.heap.size + 1) 2) := HT.out.below hb1
  have HV1 : Hid (Blk w1 w.heap.size [.int .i64 z, .int .i64 x, .int .i64 y, .int .i64 wd, .int .i64 ht, .int .i64 now, .int .i64 s, .slice (some ⟨b, 0, none⟩) n cap, .slice ra rn rc, .int .i64 bad]) := HV.out.below HV.out.lt hb1
  have hs1 : W.heap.size ≤ w1.heap.size := hb1.size
  clear hb1 HF HT HB0 HV HVC
  by_cases h0 : VC = 0
  case neg =>
    have hcb : (VC == 0) = false := by simpa using h0
    have HE := (show Hid _ from HL1.out h0)
    have hT' := HT1.out
    have t0 := hT'.cell 0 (by omega)
    have t1 := hT'.cell 1 (by omega)
    have f0 := (hT' 0 (by omega)).2
    have f1 := (hT' 1 (by omega)).2
    clear hT' HL0 HL1 HC h0
    go_wp2_with fail
    obtain ⟨q0, q1⟩ := set2_at (W := w1) (r := w.heap.size + 1) (i := 0) (j := 1) (u := .int .i64 VC) (v := .slice none 0 0) (by omega) (by rw [t0]; rfl) (by rw [t1]; rfl)
    refine bodyPost_ret (resMs rfl q0 q1) rfl ⟨_, rfl, ?_, (HB1.out.setCell (Nat.le_succ _) _).setCell (Nat.le_succ _) _⟩
    rw [HE.out]
    exact OwnT.nil _ _ _
  have hcam := HC.out h0
  have HM : Hid (Calls Tryz.prog 25 #[.pointer (some ⟨w.heap.size, 0, none⟩)] w1 fun e w' => ∃ v, e = .returned v ∧ RowS w1.heap.size w' v L ∧ Below w1.heap.size w1 w') := by
    have := l13Missing_any w.heap.size z x y wd ht now s b n cap A ra rn rc bad w1 HV1.out (HI.out.below HB1.out) HS.out.1 hcam
    rw [HL0.out h0] at this
    exact this
  subst h0
  clear HL0 HL1 HC hcam
  go_wp2_with fail
  refine Calls.mono HM.out ?_
  rintro e w2 ⟨v, rfl, hR, hb2⟩
  obtain ⟨a2, c2, hv, hc2, _⟩ := hR.own
  have HO2 : Hid (OwnT w2 w1.heap.size v L.length (rfsOf L)) := hR.own
  subst hv
  have HB2 : Hid (Below w.heap.size w w2) := bl_then HB1.out hb2
  have hT2 := HT1.out.below hb2
  have t0 := hT2.cell 0 (by omega)
  have t1 := hT2.cell 1 (by omega)
  have f0 := (hT2 0 (by omega)).2
  have f1 := (hT2 1 (by omega)).2
  clear hR hb2 hT2 HM HB1 HT1
  go_wp2_with fail
  obtain ⟨q0, q1⟩ := set2_at (W := w2) (r := w.heap.size + 1) (i := 0) (j := 1) (u := .int .i64 0) (v := .slice a2 L.length c2) (by omega) (by rw [t0]; rfl) (by rw [t1]; rfl)
  refine bodyPost_ret (resMs rfl q0 q1) rfl ⟨_, rfl, ?_, (HB2.out.setCell (Nat.le_succ _) _).setCell (Nat.le_succ _) _⟩
  exact (HO2.out.set (B := w1.heap.size) (by omega) (Nat.le_refl _)).set (B := w.heap.size) (by omega) (by omega)
end Go.Proofs.YtbdhhclamgmfkaaGreat
/- A block that holds an answer with a code and one thing more. -/

namespace Go.Proofs.YtbdhhclamgmfkaaGreat
open Go.RowKit
end Go.Proofs.YtbdhhclamgmfkaaGreat
/- Marks of an answer with features. -/

namespace Go.Proofs.YtbdhhclamgmfkaaGreat
open Go.RowKit
set_option linter.unusedSimpArgs false
set_option linter.unusedVariables false
set_option maxRecDepth 100000

/-- An answer whose blocks lie from lo to hi. -/
def OwnR (w : World) (lo hi : Nat) (a : Option Addr) (m : Nat) (N C : Nat → Nat) : Prop := m = 0 ∨ ∃ g q, a = some ⟨g, 0, none⟩ ∧ OwnQ w lo hi g m N C q
theorem OwnR.away {w w' : World} {lo hi lo' hi' m : Nat} {a : Option Addr} {N C : Nat → Nat} (h : OwnR w lo hi a m N C) (hm : MidB lo' hi' w w') (ho : hi' ≤ lo ∨ hi ≤ lo') : OwnR w' lo hi a m N C := by
  rcases h with h | ⟨g, q, e, hq⟩
  · exact .inl h
  · exact .inr ⟨g, q, e, hq.away hm ho⟩
theorem markFs_none (a : Option Addr) (cap : Nat) (k : Int) (w : World) :
    Calls Tryz.prog 98 #[.slice a 0 cap, .int .i64 k] w fun e w' => e = .returned (.int .i64 k) ∧ w = w' := by
  go_enter Tryz.func98, Tryz.ntmps98
  go_wp2_with fail
  go_loopw [1, 5] (fun kk i wr => kk = .int .i64 k ∧ i = .int .i64 0 ∧ w = wr) (fun _ _ _ => 0)
  case atStart => exact ⟨rfl, rfl, rfl⟩
  case round =>
    obtain ⟨rfl, rfl, rfl⟩ := hrel
    go_wp2
    go_ret
    exact ⟨rfl, rfl⟩
end Go.Proofs.YtbdhhclamgmfkaaGreat
