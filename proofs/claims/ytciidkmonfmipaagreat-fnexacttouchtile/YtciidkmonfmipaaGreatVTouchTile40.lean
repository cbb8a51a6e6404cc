/- Several texts in one. -/
import Derived.Test.YtciidkmonfmipaaGreatVTouchTile35
import Derived.Test.YtciidkmonfmipaaGreatVTouchTile37

/- The shelf: a tile that is there is touched. -/

namespace Go.Proofs.YtciidkmonfmipaaGreat
open Go.RowKit
set_option linter.unusedSimpArgs false
set_option linter.unusedVariables false
set_option maxRecDepth 100000

/-- The cells that a touch reads. -/
def TouS (W : World) (p q mb : Nat) (z x y : Int) : Prop := W.cell? ⟨p, 2, none⟩ = some (.map (some mb)) ∧ W.cell? ⟨q, 0, none⟩ = some (.int .i64 z) ∧ W.cell? ⟨q, 1, none⟩ = some (.int .i64 x) ∧ W.cell? ⟨q, 2, none⟩ = some (.int .i64 y)
theorem field_kept (z x y : Int) (fa : Option Addr) (fn fc : Nat) (ia : Option Addr) (m ic : Nat) (t : Int) (w : World) : (Instr.field 125 (agV z x y fa fn fc ia m ic t) 0).run Tryz.prog w = .ok (.agg #[.int .i64 z, .int .i64 x, .int .i64 y, .slice fa fn fc, .slice ia m ic]) w := by kernel_rfl
set_option maxHeartbeats 2000000 in
theorem ShM_touch (p mb : Nat) (s t : Int) (L : List Ag) (a : Ag) (w : World) (h : ShM w p s t mb L) (ha : a ∈ L) (ht : ∀ b ∈ L, b.t ≤ t) (hL : L.length ≤ 100) (ht0 : 0 ≤ t) (ht1 : t < 900) (hs : 0 ≤ s) :
    Calls Tryz.prog 44 #[.pointer (some ⟨p, 0, none⟩), refV a.z a.x a.y] w fun e w' => e = .returned (.tuple #[]) ∧ ShM w' p s (t + 1) mb (putL s L { a with t := t + 1 }) ∧ (∀ B, B ≤ p → B ≤ mb → Below B w w') ∧ ∀ q, q < w.heap.size → q ≠ p → q ≠ mb → w'.heap[q]? = w.heap[q]? := by
  have HM : Hid (ShM w p s t mb L) := h
  obtain ⟨h3, h4, D, h5, h6⟩ := h
  have hIa := h6.ints a ha
  have hpl : p < w.heap.size := World.block_lt_of_cell? _ _ h3.1
  have hml : mb < w.heap.size := h5.lt
  have HPut : Hid (∀ W', Below w.heap.size w W' → Calls Tryz.prog 33 #[.pointer (some ⟨p, 0, none⟩), .agg #[.int .i64 a.z, .int .i64 a.x, .int .i64 a.y, .slice a.fa a.fn a.fc, .slice a.ia a.m a.ic]] W' fun e w' => e = .returned (.tuple #[]) ∧ ShM w' p s (t + 1) mb (putL s L { a with t := t + 1 }) ∧ (∀ B, B ≤ p → B ≤ mb → Below B W' w') ∧ ∀ q, q < W'.heap.size → q ≠ p → q ≠ mb → w'.heap[q]? = W'.heap[q]?) := fun W' hb =>
    ShM_put p mb s t L ⟨a.z, a.x, a.y, a.fa, a.fn, a.fc, fun _ => ⟨0, 0, 0, 0, none, 0, 0, fun _ => 0, fun _ => 0, ⟨#[]⟩, 0⟩, a.ia, a.m, a.ic, fun _ => 0⟩ W' ⟨h3.below hb, h4.below hb, D, ownsMap_below h5 hb, h6⟩ hIa ht hL ht0 ht1 hs
  have HLk : Hid (∀ W, Below w.heap.size w W → (Instr.lookup 103 (.map (some mb)) (refV a.z a.x a.y) false).run Tryz.prog W = .ok (agW a) W) := fun W hW => by
    obtain ⟨v, ps, hr, hv⟩ := (ownsMap_below h5 hW).lookup keyed_ref Tryz.underlying103 (zero_aged _) (RV_mk 0 0 0 none 0 0 none 0 0 0) (key_ref hIa.1 hIa.2.1 hIa.2.2)
    rw [h6.at_ a ha] at hv
    obtain ⟨e, _⟩ := RV_inv hv
    injection e with e
    rw [e]
    exact hr
  have hfd := fun w => field_kept a.z a.x a.y a.fa a.fn a.fc a.ia a.m a.ic a.t w
  have HA : Hid (ShA w p s t mb) := h3
  clear h3 h4 h5 h6 HM hIa ht ha
  go_enter Tryz.func44, Tryz.ntmps44
  go_wp2_with fail
  generalize hW : (w.alloc _ : World) = W
  have HB0 : Hid (Below w.heap.size w W) := by show Below _ _ _; subst hW; (repeat (first | exact Below.refl _ _ | assumption | refine Below.drew ?_ | refine bl_alloc ?_ _ | refine bl_then ?_ (by assumption) | refine Below.setCell ?_ (by first | omega | (simp; done) | (simp; omega)) _ | refine bl_store ?_ ?_ _ _))
  have HR : Hid (RK W w.heap.size a.z a.x a.y) := by show RK _ _ _ _ _; subst hW; refine ⟨?_, ?_, ?_⟩ <;> simp [go_sem]
  clear hW
  have HS : Hid (TouS W p w.heap.size mb a.z a.x a.y) := ⟨(HA.out.below HB0.out).2.2, HR.out.1, HR.out.2.1, HR.out.2.2⟩
  have hql : w.heap.size < W.heap.size := World.block_lt_of_cell? _ _ HR.out.1
  refine wp_region_noPanic ?_
  refine wp_region_held_drew (S := fun W' => TouS W' p w.heap.size mb a.z a.x a.y) (by kernel_rfl) HS.out (fun hHeld => ?_)
  have hSd : TouS W.drew p w.heap.size mb a.z a.x a.y := HS.out
  refine takeD (i := 0) (d := some 4) (v := ?va0) rfl rfl (by kernel_rfl) (by kernel_rfl) (by kernel_rfl) (fun _ _ _ h => h) (Or.inl ⟨by rfl, ?hya0⟩) (by assumption) ?_
  case hya0 => (intro w hSw; obtain ⟨k0, k1, k2, k3⟩ := (show TouS w p _ mb _ _ _ from hSw); go_simp <;> with_reducible rfl)
  try simp only [Act.put, List.setIfInBounds_toArray, List.set_cons_zero, List.set_cons_succ]
  refine takeD (i := 1) (d := some 5) (v := ?va1) rfl rfl (by kernel_rfl) (by kernel_rfl) (by kernel_rfl) (fun _ _ _ h => h) (Or.inl ⟨by rfl, ?hya1⟩) (by assumption) ?_
  case hya1 => (intro w hSw; obtain ⟨k0, k1, k2, k3⟩ := (show TouS w p _ mb _ _ _ from hSw); go_simp <;> with_reducible rfl)
  try simp only [Act.put, List.setIfInBounds_toArray, List.set_cons_zero, List.set_cons_succ]
  refine takeD (i := 2) (d := some 6) (v := ?va2) rfl rfl (by kernel_rfl) (by kernel_rfl) (by kernel_rfl) (fun _ _ _ h => h) (Or.inl ⟨by rfl, ?hya2⟩) (by assumption) ?_
  case hya2 => (intro w hSw; obtain ⟨k0, k1, k2, k3⟩ := (show TouS w p _ mb _ _ _ from hSw); go_simp <;> with_reducible rfl)
  try simp only [Act.put, List.setIfInBounds_toArray, List.set_cons_zero, List.set_cons_succ]
  refine takeD (i := 3) (d := some 7) (v := ?va3) rfl rfl (by kernel_rfl) (by kernel_rfl) (by kernel_rfl) (fun _ _ _ h => h) (Or.inl ⟨by rfl, ?hya3⟩) (by assumption) ?_
  case hya3 => (intro w hSw; obtain ⟨k0, k1, k2, k3⟩ := (show TouS w p _ mb _ _ _ from hSw); go_simp <;> with_reducible rfl)
  try simp only [Act.put, List.setIfInBounds_toArray, List.set_cons_zero, List.set_cons_succ]
  refine takeD (i := 4) (d := some 8) (v := ?va4) rfl rfl (by kernel_rfl) (by kernel_rfl) (by kernel_rfl) (fun _ _ _ h => h) (Or.inl ⟨by rfl, ?hya4⟩) (by assumption) ?_
  case hya4 => (intro w hSw; obtain ⟨k0, k1, k2, k3⟩ := (show TouS w p _ mb _ _ _ from hSw); go_simp <;> with_reducible rfl)
  try simp only [Act.put, List.setIfInBounds_toArray, List.set_cons_zero, List.set_cons_succ]
  refine takeD (i := 5) (d := some 9) (v := ?va5) rfl rfl (by kernel_rfl) (by kernel_rfl) (by kernel_rfl) (fun _ _ _ h => h) (Or.inl ⟨by rfl, ?hya5⟩) (by assumption) ?_
  case hya5 => (intro w hSw; obtain ⟨k0, k1, k2, k3⟩ := (show TouS w p _ mb _ _ _ from hSw); go_simp <;> with_reducible rfl)
  try simp only [Act.put, List.setIfInBounds_toArray, List.set_cons_zero, List.set_cons_succ]
  have hD0 : Below W.heap.size W W.drew := by have := Below.refl W.heap.size W; (repeat (first | exact Below.refl _ _ | assumption | refine Below.drew ?_ | refine bl_alloc ?_ _ | refine bl_then ?_ (by assumption) | refine Below.setCell ?_ (by first | omega | (simp; done) | (simp; omega)) _ | refine bl_store ?_ ?_ _ _))
  generalize W.drew = wk0 at *
  have hlk := HLk.out wk0 (bl_then HB0.out hD0)
  refine wpAnyH_ready (rs := [6]) (by kernel_rfl) (by simp) ?_
  refine (AllReadyH.cons rfl (fun K hK => ?_) AllReadyH.nil)
  rw [if_pos (by rfl)]
  go_simp
  refine hK.out _ _ hSd (fun hHeld => ?_)
  clear hK K hlk
  try simp only [Act.put, List.setIfInBounds_toArray, List.set_cons_zero, List.set_cons_succ]
  refine takeD (i := 7) (d := some 11) (v := ?vb7) rfl rfl (by kernel_rfl) (by kernel_rfl) (by kernel_rfl) (fun _ _ _ h => h) (Or.inl ⟨by rfl, ?hyb7⟩) (by assumption) ?_
  case hyb7 => (intro w hSw; skip; go_simp <;> with_reducible rfl)
  try simp only [Act.put, List.setIfInBounds_toArray, List.set_cons_zero, List.set_cons_succ]
  refine wpAnyH_ready (rs := [8]) (by kernel_rfl) (by simp) ?_
  refine (AllReadyH.cons rfl (fun K hK => ?_) AllReadyH.nil)
  rw [if_pos (by rfl)]
  go_simp
  refine Calls.mono (HPut.out _ (bl_then HB0.out hD0)) ?_
  rintro e wk1 ⟨rfl, g1, g2, g3⟩
  have hz0 := hD0.size
  have hS1 : TouS wk1 p w.heap.size mb a.z a.x a.y := by
    obtain ⟨k0, k1, k2, k3⟩ := hSd
    have hq := g3 w.heap.size (by omega) (by omega) (by omega)
    exact ⟨g1.1.2.2, (World.cell?_of_block (w := wk0) (a := ⟨w.heap.size, 0, none⟩) hq).trans k1, (World.cell?_of_block (w := wk0) (a := ⟨w.heap.size, 1, none⟩) hq).trans k2, (World.cell?_of_block (w := wk0) (a := ⟨w.heap.size, 2, none⟩) hq).trans k3⟩
  have HF : Hid (ShM wk1 p s (t + 1) mb (putL s L { a with t := t + 1 }) ∧ (∀ B, B ≤ p → B ≤ mb → Below B w wk1) ∧ ∀ q, q < w.heap.size → q ≠ p → q ≠ mb → wk1.heap[q]? = w.heap[q]?) := ⟨g1, fun B b1 b2 => ((bl_then HB0.out hD0).mono (by omega)).trans (g2 B b1 b2), fun q q1 q2 q3 => (g3 q (by omega) q2 q3).trans ((bl_then HB0.out hD0).block q q1)⟩
  clear g1 g2 g3
  go_wp2_with fail
  refine hK.out _ _ hS1 (fun hHeld => ?_)
  clear hK K
  try simp only [Act.put, List.setIfInBounds_toArray, List.set_cons_zero, List.set_cons_succ]
  refine wpAnyH_done (by kernel_rfl) ?_ _
  refine NoPanic.normal ?_
  clear hS1 hSd
  go_wp2_with fail
  refine bodyPost_end (v := .tuple #[]) (by simp [results, Tryz.results44, go_sem]) rfl ?_
  exact ⟨rfl, HF.out⟩
end Go.Proofs.YtciidkmonfmipaaGreat
/- A tile of a cache is touched: the program. -/

namespace Go.Proofs.YtciidkmonfmipaaGreat
open Go.RowKit
set_option linter.unusedSimpArgs false
set_option linter.unusedVariables false
set_option maxRecDepth 100000

/-- The places of all tiles, that of a ref behind all others. -/
def touI (n : Nat) (A : Nat → Kp) (z x y : Int) : List Nat := lessI n A z x y ++ [(atK n A z x y).toNat]
theorem Shf_touch (B p : Nat) (s t : Int) (L : List Ag) (a : Ag) (w : World) (h : Shf w B p s t L) (ha : a ∈ L) (ht : ∀ b ∈ L, b.t ≤ t) (hL : L.length ≤ 100) (ht0 : 0 ≤ t) (ht1 : t < 900) (hs : 0 ≤ s) :
    Calls Tryz.prog 44 #[.pointer (some ⟨p, 0, none⟩), refV a.z a.x a.y] w fun e w' => e = .returned (.tuple #[]) ∧ Shf w' B p s (t + 1) (putL s L { a with t := t + 1 }) ∧ Below B w w' := by
  obtain ⟨mb, h1, h2, h3⟩ := h.m
  exact (ShM_touch p mb s t L a w h3 ha ht hL ht0 ht1 hs).mono fun e w' ⟨g1, g2, g3, _⟩ => ⟨g1, g2.f h1 h2, g3 B h1 h2⟩
theorem resTo {T : Array Value} {Wf : World} {r : Nat} {c s : Int} {v : Value} (hT : T[4]?.getD undef = .pointer (some ⟨r, 0, none⟩)) (h0 : Wf.cell? ⟨r, 0, none⟩ = some (.int .i64 c)) (h1 : Wf.cell? ⟨r, 1, none⟩ = some (.int .i64 s)) (h2 : Wf.cell? ⟨r, 2, none⟩ = some v) :
    (results Tryz.f21 T).run Tryz.prog Wf = .ok (crcV c s v) Wf := by
  simp [results, Tryz.results21, go_sem, hT, h0, h1, h2]
set_option maxHeartbeats 4000000 in
theorem impl_TouchTile_any (s : Int) (b n cap : Nat) (A : Nat → Kp) (z x y : Int) (w : World) (ha : KoAt w b n A) (hs : SmallKs n A) (hcap : ∀ i, i < n → (A i).fn ≤ (A i).fc) (hnc : n ≤ cap) (hI : I64 z ∧ I64 x ∧ I64 y) :
    Calls Tryz.prog 21 #[caV s (.slice (some ⟨b, 0, none⟩) n cap), refV z x y] w fun e w' => (withC s n A z x y ≠ 0 → e = .returned (crcV (withC s n A z x y) 0 (.slice none 0 0))) ∧ (withC s n A z x y = 0 → ∃ a c R, e = .returned (crcV 0 s (.slice a (touI n A z x y).length c)) ∧ CaNew w' w.heap.size a (touI n A z x y).length (fun j => A ((touI n A z x y).getD j 0)) R) ∧ Below w.heap.size w w' := by
  have HF : Hid (∀ W, Below w.heap.size w W → Calls Tryz.prog 43 #[caV s (.slice (some ⟨b, 0, none⟩) n cap), refV z x y] W fun e w' => ∃ p, e = .returned (.tuple #[.pointer (some ⟨p, 0, none⟩), .int .i64 (withC s n A z x y)]) ∧ Below W.heap.size W w' ∧ (cacheC s n A = 0 → ShK w' W.heap.size p s n A)) := fun W h => shelfWith_any s b n cap A z x y W (ha.below h) hs hcap hnc hI.1 hI.2.1 hI.2.2
  have HA : Hid (KoAt w b n A) := ha
  have HS : Hid (SmallKs n A) := hs
  have HI : Hid (I64 z ∧ I64 x ∧ I64 y) := hI
  clear ha hs hcap hnc hI
  go_enter Tryz.func21, Tryz.ntmps21
  go_wp2_with fail
  generalize hW : (((w.alloc _).alloc _).alloc _ : World) = W
  have HB0 : Hid (Below w.heap.size w W) := by show Below _ _ _; subst hW; (repeat (first | exact Below.refl _ _ | assumption | refine Below.drew ?_ | refine bl_alloc ?_ _ | refine bl_then ?_ (by assumption) | refine Below.setCell ?_ (by first | omega | (simp; done) | (simp; omega)) _ | refine bl_store ?_ ?_ _ _))
  have HR : Hid (RK W (w.heap.size + 1) z x y) := by show RK _ _ _ _ _; subst hW; refine ⟨?_, ?_, ?_⟩ <;> simp [go_sem]
  have HT : Hid (There W (w.heap.size + 2) 3) := by
    show There _ _ _
    subst hW
    have := there3r ((w.alloc (.cells #[.int .i64 s, .slice (some ⟨b, 0, none⟩) n cap] 34)).alloc (.cells #[.int .i64 z, .int .i64 x, .int .i64 y] 39)) (.int .i64 0) (.int .i64 0) (.slice none 0 0) 36
    simpa using this
  have hsz : w.heap.size + 2 < W.heap.size := by subst hW; simp
  clear hW
  refine Calls.mono (HF.out W HB0.out) ?_
  rintro e w1 ⟨p, rfl, hb1, hK1⟩
  have HB1 : Hid (Below W.heap.size W w1) := hb1
  have HT1 : Hid (There w1 (w.heap.size + 2) 3) := HT.out.below hb1
  have HK1 : Hid (cacheC s n A = 0 → ShK w1 W.heap.size p s n A) := hK1
  obtain ⟨r0, r1, r2⟩ := HR.out.below hb1
  clear hb1 hK1 HF HT
  by_cases hc : withC s n A z x y = 0
  · have h0 : cacheC s n A = 0 := by
      unfold withC at hc
      by_cases h : cacheC s n A = 0
      · exact h
      · rw [if_neg h] at hc; exact absurd hc h
    have hall := cacheC_zero h0
    have hn10 : n ≤ 10 := by
      unfold cacheC at h0
      split at h0
      · rename_i hin
        split at h0
        · cases h0
        · rename_i hsn
          simp [inB] at hin
          omega
      · cases h0
    have HSf : Hid (Shf w1 W.heap.size p s (n : Int) (agL A n)) := (HK1.out h0).shf hall
    have HSr : Hid (∀ i, i < n → SrcK w (A i)) := fun i hi => SrcK_of HA.out HS.out hi (kC_zero (hall i hi)).1
    have hat : 0 ≤ atK n A z x y := by
      unfold withC at hc
      rw [if_pos h0] at hc
      by_cases h : 0 ≤ atK n A z x y
      · exact h
      · rw [if_neg h] at hc; cases hc
    have hns : (n : Int) ≤ s := by
      unfold cacheC at h0
      split at h0
      · split at h0
        · cases h0
        · omega
      · cases h0
    obtain ⟨q, hqn, hqa, e1, e2, e3⟩ : ∃ q : Nat, q < n ∧ atK n A z x y = (q : Int) ∧ (A q).z = z ∧ (A q).x = x ∧ (A q).y = y := by
      rcases firstI_or (fun i => isK (A i) z x y) n with ⟨g1, _⟩ | ⟨i, hi, hg, hf, _⟩
      · unfold atK at hat; rw [g1] at hat; omega
      · exact ⟨i, hi, hf, isK_iff.1 hg⟩
    have hTL : putL s (agL A n) { agK (A q) ((q : Int) + 1) with t := (n : Int) + 1 } = (lessI n A z x y).map (fun i => agK (A i) ((i : Int) + 1)) ++ [agK (A q) ((n : Int) + 1)] := by
      obtain ⟨D, hRp⟩ : ∃ D, Rep D (agL A n) := ⟨_, shD_rep n hall⟩
      have hl : (lessL (agL A n) z x y).length + 1 = (agL A n).length := lessL_len hRp.keys ⟨agK (A q) ((q : Int) + 1), agL_mem.2 ⟨q, hqn, rfl⟩, isA_iff.2 ⟨e1, e2, e3⟩⟩
      rw [agL_len] at hl
      unfold putL
      have ez : ({ agK (A q) ((q : Int) + 1) with t := (n : Int) + 1 } : Ag) = agK (A q) ((n : Int) + 1) := rfl
      rw [ez]
      have ea : lessL (agL A n) (agK (A q) ((n : Int) + 1)).z (agK (A q) ((n : Int) + 1)).x (agK (A q) ((n : Int) + 1)).y = lessL (agL A n) z x y := by
        show lessL (agL A n) (A q).z (A q).x (A q).y = _
        rw [e1, e2, e3]
      rw [ea, if_pos (by rw [List.length_append]; simp; omega), lessL_agL]
    have HQ : Hid (Calls Tryz.prog 44 #[.pointer (some ⟨p, 0, none⟩), refV z x y] w1 fun e w' => e = .returned (.tuple #[]) ∧ Shf w' W.heap.size p s ((n : Int) + 1) ((lessI n A z x y).map (fun i => agK (A i) ((i : Int) + 1)) ++ [agK (A q) ((n : Int) + 1)]) ∧ Below W.heap.size w1 w') := by
      have := Shf_touch W.heap.size p s (n : Int) (agL A n) (agK (A q) ((q : Int) + 1)) w1 HSf.out (agL_mem.2 ⟨q, hqn, rfl⟩) (fun b hb => by
        obtain ⟨i, hi, rfl⟩ := agL_mem.1 hb
        show (i : Int) + 1 ≤ (n : Int)
        omega) (by rw [agL_len]; omega) (by omega) (by omega) (by omega)
      rw [hTL] at this
      have ez : refV (agK (A q) ((q : Int) + 1)).z (agK (A q) ((q : Int) + 1)).x (agK (A q) ((q : Int) + 1)).y = refV z x y := by
        show refV (A q).z (A q).x (A q).y = _
        rw [e1, e2, e3]
      rw [ez] at this
      exact this
    have hTI : touI n A z x y = lessI n A z x y ++ [q] := by unfold touI; rw [hqa]; simp
    have HTI : Hid (touI n A z x y = lessI n A z x y ++ [q]) := hTI
    have HC : Hid (withC s n A z x y = 0) := hc
    rw [hc]
    clear hc h0 hall HK1 HSf hat hns hTL hTI e1 e2 e3 hqa
    go_wp2_with fail
    refine Calls.mono HQ.out ?_
    rintro e w2 ⟨rfl, hS2, hb2⟩
    have HB2 : Hid (Below W.heap.size W w2) := HB1.out.trans hb2
    have HT2 : Hid (There w2 (w.heap.size + 2) 3) := HT1.out.belowK hb2 hsz
    have HBw2 : Hid (Below w.heap.size w w2) := HB0.out.trans (HB2.out.mono (by omega))
    have hll : ((lessI n A z x y).map (fun i => agK (A i) ((i : Int) + 1)) ++ [agK (A q) ((n : Int) + 1)]).length = (touI n A z x y).length := by rw [HTI.out]; simp
    have hl10 := lessI_len n A z x y
    have hl11 : (touI n A z x y).length ≤ 11 := by rw [HTI.out, List.length_append]; simp; omega
    have HCa := (show Hid _ from shelfCache_any W.heap.size p s ((n : Int) + 1) ((lessI n A z x y).map (fun i => agK (A i) ((i : Int) + 1)) ++ [agK (A q) ((n : Int) + 1)]) (fun j => A ((touI n A z x y).getD j 0)) w2 hS2 (by omega)
      (fun i a hi => by
        by_cases hil : i < (lessI n A z x y).length
        · rw [List.getElem?_append_left (by simpa using hil), List.getElem?_map, List.getElem?_eq_getElem hil] at hi
          simp at hi
          refine ⟨(((lessI n A z x y)[i] : Nat) : Int) + 1, ?_⟩
          rw [HTI.out]
          simp [List.getD_eq_getElem?_getD, List.getElem?_append_left hil, hil, hi]
        · rw [List.getElem?_append_right (by simp; omega)] at hi
          have hie : i = (lessI n A z x y).length := by
            have := (List.getElem?_eq_some_iff.1 hi).1
            simp at this
            omega
          have hi2 : agK (A q) ((n : Int) + 1) = a := by
            rw [hie] at hi
            simpa using hi
          refine ⟨(n : Int) + 1, ?_⟩
          rw [HTI.out, ← hi2]
          simp [List.getD_eq_getElem?_getD, hie])
      (fun i hi => by
        rw [hll] at hi
        have hm : (touI n A z x y).getD i 0 ∈ touI n A z x y := by
          rw [List.getD_eq_getElem?_getD, List.getElem?_eq_getElem hi]
          exact List.getElem_mem _
        have hmn : (touI n A z x y).getD i 0 < n := by
          rw [HTI.out] at hm ⊢
          rcases List.mem_append.1 hm with h | h
          · exact lessI_mem h
          · rw [List.mem_singleton.1 h]; exact hqn
        exact (HSr.out _ hmn).below HBw2.out))
    rw [hll] at HCa
    clear hS2 hb2 r0 r1 r2 HQ
    go_wp2_with fail
    refine Calls.mono HCa.out ?_
    rintro e w3 ⟨a, c, R, rfl, hN, hb3⟩
    have hT3 := HT2.out.below hb3
    have HT3 : Hid (There w3 (w.heap.size + 2) 3) := hT3
    have t0 := hT3.cell 0 (by omega)
    have t1 := hT3.cell 1 (by omega)
    have t2 := hT3.cell 2 (by omega)
    have f0 := (hT3 0 (by omega)).2
    have f1 := (hT3 1 (by omega)).2
    have f2 := (hT3 2 (by omega)).2
    have HN : Hid (CaNew w3 w2.heap.size a (touI n A z x y).length (fun j => A ((touI n A z x y).getD j 0)) R) := hN
    have HB3 : Hid (Below w.heap.size w w3) := bl_then HBw2.out hb3
    have hs2 := HB2.out.size
    have hs3 := hb3.size
    clear hN hb3 hT3 HCa
    go_wp2_with fail
    obtain ⟨q0, q1, q2⟩ := set3_atq (a := .int .i64 0) (b := .int .i64 s) (c := .slice a (touI n A z x y).length c) HT3.out
    have hMM : MidB (w.heap.size + 2) (w.heap.size + 2 + 1) w3 (((w3.setCell ⟨w.heap.size + 2, 0, none⟩ (.int .i64 0)).setCell ⟨w.heap.size + 2, 1, none⟩ (.int .i64 s)).setCell ⟨w.heap.size + 2, 2, none⟩ (.slice a (touI n A z x y).length c)) := (((MidB.refl _ _ _).set (Nat.le_refl _) (Nat.lt_succ_self _) _ _).set (Nat.le_refl _) (Nat.lt_succ_self _) _ _).set (Nat.le_refl _) (Nat.lt_succ_self _) _ _
    refine bodyPost_ret (resTo rfl q0 q1 q2) rfl ⟨fun h => absurd HC.out h, fun _ => ⟨a, c, R, rfl, ?_⟩, HB3.out.trans ((hMM.below (by omega)).mono (by omega))⟩
    rcases HN.out with h0 | ⟨g, M, e, hg, c1, c2, c3, c4, c5⟩
    · exact .inl h0
    · refine .inr ⟨g, M, e, by omega, fun j hj => ?_, hMM.there c2 (.inr (by omega)), c3, fun j hj => ⟨(c4 j hj).1, (c4 j hj).2.mid hMM (by have := marks_le c4 j (by omega); omega)⟩, Nat.le_trans c5 hMM.size⟩
      obtain ⟨a0, a1, a2, a3, a4⟩ := c1 j hj
      exact ⟨hMM.cell a0 (.inr (by omega)), hMM.cell a1 (.inr (by omega)), hMM.cell a2 (.inr (by omega)), hMM.cell a3 (.inr (by omega)), hMM.cell a4 (.inr (by omega))⟩
  · have hcb : (withC s n A z x y == 0) = false := by simpa using hc
    have hT' := HT1.out
    have t0 := hT'.cell 0 (by omega)
    have t1 := hT'.cell 1 (by omega)
    have t2 := hT'.cell 2 (by omega)
    have f0 := (hT' 0 (by omega)).2
    have f1 := (hT' 1 (by omega)).2
    have f2 := (hT' 2 (by omega)).2
    have HBw : Hid (Below w.heap.size w w1) := bl_then HB0.out HB1.out
    have HC : Hid (withC s n A z x y ≠ 0) := hc
    clear hT' r0 r1 r2 HK1 hc
    generalize hrc : withC s n A z x y = rc at *
    go_wp2_with fail
    obtain ⟨q0, q1, q2⟩ := set3_atq (a := .int .i64 rc) (b := .int .i64 0) (c := .slice none 0 0) HT1.out
    refine bodyPost_ret (resTo rfl q0 q1 q2) rfl ⟨fun _ => by rw [hrc], fun h => absurd (hrc.symm.trans h) HC.out, ?_⟩
    exact ((HBw.out.setCell (leM _) _).setCell (leM _) _).setCell (leM _) _
end Go.Proofs.YtciidkmonfmipaaGreat
