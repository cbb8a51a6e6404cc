/- The raster of a tile as far as that of one above it has it: the whole of the program. -/
import Derived.Test.YtjkmjkfakolpfaaU8b
namespace Go.Proofs.Ytjkmjkfakolpfaa
open Go.RowKit
set_option linter.unusedSimpArgs false
set_option linter.unusedVariables false
set_option maxRecDepth 100000

theorem there2u (V : World) (a b : Value) (t : TypeId) : There (V.alloc (.cells #[a, b] t)) V.heap.size 2 := fun o ho => by
  have : o = 0 ∨ o = 1 := by omega
  rcases this with rfl | rfl <;> exact ⟨⟨_, by simp [go_sem]; rfl⟩, by simp [go_sem]⟩
theorem OwnN.set {w : World} {base r o : Nat} {v u : Value} {n : Nat} {Z : Nat → Int} (h : OwnN w base v n Z) (hr : r < base) : OwnN (w.setCell ⟨r, o, none⟩ u) base v n Z := by
  obtain ⟨a, cap, hv, hc, h0 | ⟨b, ha, hbb, hl, hp, ht⟩⟩ := h
  · exact ⟨a, cap, hv, hc, .inl h0⟩
  · refine ⟨a, cap, hv, hc, .inr ⟨b, ha, hbb, by simpa [World.setCell] using hl, fun i hi => ?_, fun o' ho => ⟨?_, ?_⟩⟩⟩
    · rw [set1_other (fun e => by injection e; omega)]; exact hp i hi
    · obtain ⟨x, hx⟩ := (ht o' ho).1
      exact ⟨x, by rw [set1_other (fun e => by injection e; omega)]; exact hx⟩
    · rw [World.frozen?_setCell]; exact (ht o' ho).2
theorem OwnN.widen {w : World} {base B : Nat} {v : Value} {n : Nat} {Z : Nat → Int} (h : OwnN w base v n Z) (hB : B ≤ base) : OwnN w B v n Z := by
  obtain ⟨a, cap, hv, hc, h0 | ⟨b, ha, hbb, hl, hp, ht⟩⟩ := h
  · exact ⟨a, cap, hv, hc, .inl h0⟩
  · exact ⟨a, cap, hv, hc, .inr ⟨b, ha, by omega, hl, hp, ht⟩⟩
theorem OwnN.nil (w : World) (base : Nat) (Z : Nat → Int) : OwnN w base (.slice none 0 0) 0 Z := ⟨none, 0, rfl, Nat.le_refl _, .inl rfl⟩
theorem or3_zero {x y z : Int} (h : or3 x y z = 0) : x = 0 ∧ y = 0 ∧ z = 0 := by
  unfold or3 at h
  split at h
  · split at h
    · exact ⟨by assumption, by assumption, h⟩
    · exact absurd h (by assumption)
  · exact absurd h (by assumption)
theorem enter_up1 (args : Array Value) (w : World) : (callFunc 30 args).run Try.prog w = .ok (.enter 30 args) w := by
  have h1 : (Try.f30).name ≠ "runtime.NumGoroutine" := by
    have : ((Try.f30).name == "runtime.NumGoroutine") = false := by kernel_rfl
    simpa using this
  have hb : ∃ c, (Try.f30).body = some c := ⟨_, rfl⟩
  obtain ⟨c, hb⟩ := hb
  simp [callFunc, Try.func30, h1, hb]
set_option maxHeartbeats 4000000 in
theorem impl_UpRaster_any (a : Option Addr) (n cap : Nat) (Z : Nat → Int) (fz fx fy tz tx ty : Int) (w : World) (hp : IsNs w a n Z) (hn : n ≤ 1048576) :
    Calls Try.prog 7 #[.slice a n cap, refV fz fx fy, refV tz tx ty] w fun e w' => ∃ v, e = .returned (.agg #[.int .i64 (upC n Z fz fx fy tz tx ty), v]) ∧ OwnN w' w.heap.size v (upL n Z fz fx fy tz tx ty).length (nz (upL n Z fz fx fy tz tx ty)) ∧ Below w.heap.size w w' := by
  have hmf : ∀ (fn : Fn) (first cap : Array Value) (w : World), (Instr.makeFunc fn first cap).run Try.prog w = .ok (.func fn first cap) w := fun _ _ _ _ => rfl
  have HP : Hid (IsNs w a n Z) := hp
  clear hp
  have HC : Hid (upC n Z fz fx fy tz tx ty = if rasC n Z = 0 then (if refC fz fx fy = 0 then (if refC tz tx ty = 0 then (if holdB fz fx fy tz tx ty = true then 0 else 1) else 3) else 3) else rasC n Z) := rfl
  have HN : Hid (upC n Z fz fx fy tz tx ty ≠ 0 → upL n Z fz fx fy tz tx ty = []) := fun h => by unfold upL; rw [if_neg h]
  go_enter Try.func7, Try.ntmps7
  go_wp2_with fail
  generalize hW : ((((w.alloc _).alloc _).alloc _).alloc _ : World) = W
  have HB0 : Hid (Below w.heap.size w W) := by show Below _ _ _; subst hW; (repeat (first | exact Below.refl _ _ | assumption | refine Below.drew ?_ | refine bl_alloc ?_ _ | refine bl_then ?_ (by assumption) | refine Below.setCell ?_ (by first | omega | (simp; done) | (simp; omega)) _ | refine bl_store ?_ ?_ _ _))
  have hsz : W.heap.size = w.heap.size + 4 := by subst hW; simp
  have HT : Hid (There W (w.heap.size + 3) 2) := by
    show There _ _ _
    subst hW
    have := there2u (((w.alloc (.cells #[.slice a n cap] 24)).alloc (.cells #[.int .i64 fz, .int .i64 fx, .int .i64 fy] 26)).alloc (.cells #[.int .i64 tz, .int .i64 tx, .int .i64 ty] 26)) (.int .i64 0) (.slice none 0 0) 30
    simpa using this
  have i0 : ∀ W', Below W.heap.size W W' → W'.cell? ⟨w.heap.size, 0, none⟩ = some (.slice a n cap) := fun W' h => by
    rw [h.cell (by rw [hsz]; simp <;> omega)]; subst hW; simp [go_sem]
  have f0 : ∀ W', Below W.heap.size W W' → W'.cell? ⟨w.heap.size + 1, 0, none⟩ = some (.int .i64 fz) := fun W' h => by
    rw [h.cell (by rw [hsz]; simp <;> omega)]; subst hW; simp [go_sem]
  have f1 : ∀ W', Below W.heap.size W W' → W'.cell? ⟨w.heap.size + 1, 1, none⟩ = some (.int .i64 fx) := fun W' h => by
    rw [h.cell (by rw [hsz]; simp <;> omega)]; subst hW; simp [go_sem]
  have f2 : ∀ W', Below W.heap.size W W' → W'.cell? ⟨w.heap.size + 1, 2, none⟩ = some (.int .i64 fy) := fun W' h => by
    rw [h.cell (by rw [hsz]; simp <;> omega)]; subst hW; simp [go_sem]
  have t0 : ∀ W', Below W.heap.size W W' → W'.cell? ⟨w.heap.size + 2, 0, none⟩ = some (.int .i64 tz) := fun W' h => by
    rw [h.cell (by rw [hsz]; simp <;> omega)]; subst hW; simp [go_sem]
  have t1 : ∀ W', Below W.heap.size W W' → W'.cell? ⟨w.heap.size + 2, 1, none⟩ = some (.int .i64 tx) := fun W' h => by
    rw [h.cell (by rw [hsz]; simp <;> omega)]; subst hW; simp [go_sem]
  have t2 : ∀ W', Below W.heap.size W W' → W'.cell? ⟨w.heap.size + 2, 2, none⟩ = some (.int .i64 ty) := fun W' h => by
    rw [h.cell (by rw [hsz]; simp <;> omega)]; subst hW; simp [go_sem]
  clear hW
  have HSZ : Hid (W.heap.size = w.heap.size + 4) := hsz
  clear hsz
  have HPW : Hid (IsNs W a n Z) := HP.out.below HB0.out
  have H1 : Hid (∀ W', Below W.heap.size W W' → Calls Try.prog 26 #[.slice a n cap] W' fun e w' => e = .returned (.int .i64 (rasC n Z)) ∧ W' = w') := fun W' h => rasterFault_any a n cap Z W' (HPW.out.below h) hn
  have H2 : Hid (∀ W', Calls Try.prog 27 #[refV fz fx fy] W' fun e w' => e = .returned (.int .i64 (refC fz fx fy)) ∧ Below W'.heap.size W' w') := fun W' => refFault_any _ _ _ _
  have H3 : Hid (∀ W', Calls Try.prog 27 #[refV tz tx ty] W' fun e w' => e = .returned (.int .i64 (refC tz tx ty)) ∧ Below W'.heap.size W' w') := fun W' => refFault_any _ _ _ _
  generalize hc1 : rasC n Z = c1 at *
  generalize hc2 : refC fz fx fy = c2 at *
  generalize hc3 : refC tz tx ty = c3 at *
  refine wp_region_noPanic ?_
  refine wp_region_held_drew (S := fun W' => Below W.heap.size W W') (by kernel_rfl) (by (repeat (first | exact Below.refl _ _ | assumption | refine Below.drew ?_ | refine bl_alloc ?_ _ | refine bl_then ?_ (by assumption) | refine Below.setCell ?_ (by first | omega | (simp; done) | (simp; omega)) _ | refine bl_store ?_ ?_ _ _))) (fun hHeld => ?_)
  have hX0 : Below W.heap.size W W.drew := hHeld
  refine takeD (i := 0) (d := some 8) (v := ?v0) rfl rfl (by kernel_rfl) (by kernel_rfl) (by kernel_rfl) (fun _ _ _ h => h) (Or.inl ⟨by rfl, ?hy0⟩) (by assumption) ?_
  case hy0 => (intro w hSw; (try dsimp only at hSw); go_simp <;> with_reducible rfl)
  try simp only [Act.put, List.setIfInBounds_toArray, List.set_cons_zero, List.set_cons_succ]
  refine takeD (i := 2) (d := some 10) (v := ?v2) rfl rfl (by kernel_rfl) (by kernel_rfl) (by kernel_rfl) (fun _ _ _ h => h) (Or.inl ⟨by rfl, ?hy2⟩) (by assumption) ?_
  case hy2 => (intro w hSw; (try dsimp only at hSw); go_simp <;> with_reducible rfl)
  try simp only [Act.put, List.setIfInBounds_toArray, List.set_cons_zero, List.set_cons_succ]
  refine takeD (i := 4) (d := some 12) (v := ?v4) rfl rfl (by kernel_rfl) (by kernel_rfl) (by kernel_rfl) (fun _ _ _ h => h) (Or.inl ⟨by rfl, ?hy4⟩) (by assumption) ?_
  case hy4 => (intro w hSw; (try dsimp only at hSw); go_simp <;> with_reducible rfl)
  try simp only [Act.put, List.setIfInBounds_toArray, List.set_cons_zero, List.set_cons_succ]
  refine wpAnyH_ready (rs := [1]) (by kernel_rfl) (by simp) ?_
  refine (AllReadyH.cons rfl (fun K hK => ?_) AllReadyH.nil)
  go_simp
  refine Calls.mono (H1.out _ hX0) ?_
  rintro e w1 ⟨rfl, rfl⟩
  go_wp2_with fail
  refine hK.out _ _ hX0 (fun hHeld => ?_)
  clear hK K
  try simp only [Act.put, List.setIfInBounds_toArray, List.set_cons_zero, List.set_cons_succ]
  refine wpAnyH_ready (rs := [3]) (by kernel_rfl) (by simp) ?_
  refine (AllReadyH.cons rfl (fun K hK => ?_) AllReadyH.nil)
  go_simp
  refine Calls.mono (H2.out _) ?_
  rintro e w2 ⟨rfl, hb2⟩
  have hX2 : Below W.heap.size W w2 := bl_then hX0 hb2
  go_wp2_with fail
  refine hK.out _ _ hX2 (fun hHeld => ?_)
  clear hK K
  try simp only [Act.put, List.setIfInBounds_toArray, List.set_cons_zero, List.set_cons_succ]
  refine wpAnyH_ready (rs := [5]) (by kernel_rfl) (by simp) ?_
  refine (AllReadyH.cons rfl (fun K hK => ?_) AllReadyH.nil)
  go_simp
  refine Calls.mono (H3.out _) ?_
  rintro e w3 ⟨rfl, hb3⟩
  have hX3 : Below W.heap.size W w3 := bl_then hX2 hb3
  go_wp2_with fail
  refine hK.out _ _ hX3 (fun hHeld => ?_)
  clear hK K hb2 hb3
  try simp only [Act.put, List.setIfInBounds_toArray, List.set_cons_zero, List.set_cons_succ]
  refine wpAnyH_ready (rs := [6]) (by kernel_rfl) (by simp) ?_
  refine (AllReadyH.cons rfl (fun K hK => ?_) AllReadyH.nil)
  go_simp
  generalize hw4 : (World.alloc _ _ : World) = w4
  have hb4 : Below w3.heap.size w3 w4 := by subst hw4; (repeat (first | exact Below.refl _ _ | assumption | refine Below.drew ?_ | refine bl_alloc ?_ _ | refine bl_then ?_ (by assumption) | refine Below.setCell ?_ (by first | omega | (simp; done) | (simp; omega)) _ | refine bl_store ?_ ?_ _ _))
  have g0 : w4.cell? ⟨w3.heap.size, 0, none⟩ = some (.int .i64 c1) := by subst hw4; simp [go_sem]
  have g1 : w4.cell? ⟨w3.heap.size, 1, none⟩ = some (.int .i64 c2) := by subst hw4; simp [go_sem]
  have g2 : w4.cell? ⟨w3.heap.size, 2, none⟩ = some (.int .i64 c3) := by subst hw4; simp [go_sem]
  have hX4 : Below W.heap.size W w4 := bl_then hX3 hb4
  clear hw4
  refine hK.out _ _ hX4 (fun hHeld => ?_)
  clear hK K hb4
  try simp only [Act.put, List.setIfInBounds_toArray, List.set_cons_zero, List.set_cons_succ]
  refine wpAnyH_ready (rs := [7]) (by kernel_rfl) (by simp) ?_
  refine (AllReadyH.cons rfl (fun K hK => ?_) AllReadyH.nil)
  go_simp
  refine (cmpOr3_any _ _ c1 c2 c3 _ g0 g1 g2).mono ?_
  rintro e w5 ⟨rfl, rfl⟩
  go_wp2_with fail
  refine hK.out _ _ hX4 (fun hHeld => ?_)
  clear hK K g0 g1 g2
  try simp only [Act.put, List.setIfInBounds_toArray, List.set_cons_zero, List.set_cons_succ]
  refine takeD (i := 8) (d := some 7) (v := ?v8) rfl rfl (by kernel_rfl) (by kernel_rfl) (by kernel_rfl) (fun _ _ _ h => h) (Or.inl ⟨by rfl, ?hy8⟩) (by assumption) ?_
  case hy8 => (intro w hSw; (try dsimp only at hSw); go_simp <;> with_reducible rfl)
  try simp only [Act.put, List.setIfInBounds_toArray, List.set_cons_zero, List.set_cons_succ]
  refine wpAnyH_done (by kernel_rfl) ?_ _
  refine NoPanic.normal ?_
  simp only [Exit.then]
  refine (by assumption : ∀ (a : Act) (w : World), _ → _) _ _ ?_
  have HB5 : Hid (Below w.heap.size w w5) := bl_then HB0.out hX4
  have HT5 : Hid (There w5 (w.heap.size + 3) 2) := HT.out.below hX4
  have hsz5 : w.heap.size + 3 < w5.heap.size := by have := hX4.size; have := HSZ.out; omega
  have i0' := i0 w5 hX4
  have f0' := f0 w5 hX4
  have f1' := f1 w5 hX4
  have f2' := f2 w5 hX4
  have t0' := t0 w5 hX4
  have t1' := t1 w5 hX4
  have t2' := t2 w5 hX4
  have HP5 : Hid (IsNs w5 a n Z) := HPW.out.below hX4
  clear i0 f0 f1 f2 t0 t1 t2 hX0 hX2 hX3 hHeld H1 H2 H3 HT HB0 HPW
  have hT5 := HT5.out
  have r0 := hT5.cell 0 (by omega)
  have r1 := hT5.cell 1 (by omega)
  have u0 := (hT5 0 (by omega)).2
  have u1 := (hT5 1 (by omega)).2
  clear hT5
  have HX4 : Hid (Below W.heap.size W w5) := hX4
  clear hX4
  rename_i hHa hHb hHc hHd hHe
  clear hHa hHb hHc hHd hHe
  generalize hk : or3 c1 c2 c3 = k
  by_cases hk0 : k = 0
  · subst hk0
    obtain ⟨z1, z2, z3⟩ := or3_zero hk
    subst z1 z2 z3
    clear hk
    have hr : n = 64 ∧ rasB Z 64 = true := by
      rcases rasC_cases n Z with ⟨h, _⟩ | ⟨h, _⟩ | ⟨_, h⟩
      · omega
      · omega
      · exact h
    have hf : refB fz fx fy = true := by
      rcases refC_cases fz fx fy with ⟨_, h⟩ | ⟨h, _⟩
      · exact h
      · omega
    have ht : refB tz tx ty = true := by
      rcases refC_cases tz tx ty with ⟨_, h⟩ | ⟨h, _⟩
      · exact h
      · omega
    obtain ⟨hn64, _⟩ := hr
    subst hn64
    have HF : Hid (refB fz fx fy = true) := hf
    have HTo : Hid (refB tz tx ty = true) := ht
    clear hf ht hc1 hc2 hc3
    have HC2 : Hid (upC 64 Z fz fx fy tz tx ty = if holdB fz fx fy tz tx ty = true then 0 else 1) := by
      show _ = _
      rw [HC.out]; simp
    clear HC
    clear r0 r1 u0 u1
    go_wp2_with fail
    refine (holds_any fz fx fy tz tx ty _ HF.out HTo.out).mono ?_
    rintro e w6 ⟨rfl, hb6⟩
    have i6 := bl_cellN hb6 i0'
    have a0 := bl_cellN hb6 f0'
    have a1 := bl_cellN hb6 f1'
    have a2 := bl_cellN hb6 f2'
    have b0 := bl_cellN hb6 t0'
    have b1 := bl_cellN hb6 t1'
    have b2 := bl_cellN hb6 t2'
    have HP6 : Hid (IsNs w6 a 64 Z) := HP5.out.below hb6
    have hT6 := HT5.out.below hb6
    have HT6 : Hid (There w6 (w.heap.size + 3) 2) := hT6
    have HB6 : Hid (Below w.heap.size w w6) := bl_then HB5.out hb6
    have hsz6 : w.heap.size + 3 < w6.heap.size := Nat.lt_of_lt_of_le hsz5 hb6.size
    clear hb6 i0' f0' f1' f2' t0' t1' t2' HP5 HT5 HB5 hsz5
    cases hH : holdB fz fx fy tz tx ty
    · have HQ : Hid (upC 64 Z fz fx fy tz tx ty = 1) := by show _ = _; rw [HC2.out, hH]; rfl
      have r0 := hT6.cell 0 (by omega)
      have r1 := hT6.cell 1 (by omega)
      have u0 := (hT6 0 (by omega)).2
      have u1 := (hT6 1 (by omega)).2
      clear hT6 hH HC2
      go_wp2_with fail
      obtain ⟨q0, q1⟩ := set2_at (u := .int .i64 1) (v := .slice none 0 0) (show (0 : Nat) ≠ 1 by omega) (by rw [r0]; rfl) (by rw [r1]; rfl)
      refine bodyPost_ret (v := .agg #[.int .i64 1, .slice none 0 0]) (by simp [results, Try.results7, go_sem, q0, q1]) rfl ⟨.slice none 0 0, by rw [HQ.out], by rw [HN.out (by rw [HQ.out]; omega)]; exact OwnN.nil _ _ _, ?_⟩
      have HB := HB6.out
      (repeat (first | exact Below.refl _ _ | assumption | refine Below.drew ?_ | refine bl_alloc ?_ _ | refine bl_then ?_ (by assumption) | refine Below.setCell ?_ (by first | omega | (simp; done) | (simp; omega)) _ | refine bl_store ?_ ?_ _ _))
    · have HQ : Hid (upC 64 Z fz fx fy tz tx ty = 0) := by show _ = _; rw [HC2.out, hH]; rfl
      have HH : Hid (holdB fz fx fy tz tx ty = true) := hH
      clear hT6 hH HC2 HN
      have hrf := ref_bd HF.out
      have hrt := ref_bd HTo.out
      obtain ⟨⟨fz0, fz1⟩, ⟨fx0, fx1⟩, fy0, fy1⟩ := hrf
      obtain ⟨⟨tz0, tz1⟩, ⟨tx0, tx1⟩, ty0, ty1⟩ := hrt
      obtain ⟨k, hkz⟩ : ∃ k : Nat, (tz - fz).toNat = k := ⟨_, rfl⟩
      have hle : fz ≤ tz := by
        have := HH.out
        simp [holdB] at this
        exact this.1.1
      have hkk : tz - fz = (k : Int) := by omega
      have hk3 : k ≤ 3 := by omega
      have hhx : halv tx k = fx ∧ halv ty k = fy := by
        have := HH.out
        simp [holdB, hkz] at this
        exact ⟨this.1.2, this.2⟩
      have HL : Hid (upL 64 Z fz fx fy tz tx ty = rowsL (upI k fx fy Z) (tx * 8) (ty * 8) 8 8) := by show _ = _; unfold upL; rw [if_pos HQ.out, hkz]
      have HHX : Hid (halv tx k = fx ∧ halv ty k = fy) := hhx
      have HKZ : Hid ((tz - fz).toNat = k) := hkz
      clear hhx hkz
      have b0' : w6.cell? ⟨w.heap.size + 1 + 1, 0, none⟩ = some (.int .i64 tz) := b0
      have b1' : w6.cell? ⟨w.heap.size + 1 + 1, 1, none⟩ = some (.int .i64 tx) := b1
      have b2' : w6.cell? ⟨w.heap.size + 1 + 1, 2, none⟩ = some (.int .i64 ty) := b2
      have l2 : w.heap.size + 1 + 1 < w6.heap.size := by omega
      have l1 : w.heap.size + 1 < w6.heap.size := by omega
      have l0 : w.heap.size < w6.heap.size := by omega
      go_wp2_with fail
      have HPV : Hid (IsNs w6 a 64 Z) := HP6.out
      rcases HPV.out with h0 | ⟨b, off, rfl, hbl, hzs⟩
      · omega
      refine (raster_any 30 _ tz tx ty (upI k fx fy Z) w6 HTo.out enter_up1 (fun W' c r hb hc hr => ?hcl)).mono ?_
      case hcl =>
        exact upRaster1_any (w.heap.size + 1 + 1) (w.heap.size + 1) w.heap.size b off cap k fz fx fy tz _ _ Z W' hk3 hkk (by omega) (bl_cellN hb b0') (bl_cellN hb a0) (bl_cellN hb a1) (bl_cellN hb a2) (bl_cellN hb i6) (NsAt.below hzs hb hbl) (Nat.lt_of_lt_of_le hbl hb.size) ⟨fx0, fx1⟩ ⟨fy0, fy1⟩ (by omega) (by omega) (up_in hk3 hc HHX.out.1) (up_in hk3 hr HHX.out.2)
      rintro e w7 ⟨v, rfl, hO7, hb7⟩
      have hB67 := hb7
      have hT7 := HT6.out.below hB67
      have r0 := hT7.cell 0 (by omega)
      have r1 := hT7.cell 1 (by omega)
      have u0 := (hT7 0 (by omega)).2
      have u1 := (hT7 1 (by omega)).2
      have HB7 : Hid (Below w.heap.size w w7) := bl_then HB6.out hB67
      have hsz7 : w.heap.size + 3 < w7.heap.size := Nat.lt_of_lt_of_le hsz6 hB67.size
      have hON := hO7.own
      obtain ⟨av, cv, hvs, _, _⟩ := hO7.own
      subst hvs
      have HO7 : Hid (OwnN w7 w6.heap.size (.slice av (rowsL (upI k fx fy Z) (tx * 8) (ty * 8) 8 8).length cv) (rowsL (upI k fx fy Z) (tx * 8) (ty * 8) 8 8).length (nz (rowsL (upI k fx fy Z) (tx * 8) (ty * 8) 8 8))) := hON
      clear hON hO7 hb7 hB67 hT7 hzs i6 a0 a1 a2 b0 b1 b2 b0' b1' b2'
      generalize rowsL (upI k fx fy Z) (tx * 8) (ty * 8) 8 8 = L at *
      go_wp2_with fail
      obtain ⟨q0, q1⟩ := set2_at (u := .int .i64 0) (v := .slice av L.length cv) (show (0 : Nat) ≠ 1 by omega) (by rw [r0]; rfl) (by rw [r1]; rfl)
      refine bodyPost_ret (v := .agg #[.int .i64 0, .slice av L.length cv]) (by simp [results, Try.results7, go_sem, q0, q1]) rfl ⟨.slice av L.length cv, by rw [HQ.out], by rw [HL.out]; exact ((HO7.out.set (by omega)).set (by omega)).widen (by omega), ?_⟩
      have HB := HB7.out
      (repeat (first | exact Below.refl _ _ | assumption | refine Below.drew ?_ | refine bl_alloc ?_ _ | refine bl_then ?_ (by assumption) | refine Below.setCell ?_ (by first | omega | (simp; done) | (simp; omega)) _ | refine bl_store ?_ ?_ _ _))
  · have HQ : Hid (upC n Z fz fx fy tz tx ty = k) := by
      show _ = _
      rw [HC.out, ← hk]
      unfold or3
      rcases refC_cases fz fx fy with ⟨h2, _⟩ | ⟨h2, _⟩ <;> rcases refC_cases tz tx ty with ⟨h3, _⟩ | ⟨h3, _⟩ <;> rw [h2] at hc2 <;> rw [h3] at hc3 <;> subst hc2 hc3 <;> by_cases h1 : c1 = 0 <;> simp [h1]
      exact absurd (by rw [← hk, h1]; rfl) hk0
    have hk' : (k == 0) = false := by simpa using hk0
    go_wp2_with fail
    obtain ⟨q0, q1⟩ := set2_at (u := .int .i64 k) (v := .slice none 0 0) (show (0 : Nat) ≠ 1 by omega) (by rw [r0]; rfl) (by rw [r1]; rfl)
    refine bodyPost_ret (v := .agg #[.int .i64 k, .slice none 0 0]) (by simp [results, Try.results7, go_sem, q0, q1]) rfl ⟨.slice none 0 0, by rw [HQ.out], by rw [HN.out (by rw [HQ.out]; exact hk0)]; exact OwnN.nil _ _ _, ?_⟩
    have HB := HB5.out
    (repeat (first | exact Below.refl _ _ | assumption | refine Below.drew ?_ | refine bl_alloc ?_ _ | refine bl_then ?_ (by assumption) | refine Below.setCell ?_ (by first | omega | (simp; done) | (simp; omega)) _ | refine bl_store ?_ ?_ _ _))
end Go.Proofs.Ytjkmjkfakolpfaa
