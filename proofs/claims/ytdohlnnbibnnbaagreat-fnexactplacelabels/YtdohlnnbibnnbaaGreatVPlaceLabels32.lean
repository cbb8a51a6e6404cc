/- The pixel of a feature's first point: the program and the model. -/
import Derived.Test.YtdohlnnbibnnbaaGreatVPlaceLabels31
import Derived.Test.YtdohlnnbibnnbaaGreatVPlaceLabels6
import Derived.Test.YtdohlnnbibnnbaaGreatVPlaceLabels4
import Derived.Test.YtdohlnnbibnnbaaGreatVPlaceLabels1
namespace Go.Proofs.YtdohlnnbibnnbaaGreat
open Go.RowKit
set_option linter.unusedSimpArgs false
set_option linter.unusedVariables false
set_option maxRecDepth 100000

/-- The pixel of a number, no more than the last. -/
def ancI (z v : Int) : Int := min (v / unitI z) (pixI z - 1)
theorem unitI_bd {z : Int} (h : zoomB z = true) : 16 ≤ unitI z ∧ unitI z ≤ 128 := by
  rcases zoomB_cases h with rfl | rfl | rfl | rfl <;> decide
theorem run_imin (ts : Array TypeId) (t : TypeId) (a b : Int) (w : World) : (Builtin.min_ ts t #[.int .i64 a, .int .i64 b]).run Tryz.prog w = .ok (.int .i64 (min a b)) w := by
  simp only [Builtin.min_, Builtin.min2, List.foldlM]
  by_cases h : a ≤ b
  · have e : min a b = a := by omega
    rw [e]; simp; omega
  · have e : min a b = b := by omega
    rw [e]; simp [h]
theorem there2a (w : World) (x y : Value) (t : TypeId) : There (w.alloc (.cells #[x, y] t)) w.heap.size 2 := fun o ho => by
  have : o = 0 ∨ o = 1 := by omega
  rcases this with rfl | rfl <;> exact ⟨⟨_, by simp [go_sem]; rfl⟩, by simp [go_sem]⟩
/-- A point in memory. -/
def PtA (w : World) (b : Nat) (x y : Int) : Prop := w.cell? ⟨b, 0, none⟩ = some (.int .i64 x) ∧ w.cell? ⟨b, 1, none⟩ = some (.int .i64 y)
theorem PtA.put {W : World} {r : Nat} {x y : Int} (hT : There W r 2) : PtA ((W.setCell ⟨r, 0, none⟩ (.int .i64 x)).setCell ⟨r, 1, none⟩ (.int .i64 y)) r x y := by
  obtain ⟨u0, h0⟩ := (hT 0 (by omega)).1
  obtain ⟨u1, h1⟩ := (hT 1 (by omega)).1
  have ne : ∀ i j : Nat, i ≠ j → (⟨r, i, none⟩ : Addr) ≠ ⟨r, j, none⟩ := fun i j hij h => hij (by injection h)
  refine ⟨?_, ?_⟩
  · rw [set1_other (ne 1 0 (by omega))]; exact set1_same h0
  · exact set1_same (by rw [set1_other (ne 0 1 (by omega))]; exact h1)
set_option maxHeartbeats 8000000 in
theorem anchorAsItIs_any {off : Nat} (id la ki wi z : Int) (b n cap : Nat) (X Y : Nat → Int) (lab : ByteArray) (pr : Int) (w : World) (hp : PtsAt w b off n X Y) (hbl : b < w.heap.size) (hn0 : 0 < n) (hin : inW (X 0) (Y 0) = true) (hz : zoomB z = true) :
    Calls Tryz.prog 69 #[.agg #[.int .i64 id, .int .i64 la, .int .i64 ki, .int .i64 wi, .slice (some ⟨b, off, none⟩) n cap, .string lab, .int .i64 pr], .int .i64 z] w fun e w' => e = .returned (.agg #[.int .i64 (ancI z (X 0)), .int .i64 (ancI z (Y 0))]) ∧ Below w.heap.size w w' := by
  have sU := fun w => impl_UnitAt_any z w
  have sN := fun w => impl_PixelCount_any z w
  rw [show unitV z = .agg #[.int .i64 0, .int .i64 (unitI z)] by simp [unitV, hz]] at sU
  rw [show pixV z = .agg #[.int .i64 0, .int .i64 (pixI z)] by simp [pixV, hz]] at sN
  have hu := unitI_bd hz
  have hm := pixI_bd hz
  have hx : (0 ≤ X 0 ∧ X 0 ≤ 1024) ∧ (0 ≤ Y 0 ∧ Y 0 ≤ 1024) := by simpa [inW, inB] using hin
  unfold ancI
  generalize unitI z = u at *
  generalize pixI z = m at *
  have d1 : (X 0).tdiv u = X 0 / u := Int.tdiv_eq_ediv_of_nonneg hx.1.1
  have d2 : (Y 0).tdiv u = Y 0 / u := Int.tdiv_eq_ediv_of_nonneg hx.2.1
  have d3 : 0 ≤ X 0 / u ∧ X 0 / u ≤ 1024 := ⟨Int.ediv_nonneg hx.1.1 (by omega), Int.le_trans (Int.ediv_le_self _ hx.1.1) hx.1.2⟩
  have d4 : 0 ≤ Y 0 / u ∧ Y 0 / u ≤ 1024 := ⟨Int.ediv_nonneg hx.2.1 (by omega), Int.le_trans (Int.ediv_le_self _ hx.2.1) hx.2.2⟩
  have f1 : ∀ w, (Instr.field 45 (.agg #[.int .i64 0, .int .i64 u]) 1).run Tryz.prog w = .ok (.int .i64 u) w := fun _ => by kernel_rfl
  have f2 : ∀ w, (Instr.field 45 (.agg #[.int .i64 0, .int .i64 m]) 1).run Tryz.prog w = .ok (.int .i64 m) w := fun _ => by kernel_rfl
  have hwm : IntKind.i64.wrap (m - 1) = m - 1 := IntWalk.i64_in _ (by omega)
  have hn1 : (0 : Int) < (n : Int) := by omega
  have p0 := (hp 0 hn0).1
  have p1 := (hp 0 hn0).2
  simp only [Nat.zero_mul, Nat.add_zero, Nat.mul_zero] at p0 p1
  clear hz hin
  go_enter Tryz.func69, Tryz.ntmps69
  go_wp2_with fail
  generalize hW : ((w.alloc _).alloc _ : World) = W
  have HB0 : Hid (Below w.heap.size w W) := by show Below _ _ _; subst hW; (repeat (first | exact Below.refl _ _ | assumption | refine Below.drew ?_ | refine bl_alloc ?_ _ | refine bl_then ?_ (by assumption) | refine Below.setCell ?_ (by first | omega | (simp; done) | (simp; omega)) _ | refine bl_store ?_ ?_ _ _))
  have HT : Hid (There W (w.heap.size + 1) 2) := by
    show There _ _ _
    subst hW
    have := there2a (w.alloc (.cells #[.int .i64 id, .int .i64 la, .int .i64 ki, .int .i64 wi, .slice (some ⟨b, off, none⟩) n cap, .string lab, .int .i64 pr] 36)) (.int .i64 0) (.int .i64 0) 111
    simpa using this
  have c4 : ∀ W', Below W.heap.size W W' → W'.cell? ⟨w.heap.size, 4, none⟩ = some (.slice (some ⟨b, off, none⟩) n cap) := fun W' h => by
    rw [h.cell (by subst hW; simp <;> omega)]; subst hW; simp [go_sem]
  have hszW : W.heap.size = w.heap.size + 2 := by subst hW; simp
  have HSZ : Hid (W.heap.size = w.heap.size + 2) := hszW
  clear hszW hW
  have e0 : ∀ W', Below W.heap.size W W' → W'.cell? ⟨b, off, none⟩ = some (.int .i64 (X 0)) := fun W' h => by
    rw [(bl_then HB0.out h).cell (p := ⟨b, off, none⟩) hbl]; exact p0
  have e1 : ∀ W', Below W.heap.size W W' → W'.cell? ⟨b, off + 1, none⟩ = some (.int .i64 (Y 0)) := fun W' h => by
    rw [(bl_then HB0.out h).cell (p := ⟨b, off + 1, none⟩) hbl]; exact p1
  clear p0 p1 hp
  go_wp2_with fail
  go_cut [5, 6, 7] (fun p q r wc => ∃ b5 : Nat, p = .pointer (some ⟨b5, 0, none⟩) ∧ q = .int .i64 u ∧ r = .int .i64 (m - 1) ∧ PtA wc b5 (X 0) (Y 0) ∧ W.heap.size ≤ b5 ∧ Below W.heap.size W wc)
  case first =>
    refine wp_region_noPanic ?_
    refine wp_region_held_drew (S := fun W' => Below W.heap.size W W') (by kernel_rfl) (by (repeat (first | exact Below.refl _ _ | assumption | refine Below.drew ?_ | refine bl_alloc ?_ _ | refine bl_then ?_ (by assumption) | refine Below.setCell ?_ (by first | omega | (simp; done) | (simp; omega)) _ | refine bl_store ?_ ?_ _ _))) (fun hHeld => ?_)
    have hX0 : Below W.heap.size W W.drew := hHeld
    refine takeD (i := 0) (d := some 8) (v := ?va0) rfl rfl (by kernel_rfl) (by kernel_rfl) (by kernel_rfl) (fun _ _ _ h => h) (Or.inl ⟨by rfl, ?hya0⟩) (by assumption) ?_
    case hya0 => (intro w hSw; (try dsimp only at hSw); go_simp <;> with_reducible rfl)
    try simp only [Act.put, List.setIfInBounds_toArray, List.set_cons_zero, List.set_cons_succ]
    refine takeD (i := 1) (d := some 9) (v := ?va1) rfl rfl (by kernel_rfl) (by kernel_rfl) (by kernel_rfl) (fun _ _ _ h => h) (Or.inl ⟨by rfl, ?hya1⟩) (by assumption) ?_
    case hya1 => (intro w hSw; (try dsimp only at hSw); go_simp <;> with_reducible rfl)
    try simp only [Act.put, List.setIfInBounds_toArray, List.set_cons_zero, List.set_cons_succ]
    refine takeD (i := 2) (d := some 10) (v := ?va2) rfl rfl (by kernel_rfl) (by kernel_rfl) (by kernel_rfl) (fun _ _ _ h => h) (Or.inl ⟨by rfl, ?hya2⟩) (by assumption) ?_
    case hya2 => (intro w hSw; (try dsimp only at hSw); go_simp <;> with_reducible rfl)
    try simp only [Act.put, List.setIfInBounds_toArray, List.set_cons_zero, List.set_cons_succ]
    refine takeD (i := 3) (d := some 11) (v := ?va3) rfl rfl (by kernel_rfl) (by kernel_rfl) (by kernel_rfl) (fun _ _ _ h => h) (Or.inl ⟨by rfl, ?hya3⟩) (by assumption) ?_
    case hya3 => (intro w hSw; (try dsimp only at hSw); go_simp <;> with_reducible rfl)
    try simp only [Act.put, List.setIfInBounds_toArray, List.set_cons_zero, List.set_cons_succ]
    refine takeD (i := 4) (d := some 12) (v := ?va4) rfl rfl (by kernel_rfl) (by kernel_rfl) (by kernel_rfl) (fun _ _ _ h => h) (Or.inl ⟨by rfl, ?hya4⟩) (by assumption) ?_
    case hya4 => (intro w hSw; (try dsimp only at hSw); go_simp <;> with_reducible rfl)
    try simp only [Act.put, List.setIfInBounds_toArray, List.set_cons_zero, List.set_cons_succ]
    refine takeD (i := 7) (d := some 15) (v := ?va7) rfl rfl (by kernel_rfl) (by kernel_rfl) (by kernel_rfl) (fun _ _ _ h => h) (Or.inl ⟨by rfl, ?hya7⟩) (by assumption) ?_
    case hya7 => (intro w hSw; (try dsimp only at hSw); go_simp <;> with_reducible rfl)
    try simp only [Act.put, List.setIfInBounds_toArray, List.set_cons_zero, List.set_cons_succ]
    refine wpAnyH_ready (rs := [5, 11]) (by kernel_rfl) (by simp) ?_
    refine (AllReadyH.cons rfl (fun K hK => ?_) (AllReadyH.cons rfl (fun K hK => ?_) AllReadyH.nil))
    · rw [if_pos (by rfl)]
      go_simp
      refine Calls.mono (sU _) ?_
      rintro e wq1 ⟨rfl, hb1⟩
      have hXq1 : Below W.heap.size W wq1 := bl_then hX0 hb1
      go_wp2_with fail
      refine hK.out _ _ hXq1 (fun hHeld => ?_)
      clear hK K
      try simp only [Act.put, List.setIfInBounds_toArray, List.set_cons_zero, List.set_cons_succ]
      refine takeD (i := 6) (d := some 14) (v := ?vb16) rfl rfl (by kernel_rfl) (by kernel_rfl) (by kernel_rfl) (fun _ _ _ h => h) (Or.inl ⟨by rfl, ?hyb16⟩) (by assumption) ?_
      case hyb16 => (intro w hSw; (try dsimp only at hSw); go_simp <;> with_reducible rfl)
      try simp only [Act.put, List.setIfInBounds_toArray, List.set_cons_zero, List.set_cons_succ]
      refine wpAnyH_ready (rs := [8, 11]) (by kernel_rfl) (by simp) ?_
      refine (AllReadyH.cons rfl (fun K hK => ?_) (AllReadyH.cons rfl (fun K hK => ?_) AllReadyH.nil))
      · rw [if_pos (by rfl)]
        go_simp
        refine Calls.mono (sN _) ?_
        rintro e wq2 ⟨rfl, hb2⟩
        have hXq2 : Below W.heap.size W wq2 := bl_then hXq1 hb2
        go_wp2_with fail
        refine hK.out _ _ hXq2 (fun hHeld => ?_)
        clear hK K
        try simp only [Act.put, List.setIfInBounds_toArray, List.set_cons_zero, List.set_cons_succ]
        refine takeD (i := 9) (d := some 17) (v := ?vb29) rfl rfl (by kernel_rfl) (by kernel_rfl) (by kernel_rfl) (fun _ _ _ h => h) (Or.inl ⟨by rfl, ?hyb29⟩) (by assumption) ?_
        case hyb29 => (intro w hSw; (try dsimp only at hSw); go_simp <;> with_reducible rfl)
        try simp only [Act.put, List.setIfInBounds_toArray, List.set_cons_zero, List.set_cons_succ]
        refine takeD (i := 10) (d := some 18) (v := ?vb210) rfl rfl (by kernel_rfl) (by kernel_rfl) (by kernel_rfl) (fun _ _ _ h => h) (Or.inl ⟨by rfl, ?hyb210⟩) (by assumption) ?_
        case hyb210 => (intro w hSw; (try dsimp only at hSw); go_simp <;> with_reducible rfl)
        try simp only [Act.put, List.setIfInBounds_toArray, List.set_cons_zero, List.set_cons_succ]
        refine wpAnyH_ready (rs := [11]) (by kernel_rfl) (by simp) ?_
        refine (AllReadyH.cons rfl (fun K hK => ?_) AllReadyH.nil)
        rw [if_pos (by rfl)]
        go_simp
        generalize hwA : (World.alloc _ _ : World) = wq3
        have hb3 : Below wq2.heap.size wq2 wq3 := by subst hwA; (repeat (first | exact Below.refl _ _ | assumption | refine Below.drew ?_ | refine bl_alloc ?_ _ | refine bl_then ?_ (by assumption) | refine Below.setCell ?_ (by first | omega | (simp; done) | (simp; omega)) _ | refine bl_store ?_ ?_ _ _))
        have hT3 : There wq3 wq2.heap.size 2 := by subst hwA; exact there2a wq2 _ _ _
        clear hwA
        have hXq3 : Below W.heap.size W wq3 := bl_then hXq2 hb3
        have hs3 : W.heap.size ≤ wq2.heap.size := Below.size hXq2
        refine hK.out _ _ hXq3 (fun hHeld => ?_)
        clear hK K
        try simp only [Act.put, List.setIfInBounds_toArray, List.set_cons_zero, List.set_cons_succ]
        refine wpAnyH_ready (rs := [12]) (by kernel_rfl) (by simp) ?_
        refine (AllReadyH.cons rfl (fun K hK => ?_) AllReadyH.nil)
        rw [if_pos (by rfl)]
        have t0 := hT3.cell 0 (by omega)
        have f0 := (hT3 0 (by omega)).2
        have t1 := hT3.cell 1 (by omega)
        have f1 := (hT3 1 (by omega)).2
        go_simp
        have hXs : Below W.heap.size W ((wq3.setCell ⟨wq2.heap.size, 0, none⟩ (.int .i64 (X 0))).setCell ⟨wq2.heap.size, 1, none⟩ (.int .i64 (Y 0))) := (hXq3.setCell hs3 _).setCell hs3 _
        have hPs := PtA.put (x := X 0) (y := Y 0) hT3
        generalize hwS : ((wq3.setCell _ _).setCell _ _ : World) = wS at *
        refine hK.out _ _ hXs (fun hHeld => ?_)
        clear hK K hwS t0 t1 f0 f1
        try simp only [Act.put, List.setIfInBounds_toArray, List.set_cons_zero, List.set_cons_succ]
        refine takeD (i := 13) (d := some 6) (v := ?vz313) rfl rfl (by kernel_rfl) (by kernel_rfl) (by kernel_rfl) (fun _ _ _ h => h) (Or.inl ⟨by rfl, ?hyz313⟩) (by assumption) ?_
        case hyz313 => (intro w hSw; (try dsimp only at hSw); go_simp <;> with_reducible rfl)
        try simp only [Act.put, List.setIfInBounds_toArray, List.set_cons_zero, List.set_cons_succ]
        refine takeD (i := 14) (d := some 7) (v := ?vz314) rfl rfl (by kernel_rfl) (by kernel_rfl) (by kernel_rfl) (fun _ _ _ h => h) (Or.inl ⟨by rfl, ?hyz314⟩) (by assumption) ?_
        case hyz314 => (intro w hSw; (try dsimp only at hSw); go_simp <;> with_reducible rfl)
        try simp only [Act.put, List.setIfInBounds_toArray, List.set_cons_zero, List.set_cons_succ]
        refine wpAnyH_done (by kernel_rfl) ?_ _
        refine NoPanic.normal ?_
        go_wp2_with fail
        go_meet
        case rel => exact ⟨_, rfl, rfl, by first | rfl | rw [hwm], hPs, hs3, hXs⟩
      · rw [if_pos (by rfl)]
        go_simp
        generalize hwA : (World.alloc _ _ : World) = wq4
        have hb4 : Below wq1.heap.size wq1 wq4 := by subst hwA; (repeat (first | exact Below.refl _ _ | assumption | refine Below.drew ?_ | refine bl_alloc ?_ _ | refine bl_then ?_ (by assumption) | refine Below.setCell ?_ (by first | omega | (simp; done) | (simp; omega)) _ | refine bl_store ?_ ?_ _ _))
        have hT4 : There wq4 wq1.heap.size 2 := by subst hwA; exact there2a wq1 _ _ _
        clear hwA
        have hXq4 : Below W.heap.size W wq4 := bl_then hXq1 hb4
        have hs4 : W.heap.size ≤ wq1.heap.size := Below.size hXq1
        refine hK.out _ _ hXq4 (fun hHeld => ?_)
        clear hK K
        try simp only [Act.put, List.setIfInBounds_toArray, List.set_cons_zero, List.set_cons_succ]
        refine wpAnyH_ready (rs := [8]) (by kernel_rfl) (by simp) ?_
        refine (AllReadyH.cons rfl (fun K hK => ?_) AllReadyH.nil)
        rw [if_pos (by rfl)]
        go_simp
        refine Calls.mono (sN _) ?_
        rintro e wq5 ⟨rfl, hb5⟩
        have hXq5 : Below W.heap.size W wq5 := bl_then hXq4 hb5
        have hT5_ := There.below hT4 hb5
        go_wp2_with fail
        refine hK.out _ _ hXq5 (fun hHeld => ?_)
        clear hK K
        try simp only [Act.put, List.setIfInBounds_toArray, List.set_cons_zero, List.set_cons_succ]
        refine takeD (i := 9) (d := some 17) (v := ?vb59) rfl rfl (by kernel_rfl) (by kernel_rfl) (by kernel_rfl) (fun _ _ _ h => h) (Or.inl ⟨by rfl, ?hyb59⟩) (by assumption) ?_
        case hyb59 => (intro w hSw; (try dsimp only at hSw); go_simp <;> with_reducible rfl)
        try simp only [Act.put, List.setIfInBounds_toArray, List.set_cons_zero, List.set_cons_succ]
        refine takeD (i := 10) (d := some 18) (v := ?vb510) rfl rfl (by kernel_rfl) (by kernel_rfl) (by kernel_rfl) (fun _ _ _ h => h) (Or.inl ⟨by rfl, ?hyb510⟩) (by assumption) ?_
        case hyb510 => (intro w hSw; (try dsimp only at hSw); go_simp <;> with_reducible rfl)
        try simp only [Act.put, List.setIfInBounds_toArray, List.set_cons_zero, List.set_cons_succ]
        refine wpAnyH_ready (rs := [12]) (by kernel_rfl) (by simp) ?_
        refine (AllReadyH.cons rfl (fun K hK => ?_) AllReadyH.nil)
        rw [if_pos (by rfl)]
        have t0 := hT5_.cell 0 (by omega)
        have f0 := (hT5_ 0 (by omega)).2
        have t1 := hT5_.cell 1 (by omega)
        have f1 := (hT5_ 1 (by omega)).2
        go_simp
        have hXs : Below W.heap.size W ((wq5.setCell ⟨wq1.heap.size, 0, none⟩ (.int .i64 (X 0))).setCell ⟨wq1.heap.size, 1, none⟩ (.int .i64 (Y 0))) := (hXq5.setCell hs4 _).setCell hs4 _
        have hPs := PtA.put (x := X 0) (y := Y 0) hT5_
        generalize hwS : ((wq5.setCell _ _).setCell _ _ : World) = wS at *
        refine hK.out _ _ hXs (fun hHeld => ?_)
        clear hK K hwS t0 t1 f0 f1
        try simp only [Act.put, List.setIfInBounds_toArray, List.set_cons_zero, List.set_cons_succ]
        refine takeD (i := 13) (d := some 6) (v := ?vz513) rfl rfl (by kernel_rfl) (by kernel_rfl) (by kernel_rfl) (fun _ _ _ h => h) (Or.inl ⟨by rfl, ?hyz513⟩) (by assumption) ?_
        case hyz513 => (intro w hSw; (try dsimp only at hSw); go_simp <;> with_reducible rfl)
        try simp only [Act.put, List.setIfInBounds_toArray, List.set_cons_zero, List.set_cons_succ]
        refine takeD (i := 14) (d := some 7) (v := ?vz514) rfl rfl (by kernel_rfl) (by kernel_rfl) (by kernel_rfl) (fun _ _ _ h => h) (Or.inl ⟨by rfl, ?hyz514⟩) (by assumption) ?_
        case hyz514 => (intro w hSw; (try dsimp only at hSw); go_simp <;> with_reducible rfl)
        try simp only [Act.put, List.setIfInBounds_toArray, List.set_cons_zero, List.set_cons_succ]
        refine wpAnyH_done (by kernel_rfl) ?_ _
        refine NoPanic.normal ?_
        go_wp2_with fail
        go_meet
        case rel => exact ⟨_, rfl, rfl, by first | rfl | rw [hwm], hPs, hs4, hXs⟩
    · rw [if_pos (by rfl)]
      go_simp
      generalize hwA : (World.alloc _ _ : World) = wq6
      have hb6 : Below W.heap.size W wq6.drew := by subst hwA; (repeat (first | exact Below.refl _ _ | assumption | refine Below.drew ?_ | refine bl_alloc ?_ _ | refine bl_then ?_ (by assumption) | refine Below.setCell ?_ (by first | omega | (simp; done) | (simp; omega)) _ | refine bl_store ?_ ?_ _ _))
      have hT6 : There wq6.drew W.heap.size 2 := by subst hwA; exact there2a W _ _ _
      clear hwA
      have hXq6 : Below W.heap.size W wq6.drew := hb6
      have hs6 : W.heap.size ≤ W.heap.size := Nat.le_refl _
      refine hK.out _ _ hXq6 (fun hHeld => ?_)
      clear hK K
      try simp only [Act.put, List.setIfInBounds_toArray, List.set_cons_zero, List.set_cons_succ]
      refine wpAnyH_ready (rs := [5]) (by kernel_rfl) (by simp) ?_
      refine (AllReadyH.cons rfl (fun K hK => ?_) AllReadyH.nil)
      rw [if_pos (by rfl)]
      go_simp
      refine Calls.mono (sU _) ?_
      rintro e wq7 ⟨rfl, hb7⟩
      have hXq7 : Below W.heap.size W wq7 := bl_then hXq6 hb7
      have hT7_ := There.below hT6 hb7
      go_wp2_with fail
      refine hK.out _ _ hXq7 (fun hHeld => ?_)
      clear hK K
      try simp only [Act.put, List.setIfInBounds_toArray, List.set_cons_zero, List.set_cons_succ]
      refine takeD (i := 6) (d := some 14) (v := ?vb76) rfl rfl (by kernel_rfl) (by kernel_rfl) (by kernel_rfl) (fun _ _ _ h => h) (Or.inl ⟨by rfl, ?hyb76⟩) (by assumption) ?_
      case hyb76 => (intro w hSw; (try dsimp only at hSw); go_simp <;> with_reducible rfl)
      try simp only [Act.put, List.setIfInBounds_toArray, List.set_cons_zero, List.set_cons_succ]
      refine wpAnyH_ready (rs := [8]) (by kernel_rfl) (by simp) ?_
      refine (AllReadyH.cons rfl (fun K hK => ?_) AllReadyH.nil)
      rw [if_pos (by rfl)]
      go_simp
      refine Calls.mono (sN _) ?_
      rintro e wq8 ⟨rfl, hb8⟩
      have hXq8 : Below W.heap.size W wq8 := bl_then hXq7 hb8
      have hT8_ := There.below hT7_ hb8
      go_wp2_with fail
      refine hK.out _ _ hXq8 (fun hHeld => ?_)
      clear hK K
      try simp only [Act.put, List.setIfInBounds_toArray, List.set_cons_zero, List.set_cons_succ]
      refine takeD (i := 9) (d := some 17) (v := ?vb89) rfl rfl (by kernel_rfl) (by kernel_rfl) (by kernel_rfl) (fun _ _ _ h => h) (Or.inl ⟨by rfl, ?hyb89⟩) (by assumption) ?_
      case hyb89 => (intro w hSw; (try dsimp only at hSw); go_simp <;> with_reducible rfl)
      try simp only [Act.put, List.setIfInBounds_toArray, List.set_cons_zero, List.set_cons_succ]
      refine takeD (i := 10) (d := some 18) (v := ?vb810) rfl rfl (by kernel_rfl) (by kernel_rfl) (by kernel_rfl) (fun _ _ _ h => h) (Or.inl ⟨by rfl, ?hyb810⟩) (by assumption) ?_
      case hyb810 => (intro w hSw; (try dsimp only at hSw); go_simp <;> with_reducible rfl)
      try simp only [Act.put, List.setIfInBounds_toArray, List.set_cons_zero, List.set_cons_succ]
      refine wpAnyH_ready (rs := [12]) (by kernel_rfl) (by simp) ?_
      refine (AllReadyH.cons rfl (fun K hK => ?_) AllReadyH.nil)
      rw [if_pos (by rfl)]
      have t0 := hT8_.cell 0 (by omega)
      have f0 := (hT8_ 0 (by omega)).2
      have t1 := hT8_.cell 1 (by omega)
      have f1 := (hT8_ 1 (by omega)).2
      go_simp
      have hXs : Below W.heap.size W ((wq8.setCell ⟨W.heap.size, 0, none⟩ (.int .i64 (X 0))).setCell ⟨W.heap.size, 1, none⟩ (.int .i64 (Y 0))) := (hXq8.setCell hs6 _).setCell hs6 _
      have hPs := PtA.put (x := X 0) (y := Y 0) hT8_
      generalize hwS : ((wq8.setCell _ _).setCell _ _ : World) = wS at *
      refine hK.out _ _ hXs (fun hHeld => ?_)
      clear hK K hwS t0 t1 f0 f1
      try simp only [Act.put, List.setIfInBounds_toArray, List.set_cons_zero, List.set_cons_succ]
      refine takeD (i := 13) (d := some 6) (v := ?vz813) rfl rfl (by kernel_rfl) (by kernel_rfl) (by kernel_rfl) (fun _ _ _ h => h) (Or.inl ⟨by rfl, ?hyz813⟩) (by assumption) ?_
      case hyz813 => (intro w hSw; (try dsimp only at hSw); go_simp <;> with_reducible rfl)
      try simp only [Act.put, List.setIfInBounds_toArray, List.set_cons_zero, List.set_cons_succ]
      refine takeD (i := 14) (d := some 7) (v := ?vz814) rfl rfl (by kernel_rfl) (by kernel_rfl) (by kernel_rfl) (fun _ _ _ h => h) (Or.inl ⟨by rfl, ?hyz814⟩) (by assumption) ?_
      case hyz814 => (intro w hSw; (try dsimp only at hSw); go_simp <;> with_reducible rfl)
      try simp only [Act.put, List.setIfInBounds_toArray, List.set_cons_zero, List.set_cons_succ]
      refine wpAnyH_done (by kernel_rfl) ?_ _
      refine NoPanic.normal ?_
      go_wp2_with fail
      go_meet
      case rel => exact ⟨_, rfl, rfl, by first | rfl | rw [hwm], hPs, hs6, hXs⟩
  case rest =>
    obtain ⟨b5, rfl, rfl, rfl, hP, hle5, hBc⟩ := hcut
    generalize wc = wA at *
    have HBA : Hid (Below w.heap.size w wA) := bl_then HB0.out hBc
    have HTA : Hid (There wA (w.heap.size + 1) 2) := HT.out.below hBc
    obtain ⟨q0, q1⟩ := hP
    have t0 := HTA.out.cell 0 (by omega)
    have t1 := HTA.out.cell 1 (by omega)
    have g0 := (HTA.out 0 (by omega)).2
    have g1 := (HTA.out 1 (by omega)).2
    have hne : b5 ≠ w.heap.size + 1 := by have := HSZ.out; omega
    have hmin := run_imin
    have hu0 : u ≠ 0 := by omega
    clear hBc c4 e0 e1 sU sN
    go_wp2_with fail
    go_region
    go_wp2_with fail
    obtain ⟨z0, z1⟩ := PtA.put (x := min (X 0 / u) (m - 1)) (y := min (Y 0 / u) (m - 1)) HTA.out
    refine bodyPost_ret (v := .agg #[.int .i64 (min (X 0 / u) (m - 1)), .int .i64 (min (Y 0 / u) (m - 1))]) (by simp [results, Tryz.results69, go_sem, z0, z1]) rfl ⟨rfl, ?_⟩
    have HB := HBA.out
    refine Below.drew (Below.setCell (Below.setCell ?_ ?_ _) ?_ _)
    · first | exact HB | exact Below.drew HB | exact below_drewN HB _
    · exact Nat.le_succ _
    · exact Nat.le_succ _
end Go.Proofs.YtdohlnnbibnnbaaGreat
