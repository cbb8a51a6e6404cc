/- ReachBox: the program and the model. -/
import Derived.Test.YtgpdpodagoligaaGreatVAnchors31
import Derived.Test.YtgpdpodagoligaaGreatVAnchors26
import Derived.Test.YtgpdpodagoligaaGreatVAnchors29
import Derived.Test.YtgpdpodagoligaaGreatVAnchors32
import Derived.Test.YtgpdpodagoligaaGreatVAnchors3
import Derived.Deep.DeepCutAuto
namespace Go.Proofs.YtgpdpodagoligaaGreat
open Go.RowKit
set_option linter.unusedSimpArgs false
set_option linter.unusedVariables false
set_option maxRecDepth 100000

theorem mnTo_bd (X : Nat → Int) (lo hi : Int) : ∀ n, 0 < n → (∀ i, i < n → lo ≤ X i ∧ X i ≤ hi) → lo ≤ mnTo X n ∧ mnTo X n ≤ hi
  | 0, h, _ => absurd h (by omega)
  | 1, _, h => by rw [mnTo_one]; exact h 0 (by omega)
  | k + 2, _, h => by
    have h1 := mnTo_bd X lo hi (k + 1) (by omega) (fun i hi => h i (by omega))
    have h2 := h (k + 1) (by omega)
    rw [mnTo, mnI]
    split <;> omega
theorem mxTo_bd (X : Nat → Int) (lo hi : Int) : ∀ n, 0 < n → (∀ i, i < n → lo ≤ X i ∧ X i ≤ hi) → lo ≤ mxTo X n ∧ mxTo X n ≤ hi
  | 0, h, _ => absurd h (by omega)
  | 1, _, h => by rw [mxTo_one]; exact h 0 (by omega)
  | k + 2, _, h => by
    have h1 := mxTo_bd X lo hi (k + 1) (by omega) (fun i hi => h i (by omega))
    have h2 := h (k + 1) (by omega)
    rw [mxTo, mxI]
    split <;> omega
theorem dbl_bd (X Y : Nat → Int) (n : Nat) (hin : ∀ i, i < n → inW (X i) (Y i) = true) : (∀ i, i < n → 0 ≤ px (dblL X Y n) i ∧ px (dblL X Y n) i ≤ 2048) ∧ (∀ i, i < n → 0 ≤ py (dblL X Y n) i ∧ py (dblL X Y n) i ≤ 2048) := by
  refine ⟨fun i hi => ?_, fun i hi => ?_⟩
  all_goals
    obtain ⟨e1, e2⟩ := dblL_px X Y n i hi
    have := inW_bd (hin i hi)
    omega
theorem there4 (V : World) (a b c d : Value) (t : TypeId) : There (V.alloc (.cells #[a, b, c, d] t)) V.heap.size 4 := fun o ho => by
  refine ⟨⟨#[a, b, c, d][o]'(by simpa using ho), ?_⟩, World.frozen?_alloc_at _ _ _ _ rfl⟩
  rw [World.cell?_alloc_at _ _ _ _ rfl]
  exact Array.getElem?_eq_getElem _
theorem there5 (V : World) (a b c d e : Value) (t : TypeId) : There (V.alloc (.cells #[a, b, c, d, e] t)) V.heap.size 5 := fun o ho => by
  refine ⟨⟨#[a, b, c, d, e][o]'(by simpa using ho), ?_⟩, World.frozen?_alloc_at _ _ _ _ rfl⟩
  rw [World.cell?_alloc_at _ _ _ _ rfl]
  exact Array.getElem?_eq_getElem _
/-- The box of doubled points, wider by r. -/
abbrev wideV (D : List (Int × Int)) (r : Int) : Value := .agg #[.int .i64 (mnTo (px D) D.length - r), .int .i64 (mnTo (py D) D.length - r), .int .i64 (mxTo (px D) D.length + r), .int .i64 (mxTo (py D) D.length + r)]

set_option maxHeartbeats 8000000 in
theorem boxAsItIs_any (id la ki wi z : Int) (b n cap : Nat) (X Y : Nat → Int) (lab : ByteArray) (pr : Int) (w : World) (hp : PtsAt w b 0 n X Y) (hbl : b < w.heap.size) (hn0 : 0 < n) (hn : n ≤ 40) (hin : ∀ i, i < n → inW (X i) (Y i) = true) (hw : 0 ≤ wi ∧ wi ≤ 3) (hz : zoomB z = true) :
    Calls Tryz.prog 79 #[.agg #[.int .i64 id, .int .i64 la, .int .i64 ki, .int .i64 wi, .slice (some ⟨b, 0, none⟩) n cap, .string lab, .int .i64 pr], .int .i64 z] w fun e w' => e = .returned (wideV (dblL X Y n) (reachI wi z)) ∧ Below w.heap.size w w' := by
  have HP : Hid (PtsAt w b 0 n X Y) := hp
  have HIN : Hid (∀ i, i < n → inW (X i) (Y i) = true) := hin
  have HW : Hid (0 ≤ wi ∧ wi ≤ 3) := hw
  have hall : allOk n (px (dblL X Y n)) (py (dblL X Y n)) = true := decide_eq_true (dbl_ok X Y n hin)
  have hrb := reach_bd hw hz
  obtain ⟨hbx, hby⟩ := dbl_bd X Y n hin
  obtain ⟨m1, m2⟩ := mnTo_bd _ 0 2048 n hn0 hbx
  obtain ⟨m3, m4⟩ := mnTo_bd _ 0 2048 n hn0 hby
  obtain ⟨m5, m6⟩ := mxTo_bd _ 0 2048 n hn0 hbx
  obtain ⟨m7, m8⟩ := mxTo_bd _ 0 2048 n hn0 hby
  have hbv : boxV n (px (dblL X Y n)) (py (dblL X Y n)) = .agg #[.int .i64 0, .int .i64 (mnTo (px (dblL X Y n)) n), .int .i64 (mnTo (py (dblL X Y n)) n), .int .i64 (mxTo (px (dblL X Y n)) n), .int .i64 (mxTo (py (dblL X Y n)) n)] := by simp [boxV, hall]
  have Hbox : Hid (∀ g cg w, PtsAt w g 0 n (px (dblL X Y n)) (py (dblL X Y n)) → g < w.heap.size → n ≤ cg → Calls Tryz.prog 105 #[.slice (some ⟨g, 0, none⟩) n cg] w fun e w' => e = .returned (.agg #[.int .i64 0, .int .i64 (mnTo (px (dblL X Y n)) n), .int .i64 (mnTo (py (dblL X Y n)) n), .int .i64 (mxTo (px (dblL X Y n)) n), .int .i64 (mxTo (py (dblL X Y n)) n)]) ∧ Below w.heap.size w w') := fun g cg w h1 h2 h3 => by
    have := impl_BoxOf_ok g n cg _ _ w h1 h2 h3 hn0 hn hall
    rw [hbv] at this
    exact this
  have HV : Hid (wideV (dblL X Y n) (reachI wi z) = .agg #[.int .i64 (mnTo (px (dblL X Y n)) n - reachI wi z), .int .i64 (mnTo (py (dblL X Y n)) n - reachI wi z), .int .i64 (mxTo (px (dblL X Y n)) n + reachI wi z), .int .i64 (mxTo (py (dblL X Y n)) n + reachI wi z)]) := by
    show wideV _ _ = _
    unfold wideV
    rw [dblL_len]
  have Hdb : Hid (∀ w, PtsAt w b 0 n X Y → b < w.heap.size → Calls Tryz.prog 106 #[.slice (some ⟨b, 0, none⟩) n cap] w fun e w' => ∃ g cg, e = .returned (.slice (some ⟨g, 0, none⟩) n cg) ∧ g < w'.heap.size ∧ n ≤ cg ∧ PtsAt w' g 0 n (px (dblL X Y n)) (py (dblL X Y n)) ∧ Below w.heap.size w w') := fun w h1 h2 => doubled_at b 0 n cap X Y w h1 h2 hn0 hn hin
  generalize mnTo (px (dblL X Y n)) n = a1 at *
  generalize mnTo (py (dblL X Y n)) n = a2 at *
  generalize mxTo (px (dblL X Y n)) n = a3 at *
  generalize mxTo (py (dblL X Y n)) n = a4 at *
  have Hre : Hid (∀ w, Calls Tryz.prog 107 #[.agg #[.int .i64 id, .int .i64 la, .int .i64 ki, .int .i64 wi, .slice (some ⟨b, 0, none⟩) n cap, .string lab, .int .i64 pr], .int .i64 z] w fun e w' => e = .returned (.int .i64 (reachI wi z)) ∧ Below w.heap.size w w') := fun w => reachAt_any id la ki wi z _ lab pr w hw hz ⟨_, _, _, rfl⟩
  generalize reachI wi z = r at *
  generalize dblL X Y n = D at *
  have i1 : ∀ w, (Instr.field 101 (.agg #[.int .i64 0, .int .i64 a1, .int .i64 a2, .int .i64 a3, .int .i64 a4]) 1).run Tryz.prog w = .ok (.agg #[.int .i64 a1, .int .i64 a2, .int .i64 a3, .int .i64 a4]) w := fun _ => by kernel_rfl
  clear hp hin hall hbv hbx hby hw
  go_enter Tryz.func79, Tryz.ntmps79
  go_wp2_with fail
  generalize hW : ((w.alloc _).alloc _ : World) = W
  have hB0 : Below w.heap.size w W := by subst hW; (repeat (first | exact Below.refl _ _ | assumption | refine Below.drew ?_ | refine bl_alloc ?_ _ | refine bl_then ?_ (by assumption) | refine Below.setCell ?_ (by first | omega | (simp; done) | (simp; omega)) _ | refine bl_store ?_ ?_ _ _))
  have c0 : ∀ W', Below W.heap.size W W' → W'.cell? ⟨w.heap.size, 0, none⟩ = some (.int .i64 id) := fun W' h => by
    rw [h.cell (by subst hW; simp <;> omega)]; subst hW; simp [go_sem]
  have c1 : ∀ W', Below W.heap.size W W' → W'.cell? ⟨w.heap.size, 1, none⟩ = some (.int .i64 la) := fun W' h => by
    rw [h.cell (by subst hW; simp <;> omega)]; subst hW; simp [go_sem]
  have c2 : ∀ W', Below W.heap.size W W' → W'.cell? ⟨w.heap.size, 2, none⟩ = some (.int .i64 ki) := fun W' h => by
    rw [h.cell (by subst hW; simp <;> omega)]; subst hW; simp [go_sem]
  have c3 : ∀ W', Below W.heap.size W W' → W'.cell? ⟨w.heap.size, 3, none⟩ = some (.int .i64 wi) := fun W' h => by
    rw [h.cell (by subst hW; simp <;> omega)]; subst hW; simp [go_sem]
  have c4 : ∀ W', Below W.heap.size W W' → W'.cell? ⟨w.heap.size, 4, none⟩ = some (.slice (some ⟨b, 0, none⟩) n cap) := fun W' h => by
    rw [h.cell (by subst hW; simp <;> omega)]; subst hW; simp [go_sem]
  have c5 : ∀ W', Below W.heap.size W W' → W'.cell? ⟨w.heap.size, 5, none⟩ = some (.string lab) := fun W' h => by
    rw [h.cell (by subst hW; simp <;> omega)]; subst hW; simp [go_sem]
  have c6 : ∀ W', Below W.heap.size W W' → W'.cell? ⟨w.heap.size, 6, none⟩ = some (.int .i64 pr) := fun W' h => by
    rw [h.cell (by subst hW; simp <;> omega)]; subst hW; simp [go_sem]
  have HT : Hid (There W (w.heap.size + 1) 4) := by
    show There _ _ _
    subst hW
    have := there4 (w.alloc (.cells #[.int .i64 id, .int .i64 la, .int .i64 ki, .int .i64 wi, .slice (some ⟨b, 0, none⟩) n cap, .string lab, .int .i64 pr] 26)) (.int .i64 0) (.int .i64 0) (.int .i64 0) (.int .i64 0) 99
    simpa using this
  have hsW : w.heap.size + 1 < W.heap.size := by subst hW; simp
  clear hW
  have HB0 : Hid (Below w.heap.size w W) := hB0
  have HPW : Hid (PtsAt W b 0 n X Y) := HP.out.below hB0 hbl
  have hblW : b < W.heap.size := Nat.lt_of_lt_of_le hbl hB0.size
  clear hB0 HP
  have hr0 : Below W.heap.size W W := Below.refl _ _
  go_cut [5, 6] (fun t s wc => ∃ p : Nat, t = .pointer (some ⟨p, 0, none⟩) ∧ s = .int .i64 r ∧ Below W.heap.size W wc ∧ wc.cell? ⟨p, 0, none⟩ = some (.int .i64 a1) ∧ wc.cell? ⟨p, 1, none⟩ = some (.int .i64 a2) ∧ wc.cell? ⟨p, 2, none⟩ = some (.int .i64 a3) ∧ wc.cell? ⟨p, 3, none⟩ = some (.int .i64 a4))
  case first =>
    refine wp_region_noPanic ?_
    refine wp_region_held_drew (S := fun W' => Below W.heap.size W W') (by kernel_rfl) (by (repeat (first | exact Below.refl _ _ | assumption | refine Below.drew ?_ | refine bl_alloc ?_ _ | refine bl_then ?_ (by assumption) | refine Below.setCell ?_ (by first | omega | (simp; done) | (simp; omega)) _ | refine bl_store ?_ ?_ _ _))) (fun hHeld => ?_)
    have hBd : Below W.heap.size W W.drew := hHeld
    refine takeD (i := 0) (d := some 7) (v := ?vt1) rfl rfl (by kernel_rfl) (by kernel_rfl) (by kernel_rfl) (fun _ _ _ h => h) (Or.inl ⟨by rfl, ?hyt1⟩) (by assumption) ?_
    case hyt1 => (intro w hSw; (try dsimp only at hSw); go_simp <;> with_reducible rfl)
    try simp only [Act.put, List.setIfInBounds_toArray, List.set_cons_zero, List.set_cons_succ]
    refine takeD (i := 1) (d := some 8) (v := ?vt2) rfl rfl (by kernel_rfl) (by kernel_rfl) (by kernel_rfl) (fun _ _ _ h => h) (Or.inl ⟨by rfl, ?hyt2⟩) (by assumption) ?_
    case hyt2 => (intro w hSw; (try dsimp only at hSw); go_simp <;> with_reducible rfl)
    try simp only [Act.put, List.setIfInBounds_toArray, List.set_cons_zero, List.set_cons_succ]
    refine takeD (i := 5) (d := some 12) (v := ?vt3) rfl rfl (by kernel_rfl) (by kernel_rfl) (by kernel_rfl) (fun _ _ _ h => h) (Or.inl ⟨by rfl, ?hyt3⟩) (by assumption) ?_
    case hyt3 => (intro w hSw; (try dsimp only at hSw); go_simp <;> with_reducible rfl)
    try simp only [Act.put, List.setIfInBounds_toArray, List.set_cons_zero, List.set_cons_succ]
    refine takeD (i := 6) (d := some 13) (v := ?vt4) rfl rfl (by kernel_rfl) (by kernel_rfl) (by kernel_rfl) (fun _ _ _ h => h) (Or.inl ⟨by rfl, ?hyt4⟩) (by assumption) ?_
    case hyt4 => (intro w hSw; (try dsimp only at hSw); go_simp <;> with_reducible rfl)
    try simp only [Act.put, List.setIfInBounds_toArray, List.set_cons_zero, List.set_cons_succ]
    refine wpAnyH_ready (rs := [2, 8]) (by kernel_rfl) (by simp) ?_
    refine (AllReadyH.cons rfl (fun K hK => ?_) (AllReadyH.cons rfl (fun K hK => ?_) AllReadyH.nil))
    · skip
      go_simp
      refine (Hdb.out _ (HPW.out.below hBd hblW) (Nat.lt_of_lt_of_le hblW (Below.size hBd))).mono ?_
      rintro e w5 ⟨g, cg, rfl, hgl5, hcg, hPg5, hb5⟩
      have hB5 : Below W.heap.size W w5 := bl_then hBd hb5
      go_wp2_with fail
      refine hK.out _ _ hB5 (fun hHeld => ?_)
      clear hK K
      try simp only [Act.put, List.setIfInBounds_toArray, List.set_cons_zero, List.set_cons_succ]
      refine wpAnyH_ready (rs := [3, 8]) (by kernel_rfl) (by simp) ?_
      refine (AllReadyH.cons rfl (fun K hK => ?_) (AllReadyH.cons rfl (fun K hK => ?_) AllReadyH.nil))
      · skip
        go_simp
        refine (Hbox.out g cg _ hPg5 hgl5 hcg).mono ?_
        rintro e w6 ⟨rfl, hb6⟩
        have hB6 : Below W.heap.size W w6 := bl_then hB5 hb6
        go_wp2_with fail
        refine hK.out _ _ hB6 (fun hHeld => ?_)
        clear hK K
        try simp only [Act.put, List.setIfInBounds_toArray, List.set_cons_zero, List.set_cons_succ]
        refine takeD (i := 4) (d := some 11) (v := ?vt7) rfl rfl (by kernel_rfl) (by kernel_rfl) (by kernel_rfl) (fun _ _ _ h => h) (Or.inl ⟨by rfl, ?hyt7⟩) (by assumption) ?_
        case hyt7 => (intro w hSw; (try dsimp only at hSw); go_simp <;> with_reducible rfl)
        try simp only [Act.put, List.setIfInBounds_toArray, List.set_cons_zero, List.set_cons_succ]
        refine wpAnyH_ready (rs := [7, 8]) (by kernel_rfl) (by simp) ?_
        refine (AllReadyH.cons rfl (fun K hK => ?_) (AllReadyH.cons rfl (fun K hK => ?_) AllReadyH.nil))
        · skip
          go_simp
          refine (Hre.out _).mono ?_
          rintro e w8 ⟨rfl, hb8⟩
          have hB8 : Below W.heap.size W w8 := bl_then hB6 hb8
          go_wp2_with fail
          refine hK.out _ _ hB8 (fun hHeld => ?_)
          clear hK K
          try simp only [Act.put, List.setIfInBounds_toArray, List.set_cons_zero, List.set_cons_succ]
          refine wpAnyH_ready (rs := [8]) (by kernel_rfl) (by simp) ?_
          refine (AllReadyH.cons rfl (fun K hK => ?_) AllReadyH.nil)
          go_simp
          generalize hw9 : (World.alloc w8 (.cells #[.int .i64 0, .int .i64 0, .int .i64 0, .int .i64 0] 99) : World) = w9
          have hb9 : Below (World.heap w8).size w8 w9 := by subst hw9; (repeat (first | exact Below.refl _ _ | assumption | refine Below.drew ?_ | refine bl_alloc ?_ _ | refine bl_then ?_ (by assumption) | refine Below.setCell ?_ (by first | omega | (simp; done) | (simp; omega)) _ | refine bl_store ?_ ?_ _ _))
          have hT9 : There w9 ((World.heap w8).size) 4 := by subst hw9; exact there4 w8 _ _ _ _ _
          have hB9 : Below W.heap.size W w9 := bl_then hB8 hb9
          clear hw9
          refine hK.out _ _ hB9 (fun hHeld => ?_)
          clear hK K
          try simp only [Act.put, List.setIfInBounds_toArray, List.set_cons_zero, List.set_cons_succ]
          refine wpAnyH_ready (rs := [9]) (by kernel_rfl) (by simp) ?_
          refine (AllReadyH.cons rfl (fun K hK => ?_) AllReadyH.nil)
          have HTz : Hid (There w9 ((World.heap w8).size) 4) := hT9
          have t0 := hT9.cell 0 (by omega)
          have f0 := (hT9 0 (by omega)).2
          have t1 := hT9.cell 1 (by omega)
          have f1 := (hT9 1 (by omega)).2
          have t2 := hT9.cell 2 (by omega)
          have f2 := (hT9 2 (by omega)).2
          have t3 := hT9.cell 3 (by omega)
          have f3 := (hT9 3 (by omega)).2
          have hple : W.heap.size ≤ (World.heap w8).size := by first | exact Nat.le_refl _ | exact Below.size (by assumption)
          try simp only [World.drew_heap] at t0 t1 t2 t3 f0 f1 f2 f3 hple
          go_simp
          obtain ⟨s0, s1, s2, s3⟩ := set4_at (a := .int .i64 a1) (b := .int .i64 a2) (c := .int .i64 a3) (d := .int .i64 a4) HTz.out
          have hBf := (((Below.setCell hB9 (p := ⟨(World.heap w8).size, 0, none⟩) hple (.int .i64 a1)).setCell (p := ⟨(World.heap w8).size, 1, none⟩) hple (.int .i64 a2)).setCell (p := ⟨(World.heap w8).size, 2, none⟩) hple (.int .i64 a3)).setCell (p := ⟨(World.heap w8).size, 3, none⟩) hple (.int .i64 a4)
          refine hK.out _ _ hBf (fun hHeld => ?_)
          clear hK K
          try simp only [Act.put, List.setIfInBounds_toArray, List.set_cons_zero, List.set_cons_succ]
          refine takeD (i := 10) (d := some 6) (v := ?vt11) rfl rfl (by kernel_rfl) (by kernel_rfl) (by kernel_rfl) (fun _ _ _ h => h) (Or.inl ⟨by rfl, ?hyt11⟩) (by assumption) ?_
          case hyt11 => (intro w hSw; (try dsimp only at hSw); go_simp <;> with_reducible rfl)
          try simp only [Act.put, List.setIfInBounds_toArray, List.set_cons_zero, List.set_cons_succ]
          refine wpAnyH_done (by kernel_rfl) ?_ _
          refine NoPanic.normal ?_
          go_wp2_with fail
          go_meet
          case rel => exact ⟨_, rfl, rfl, hBf, s0, s1, s2, s3⟩
        · skip
          go_simp
          generalize hw12 : (World.alloc w6 (.cells #[.int .i64 0, .int .i64 0, .int .i64 0, .int .i64 0] 99) : World) = w12
          have hb12 : Below (World.heap w6).size w6 w12 := by subst hw12; (repeat (first | exact Below.refl _ _ | assumption | refine Below.drew ?_ | refine bl_alloc ?_ _ | refine bl_then ?_ (by assumption) | refine Below.setCell ?_ (by first | omega | (simp; done) | (simp; omega)) _ | refine bl_store ?_ ?_ _ _))
          have hT12 : There w12 ((World.heap w6).size) 4 := by subst hw12; exact there4 w6 _ _ _ _ _
          have hB12 : Below W.heap.size W w12 := bl_then hB6 hb12
          clear hw12
          refine hK.out _ _ hB12 (fun hHeld => ?_)
          clear hK K
          try simp only [Act.put, List.setIfInBounds_toArray, List.set_cons_zero, List.set_cons_succ]
          refine wpAnyH_ready (rs := [7]) (by kernel_rfl) (by simp) ?_
          refine (AllReadyH.cons rfl (fun K hK => ?_) AllReadyH.nil)
          go_simp
          refine (Hre.out _).mono ?_
          rintro e w13 ⟨rfl, hb13⟩
          have hB13 : Below W.heap.size W w13 := bl_then hB12 hb13
          have hT13 : There w13 ((World.heap w6).size) 4 := hT12.below hb13
          go_wp2_with fail
          refine hK.out _ _ hB13 (fun hHeld => ?_)
          clear hK K
          try simp only [Act.put, List.setIfInBounds_toArray, List.set_cons_zero, List.set_cons_succ]
          refine wpAnyH_ready (rs := [9]) (by kernel_rfl) (by simp) ?_
          refine (AllReadyH.cons rfl (fun K hK => ?_) AllReadyH.nil)
          have HTz : Hid (There w13 ((World.heap w6).size) 4) := hT13
          have t0 := hT13.cell 0 (by omega)
          have f0 := (hT13 0 (by omega)).2
          have t1 := hT13.cell 1 (by omega)
          have f1 := (hT13 1 (by omega)).2
          have t2 := hT13.cell 2 (by omega)
          have f2 := (hT13 2 (by omega)).2
          have t3 := hT13.cell 3 (by omega)
          have f3 := (hT13 3 (by omega)).2
          have hple : W.heap.size ≤ (World.heap w6).size := by first | exact Nat.le_refl _ | exact Below.size (by assumption)
          try simp only [World.drew_heap] at t0 t1 t2 t3 f0 f1 f2 f3 hple
          go_simp
          obtain ⟨s0, s1, s2, s3⟩ := set4_at (a := .int .i64 a1) (b := .int .i64 a2) (c := .int .i64 a3) (d := .int .i64 a4) HTz.out
          have hBf := (((Below.setCell hB13 (p := ⟨(World.heap w6).size, 0, none⟩) hple (.int .i64 a1)).setCell (p := ⟨(World.heap w6).size, 1, none⟩) hple (.int .i64 a2)).setCell (p := ⟨(World.heap w6).size, 2, none⟩) hple (.int .i64 a3)).setCell (p := ⟨(World.heap w6).size, 3, none⟩) hple (.int .i64 a4)
          refine hK.out _ _ hBf (fun hHeld => ?_)
          clear hK K
          try simp only [Act.put, List.setIfInBounds_toArray, List.set_cons_zero, List.set_cons_succ]
          refine takeD (i := 10) (d := some 6) (v := ?vt15) rfl rfl (by kernel_rfl) (by kernel_rfl) (by kernel_rfl) (fun _ _ _ h => h) (Or.inl ⟨by rfl, ?hyt15⟩) (by assumption) ?_
          case hyt15 => (intro w hSw; (try dsimp only at hSw); go_simp <;> with_reducible rfl)
          try simp only [Act.put, List.setIfInBounds_toArray, List.set_cons_zero, List.set_cons_succ]
          refine wpAnyH_done (by kernel_rfl) ?_ _
          refine NoPanic.normal ?_
          go_wp2_with fail
          go_meet
          case rel => exact ⟨_, rfl, rfl, hBf, s0, s1, s2, s3⟩
      · skip
        go_simp
        generalize hw16 : (World.alloc w5 (.cells #[.int .i64 0, .int .i64 0, .int .i64 0, .int .i64 0] 99) : World) = w16
        have hb16 : Below (World.heap w5).size w5 w16 := by subst hw16; (repeat (first | exact Below.refl _ _ | assumption | refine Below.drew ?_ | refine bl_alloc ?_ _ | refine bl_then ?_ (by assumption) | refine Below.setCell ?_ (by first | omega | (simp; done) | (simp; omega)) _ | refine bl_store ?_ ?_ _ _))
        have hT16 : There w16 ((World.heap w5).size) 4 := by subst hw16; exact there4 w5 _ _ _ _ _
        have hB16 : Below W.heap.size W w16 := bl_then hB5 hb16
        have hPg16 := PtsAt.below hPg5 hb16 hgl5
        have hgl16 := Nat.lt_of_lt_of_le hgl5 (Below.size hb16)
        clear hw16
        refine hK.out _ _ hB16 (fun hHeld => ?_)
        clear hK K
        try simp only [Act.put, List.setIfInBounds_toArray, List.set_cons_zero, List.set_cons_succ]
        refine wpAnyH_ready (rs := [3]) (by kernel_rfl) (by simp) ?_
        refine (AllReadyH.cons rfl (fun K hK => ?_) AllReadyH.nil)
        go_simp
        refine (Hbox.out g cg _ hPg16 hgl16 hcg).mono ?_
        rintro e w17 ⟨rfl, hb17⟩
        have hB17 : Below W.heap.size W w17 := bl_then hB16 hb17
        have hT17 : There w17 ((World.heap w5).size) 4 := hT16.below hb17
        go_wp2_with fail
        refine hK.out _ _ hB17 (fun hHeld => ?_)
        clear hK K
        try simp only [Act.put, List.setIfInBounds_toArray, List.set_cons_zero, List.set_cons_succ]
        refine takeD (i := 4) (d := some 11) (v := ?vt18) rfl rfl (by kernel_rfl) (by kernel_rfl) (by kernel_rfl) (fun _ _ _ h => h) (Or.inl ⟨by rfl, ?hyt18⟩) (by assumption) ?_
        case hyt18 => (intro w hSw; (try dsimp only at hSw); go_simp <;> with_reducible rfl)
        try simp only [Act.put, List.setIfInBounds_toArray, List.set_cons_zero, List.set_cons_succ]
        refine wpAnyH_ready (rs := [7]) (by kernel_rfl) (by simp) ?_
        refine (AllReadyH.cons rfl (fun K hK => ?_) AllReadyH.nil)
        go_simp
        refine (Hre.out _).mono ?_
        rintro e w19 ⟨rfl, hb19⟩
        have hB19 : Below W.heap.size W w19 := bl_then hB17 hb19
        have hT19 : There w19 ((World.heap w5).size) 4 := hT17.below hb19
        go_wp2_with fail
        refine hK.out _ _ hB19 (fun hHeld => ?_)
        clear hK K
        try simp only [Act.put, List.setIfInBounds_toArray, List.set_cons_zero, List.set_cons_succ]
        refine wpAnyH_ready (rs := [9]) (by kernel_rfl) (by simp) ?_
        refine (AllReadyH.cons rfl (fun K hK => ?_) AllReadyH.nil)
        have HTz : Hid (There w19 ((World.heap w5).size) 4) := hT19
        have t0 := hT19.cell 0 (by omega)
        have f0 := (hT19 0 (by omega)).2
        have t1 := hT19.cell 1 (by omega)
        have f1 := (hT19 1 (by omega)).2
        have t2 := hT19.cell 2 (by omega)
        have f2 := (hT19 2 (by omega)).2
        have t3 := hT19.cell 3 (by omega)
        have f3 := (hT19 3 (by omega)).2
        have hple : W.heap.size ≤ (World.heap w5).size := by first | exact Nat.le_refl _ | exact Below.size (by assumption)
        try simp only [World.drew_heap] at t0 t1 t2 t3 f0 f1 f2 f3 hple
        go_simp
        obtain ⟨s0, s1, s2, s3⟩ := set4_at (a := .int .i64 a1) (b := .int .i64 a2) (c := .int .i64 a3) (d := .int .i64 a4) HTz.out
        have hBf := (((Below.setCell hB19 (p := ⟨(World.heap w5).size, 0, none⟩) hple (.int .i64 a1)).setCell (p := ⟨(World.heap w5).size, 1, none⟩) hple (.int .i64 a2)).setCell (p := ⟨(World.heap w5).size, 2, none⟩) hple (.int .i64 a3)).setCell (p := ⟨(World.heap w5).size, 3, none⟩) hple (.int .i64 a4)
        refine hK.out _ _ hBf (fun hHeld => ?_)
        clear hK K
        try simp only [Act.put, List.setIfInBounds_toArray, List.set_cons_zero, List.set_cons_succ]
        refine takeD (i := 10) (d := some 6) (v := ?vt21) rfl rfl (by kernel_rfl) (by kernel_rfl) (by kernel_rfl) (fun _ _ _ h => h) (Or.inl ⟨by rfl, ?hyt21⟩) (by assumption) ?_
        case hyt21 => (intro w hSw; (try dsimp only at hSw); go_simp <;> with_reducible rfl)
        try simp only [Act.put, List.setIfInBounds_toArray, List.set_cons_zero, List.set_cons_succ]
        refine wpAnyH_done (by kernel_rfl) ?_ _
        refine NoPanic.normal ?_
        go_wp2_with fail
        go_meet
        case rel => exact ⟨_, rfl, rfl, hBf, s0, s1, s2, s3⟩
    · skip
      go_simp
      generalize hw22 : (World.drew (World.alloc W (.cells #[.int .i64 0, .int .i64 0, .int .i64 0, .int .i64 0] 99)) : World) = w22
      have hb22 : Below (World.heap W).size W w22 := by subst hw22; (repeat (first | exact Below.refl _ _ | assumption | refine Below.drew ?_ | refine bl_alloc ?_ _ | refine bl_then ?_ (by assumption) | refine Below.setCell ?_ (by first | omega | (simp; done) | (simp; omega)) _ | refine bl_store ?_ ?_ _ _))
      have hT22 : There w22 ((World.heap W).size) 4 := by subst hw22; exact there4 W _ _ _ _ _
      have hB22 : Below W.heap.size W w22 := bl_then (Below.refl W.heap.size W) hb22
      clear hw22
      refine hK.out _ _ hB22 (fun hHeld => ?_)
      clear hK K
      try simp only [Act.put, List.setIfInBounds_toArray, List.set_cons_zero, List.set_cons_succ]
      refine wpAnyH_ready (rs := [2]) (by kernel_rfl) (by simp) ?_
      refine (AllReadyH.cons rfl (fun K hK => ?_) AllReadyH.nil)
      go_simp
      refine (Hdb.out _ (HPW.out.below hB22 hblW) (Nat.lt_of_lt_of_le hblW (Below.size hB22))).mono ?_
      rintro e w23 ⟨g, cg, rfl, hgl23, hcg, hPg23, hb23⟩
      have hB23 : Below W.heap.size W w23 := bl_then hB22 hb23
      have hT23 : There w23 ((World.heap W).size) 4 := hT22.below hb23
      go_wp2_with fail
      refine hK.out _ _ hB23 (fun hHeld => ?_)
      clear hK K
      try simp only [Act.put, List.setIfInBounds_toArray, List.set_cons_zero, List.set_cons_succ]
      refine wpAnyH_ready (rs := [3]) (by kernel_rfl) (by simp) ?_
      refine (AllReadyH.cons rfl (fun K hK => ?_) AllReadyH.nil)
      go_simp
      refine (Hbox.out g cg _ hPg23 hgl23 hcg).mono ?_
      rintro e w24 ⟨rfl, hb24⟩
      have hB24 : Below W.heap.size W w24 := bl_then hB23 hb24
      have hT24 : There w24 ((World.heap W).size) 4 := hT23.below hb24
      go_wp2_with fail
      refine hK.out _ _ hB24 (fun hHeld => ?_)
      clear hK K
      try simp only [Act.put, List.setIfInBounds_toArray, List.set_cons_zero, List.set_cons_succ]
      refine takeD (i := 4) (d := some 11) (v := ?vt25) rfl rfl (by kernel_rfl) (by kernel_rfl) (by kernel_rfl) (fun _ _ _ h => h) (Or.inl ⟨by rfl, ?hyt25⟩) (by assumption) ?_
      case hyt25 => (intro w hSw; (try dsimp only at hSw); go_simp <;> with_reducible rfl)
      try simp only [Act.put, List.setIfInBounds_toArray, List.set_cons_zero, List.set_cons_succ]
      refine wpAnyH_ready (rs := [7]) (by kernel_rfl) (by simp) ?_
      refine (AllReadyH.cons rfl (fun K hK => ?_) AllReadyH.nil)
      go_simp
      refine (Hre.out _).mono ?_
      rintro e w26 ⟨rfl, hb26⟩
      have hB26 : Below W.heap.size W w26 := bl_then hB24 hb26
      have hT26 : There w26 ((World.heap W).size) 4 := hT24.below hb26
      go_wp2_with fail
      refine hK.out _ _ hB26 (fun hHeld => ?_)
      clear hK K
      try simp only [Act.put, List.setIfInBounds_toArray, List.set_cons_zero, List.set_cons_succ]
      refine wpAnyH_ready (rs := [9]) (by kernel_rfl) (by simp) ?_
      refine (AllReadyH.cons rfl (fun K hK => ?_) AllReadyH.nil)
      have HTz : Hid (There w26 ((World.heap W).size) 4) := hT26
      have t0 := hT26.cell 0 (by omega)
      have f0 := (hT26 0 (by omega)).2
      have t1 := hT26.cell 1 (by omega)
      have f1 := (hT26 1 (by omega)).2
      have t2 := hT26.cell 2 (by omega)
      have f2 := (hT26 2 (by omega)).2
      have t3 := hT26.cell 3 (by omega)
      have f3 := (hT26 3 (by omega)).2
      have hple : W.heap.size ≤ (World.heap W).size := by first | exact Nat.le_refl _ | exact Below.size (by assumption)
      try simp only [World.drew_heap] at t0 t1 t2 t3 f0 f1 f2 f3 hple
      go_simp
      obtain ⟨s0, s1, s2, s3⟩ := set4_at (a := .int .i64 a1) (b := .int .i64 a2) (c := .int .i64 a3) (d := .int .i64 a4) HTz.out
      have hBf := (((Below.setCell hB26 (p := ⟨(World.heap W).size, 0, none⟩) hple (.int .i64 a1)).setCell (p := ⟨(World.heap W).size, 1, none⟩) hple (.int .i64 a2)).setCell (p := ⟨(World.heap W).size, 2, none⟩) hple (.int .i64 a3)).setCell (p := ⟨(World.heap W).size, 3, none⟩) hple (.int .i64 a4)
      refine hK.out _ _ hBf (fun hHeld => ?_)
      clear hK K
      try simp only [Act.put, List.setIfInBounds_toArray, List.set_cons_zero, List.set_cons_succ]
      refine takeD (i := 10) (d := some 6) (v := ?vt28) rfl rfl (by kernel_rfl) (by kernel_rfl) (by kernel_rfl) (fun _ _ _ h => h) (Or.inl ⟨by rfl, ?hyt28⟩) (by assumption) ?_
      case hyt28 => (intro w hSw; (try dsimp only at hSw); go_simp <;> with_reducible rfl)
      try simp only [Act.put, List.setIfInBounds_toArray, List.set_cons_zero, List.set_cons_succ]
      refine wpAnyH_done (by kernel_rfl) ?_ _
      refine NoPanic.normal ?_
      go_wp2_with fail
      go_meet
      case rel => exact ⟨_, rfl, rfl, hBf, s0, s1, s2, s3⟩
  case rest =>
    obtain ⟨p, rfl, rfl, hBc, e0, e1, e2, e3⟩ := hcut
    have hT' := HT.out.below hBc
    have HT' : Hid (There wc (w.heap.size + 1) 4) := hT'
    have t0 := hT'.cell 0 (by omega)
    have t1 := hT'.cell 1 (by omega)
    have t2 := hT'.cell 2 (by omega)
    have t3 := hT'.cell 3 (by omega)
    have z0 := (hT' 0 (by omega)).2
    have z1 := (hT' 1 (by omega)).2
    have z2 := (hT' 2 (by omega)).2
    have z3 := (hT' 3 (by omega)).2
    have hszc : w.heap.size + 1 < wc.heap.size := Nat.lt_of_lt_of_le hsW hBc.size
    have hBw : Hid (Below w.heap.size w wc) := bl_then HB0.out hBc
    clear c0 c1 c2 c3 c4 c5 c6 hT' hBc hr0
    go_wp2_with fail
    obtain ⟨s0, s1, s2, s3⟩ := set4_at (a := .int .i64 (a1 - r)) (b := .int .i64 (a2 - r)) (c := .int .i64 (a3 + r)) (d := .int .i64 (a4 + r)) HT'.out
    refine bodyPost_ret (v := .agg #[.int .i64 (a1 - r), .int .i64 (a2 - r), .int .i64 (a3 + r), .int .i64 (a4 + r)]) (by simp [results, Tryz.results79, go_sem, s0, s1, s2, s3]) rfl ⟨by rw [HV.out], ?_⟩
    have HB := hBw.out
    (repeat (first | exact Below.refl _ _ | assumption | refine Below.drew ?_ | refine bl_alloc ?_ _ | refine bl_then ?_ (by assumption) | refine Below.setCell ?_ (by first | omega | (simp; done) | (simp; omega)) _ | refine bl_store ?_ ?_ _ _))
end Go.Proofs.YtgpdpodagoligaaGreat
