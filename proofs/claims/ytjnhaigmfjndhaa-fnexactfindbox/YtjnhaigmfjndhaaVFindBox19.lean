/- One kid's bounds, by the model. -/
import Derived.Test.YtjnhaigmfjndhaaVFindBox18
namespace Go.Proofs.Ytjnhaigmfjndhaa
open Go.RowKit Go.Shelf
set_option linter.unusedSimpArgs false
set_option linter.unusedVariables false
set_option maxRecDepth 100000

set_option maxHeartbeats 4000000 in
theorem l5Kid_0 (a b c d : Int) (w : World) (ha : -1024 ≤ a ∧ a ≤ 4096) (hb : -1024 ≤ b ∧ b ≤ 4096) (hc : -1024 ≤ c ∧ c ≤ 4096) (hd : -1024 ≤ d ∧ d ≤ 4096) :
    Calls Try.prog 63 #[.agg #[.int .i64 a, .int .i64 b, .int .i64 c, .int .i64 d], .int .i64 0] w fun e w' => e = .returned (.agg #[.int .i64 a, .int .i64 b, .int .i64 (mid a c), .int .i64 (mid b d)]) ∧ Below w.heap.size w w' := by
  have m1 : -1024 ≤ mid a c ∧ mid a c ≤ 4096 := by unfold mid; omega
  have m2 : -1024 ≤ mid b d ∧ mid b d ≤ 4096 := by unfold mid; omega
  have HM1 : Hid (∀ W : World, Calls Try.prog 91 #[.int .i64 a, .int .i64 c] W fun e w' => e = .returned (.int .i64 (mid a c)) ∧ W = w') := fun W => (l5Half_any a c W ha hc).mono (fun _ _ h => ⟨h.1, h.2.symm⟩)
  have HM2 : Hid (∀ W : World, Calls Try.prog 91 #[.int .i64 b, .int .i64 d] W fun e w' => e = .returned (.int .i64 (mid b d)) ∧ W = w') := fun W => (l5Half_any b d W hb hd).mono (fun _ _ h => ⟨h.1, h.2.symm⟩)
  generalize mid a c = x at *
  generalize mid b d = y at *
  go_enter Try.func63, Try.ntmps63
  go_upto_region 1 with fail
  generalize hV : ((w.alloc _).alloc _ : World) = V
  have hB0 : Below w.heap.size w V := by subst hV; (repeat (first | exact Below.refl _ _ | assumption | refine Below.drew ?_ | refine bl_alloc ?_ _ | refine bl_then ?_ (by assumption) | refine Below.setCell ?_ (by first | omega | (simp; done) | (simp; omega)) _ | refine bl_store ?_ ?_ _ _))
  have c0 : V.cell? ⟨w.heap.size, 0, none⟩ = some (.int .i64 a) := by subst hV; simp [go_sem]
  have c1 : V.cell? ⟨w.heap.size, 1, none⟩ = some (.int .i64 b) := by subst hV; simp [go_sem]
  have c2 : V.cell? ⟨w.heap.size, 2, none⟩ = some (.int .i64 c) := by subst hV; simp [go_sem]
  have c3 : V.cell? ⟨w.heap.size, 3, none⟩ = some (.int .i64 d) := by subst hV; simp [go_sem]
  have HT : Hid (There V (w.heap.size + 1) 4) := by
    show There _ _ _
    subst hV
    have hb := World.alloc_heap_new (w.alloc (.cells #[.int .i64 a, .int .i64 b, .int .i64 c, .int .i64 d] 36)) (.cells #[.int .i64 0, .int .i64 0, .int .i64 0, .int .i64 0] 36)
    rw [World.size_alloc] at hb
    exact there_block hb
  have hsV : w.heap.size + 1 < V.heap.size := by subst hV; simp
  clear hV
  have HB0 : Hid (Below w.heap.size w V) := hB0
  clear hB0
  go_upto_region 2 with (go_at_call 91; refine (HM1.out _).mono ?_; rintro e w' ⟨rfl, rfl⟩)
  clear HM1
  go_upto_region 3 with (go_at_call 91; refine (HM2.out _).mono ?_; rintro e w' ⟨rfl, rfl⟩)
  clear HM2
  go_upto_region 4 with fail
  generalize hU : (V.alloc _ : World) = U
  have hBU : Below V.heap.size V U := by subst hU; (repeat (first | exact Below.refl _ _ | assumption | refine Below.drew ?_ | refine bl_alloc ?_ _ | refine bl_then ?_ (by assumption) | refine Below.setCell ?_ (by first | omega | (simp; done) | (simp; omega)) _ | refine bl_store ?_ ?_ _ _))
  have T0 := HT.out.below hBU
  have TU : There U V.heap.size 4 := by subst hU; exact there_block (World.alloc_heap_new V (.cells #[.int .i64 a, .int .i64 b, .int .i64 x, .int .i64 y] 36))
  have n0 : U.cell? ⟨V.heap.size, 0, none⟩ = some (.int .i64 a) := by subst hU; simp [go_sem]
  have n1 : U.cell? ⟨V.heap.size, 1, none⟩ = some (.int .i64 b) := by subst hU; simp [go_sem]
  have n2 : U.cell? ⟨V.heap.size, 2, none⟩ = some (.int .i64 x) := by subst hU; simp [go_sem]
  have n3 : U.cell? ⟨V.heap.size, 3, none⟩ = some (.int .i64 y) := by subst hU; simp [go_sem]
  have d0 := (hBU.cell (p := ⟨w.heap.size, 0, none⟩) (by show w.heap.size < _; omega)).trans c0
  have d1 := (hBU.cell (p := ⟨w.heap.size, 1, none⟩) (by show w.heap.size < _; omega)).trans c1
  have d2 := (hBU.cell (p := ⟨w.heap.size, 2, none⟩) (by show w.heap.size < _; omega)).trans c2
  have d3 := (hBU.cell (p := ⟨w.heap.size, 3, none⟩) (by show w.heap.size < _; omega)).trans c3
  have t0 := T0.cell 0 (by omega)
  have f0 := (T0 0 (by omega)).2
  have g0 := (TU 0 (by omega)).2
  have t1 := T0.cell 1 (by omega)
  have f1 := (T0 1 (by omega)).2
  have g1 := (TU 1 (by omega)).2
  have t2 := T0.cell 2 (by omega)
  have f2 := (T0 2 (by omega)).2
  have g2 := (TU 2 (by omega)).2
  have t3 := T0.cell 3 (by omega)
  have f3 := (T0 3 (by omega)).2
  have g3 := (TU 3 (by omega)).2
  have HT0 : Hid (There U (w.heap.size + 1) 4) := T0
  have HBU : Hid (Below w.heap.size w U) := bl_then HB0.out hBU
  have ne1 : V.heap.size ≠ w.heap.size + 1 := by omega
  have ne2 : V.heap.size ≠ w.heap.size := by omega
  have ne3 : w.heap.size + 1 ≠ V.heap.size := by omega
  have ne4 : w.heap.size ≠ V.heap.size := by omega
  clear hU hBU T0 TU c0 c1 c2 c3
  go_wp2_with fail
  have hle : w.heap.size ≤ V.heap.size := by omega
  obtain ⟨X, hX⟩ : ∃ X : World, ((((U.setCell ⟨w.heap.size + 1, 0, none⟩ (.int .i64 a)).setCell ⟨w.heap.size + 1, 1, none⟩ (.int .i64 b)).setCell ⟨w.heap.size + 1, 2, none⟩ (.int .i64 x)).setCell ⟨w.heap.size + 1, 3, none⟩ (.int .i64 y)) = X := ⟨_, rfl⟩
  have hX' : lays U (w.heap.size + 1) 0 [.int .i64 a, .int .i64 b, .int .i64 x, .int .i64 y] = X := hX
  rw [hX]
  have hT := HT0.out
  have hL : ∀ i (h : i < 4), X.cell? ⟨w.heap.size + 1, i, none⟩ = some (([.int .i64 a, .int .i64 b, .int .i64 x, .int .i64 y] : List Value)[i]) := by
    intro i h
    rw [← hX']
    have := lays_at (vs := [.int .i64 a, .int .i64 b, .int .i64 x, .int .i64 y]) 0 hT i h
    simpa using this
  have hBX : Below w.heap.size w X := by
    rw [← hX']
    exact lays_below HBU.out (by omega)
  clear hX hX' hT
  have q0 : X.cell? ⟨w.heap.size + 1, 0, none⟩ = some (.int .i64 a) := hL 0 (by decide)
  have q1 : X.cell? ⟨w.heap.size + 1, 1, none⟩ = some (.int .i64 b) := hL 1 (by decide)
  have q2 : X.cell? ⟨w.heap.size + 1, 2, none⟩ = some (.int .i64 x) := hL 2 (by decide)
  have q3 : X.cell? ⟨w.heap.size + 1, 3, none⟩ = some (.int .i64 y) := hL 3 (by decide)
  exact bodyPost_ret (v := .agg #[.int .i64 a, .int .i64 b, .int .i64 x, .int .i64 y]) (by simp [results, Try.results63, go_sem, q0, q1, q2, q3]) rfl ⟨rfl, hBX⟩
set_option maxHeartbeats 4000000 in
theorem l5Kid_1 (a b c d : Int) (w : World) (ha : -1024 ≤ a ∧ a ≤ 4096) (hb : -1024 ≤ b ∧ b ≤ 4096) (hc : -1024 ≤ c ∧ c ≤ 4096) (hd : -1024 ≤ d ∧ d ≤ 4096) :
    Calls Try.prog 63 #[.agg #[.int .i64 a, .int .i64 b, .int .i64 c, .int .i64 d], .int .i64 1] w fun e w' => e = .returned (.agg #[.int .i64 (mid a c + 1), .int .i64 b, .int .i64 c, .int .i64 (mid b d)]) ∧ Below w.heap.size w w' := by
  have m1 : -1024 ≤ mid a c ∧ mid a c ≤ 4096 := by unfold mid; omega
  have m2 : -1024 ≤ mid b d ∧ mid b d ≤ 4096 := by unfold mid; omega
  have HM1 : Hid (∀ W : World, Calls Try.prog 91 #[.int .i64 a, .int .i64 c] W fun e w' => e = .returned (.int .i64 (mid a c)) ∧ W = w') := fun W => (l5Half_any a c W ha hc).mono (fun _ _ h => ⟨h.1, h.2.symm⟩)
  have HM2 : Hid (∀ W : World, Calls Try.prog 91 #[.int .i64 b, .int .i64 d] W fun e w' => e = .returned (.int .i64 (mid b d)) ∧ W = w') := fun W => (l5Half_any b d W hb hd).mono (fun _ _ h => ⟨h.1, h.2.symm⟩)
  generalize mid a c = x at *
  generalize mid b d = y at *
  go_enter Try.func63, Try.ntmps63
  go_upto_region 1 with fail
  generalize hV : ((w.alloc _).alloc _ : World) = V
  have hB0 : Below w.heap.size w V := by subst hV; (repeat (first | exact Below.refl _ _ | assumption | refine Below.drew ?_ | refine bl_alloc ?_ _ | refine bl_then ?_ (by assumption) | refine Below.setCell ?_ (by first | omega | (simp; done) | (simp; omega)) _ | refine bl_store ?_ ?_ _ _))
  have c0 : V.cell? ⟨w.heap.size, 0, none⟩ = some (.int .i64 a) := by subst hV; simp [go_sem]
  have c1 : V.cell? ⟨w.heap.size, 1, none⟩ = some (.int .i64 b) := by subst hV; simp [go_sem]
  have c2 : V.cell? ⟨w.heap.size, 2, none⟩ = some (.int .i64 c) := by subst hV; simp [go_sem]
  have c3 : V.cell? ⟨w.heap.size, 3, none⟩ = some (.int .i64 d) := by subst hV; simp [go_sem]
  have HT : Hid (There V (w.heap.size + 1) 4) := by
    show There _ _ _
    subst hV
    have hb := World.alloc_heap_new (w.alloc (.cells #[.int .i64 a, .int .i64 b, .int .i64 c, .int .i64 d] 36)) (.cells #[.int .i64 0, .int .i64 0, .int .i64 0, .int .i64 0] 36)
    rw [World.size_alloc] at hb
    exact there_block hb
  have hsV : w.heap.size + 1 < V.heap.size := by subst hV; simp
  clear hV
  have HB0 : Hid (Below w.heap.size w V) := hB0
  clear hB0
  go_upto_region 2 with (go_at_call 91; refine (HM1.out _).mono ?_; rintro e w' ⟨rfl, rfl⟩)
  clear HM1
  go_upto_region 3 with (go_at_call 91; refine (HM2.out _).mono ?_; rintro e w' ⟨rfl, rfl⟩)
  clear HM2
  go_upto_region 4 with fail
  generalize hU : (V.alloc _ : World) = U
  have hBU : Below V.heap.size V U := by subst hU; (repeat (first | exact Below.refl _ _ | assumption | refine Below.drew ?_ | refine bl_alloc ?_ _ | refine bl_then ?_ (by assumption) | refine Below.setCell ?_ (by first | omega | (simp; done) | (simp; omega)) _ | refine bl_store ?_ ?_ _ _))
  have T0 := HT.out.below hBU
  have TU : There U V.heap.size 4 := by subst hU; exact there_block (World.alloc_heap_new V (.cells #[.int .i64 a, .int .i64 b, .int .i64 x, .int .i64 y] 36))
  have n0 : U.cell? ⟨V.heap.size, 0, none⟩ = some (.int .i64 a) := by subst hU; simp [go_sem]
  have n1 : U.cell? ⟨V.heap.size, 1, none⟩ = some (.int .i64 b) := by subst hU; simp [go_sem]
  have n2 : U.cell? ⟨V.heap.size, 2, none⟩ = some (.int .i64 x) := by subst hU; simp [go_sem]
  have n3 : U.cell? ⟨V.heap.size, 3, none⟩ = some (.int .i64 y) := by subst hU; simp [go_sem]
  have d0 := (hBU.cell (p := ⟨w.heap.size, 0, none⟩) (by show w.heap.size < _; omega)).trans c0
  have d1 := (hBU.cell (p := ⟨w.heap.size, 1, none⟩) (by show w.heap.size < _; omega)).trans c1
  have d2 := (hBU.cell (p := ⟨w.heap.size, 2, none⟩) (by show w.heap.size < _; omega)).trans c2
  have d3 := (hBU.cell (p := ⟨w.heap.size, 3, none⟩) (by show w.heap.size < _; omega)).trans c3
  have t0 := T0.cell 0 (by omega)
  have f0 := (T0 0 (by omega)).2
  have g0 := (TU 0 (by omega)).2
  have t1 := T0.cell 1 (by omega)
  have f1 := (T0 1 (by omega)).2
  have g1 := (TU 1 (by omega)).2
  have t2 := T0.cell 2 (by omega)
  have f2 := (T0 2 (by omega)).2
  have g2 := (TU 2 (by omega)).2
  have t3 := T0.cell 3 (by omega)
  have f3 := (T0 3 (by omega)).2
  have g3 := (TU 3 (by omega)).2
  have HT0 : Hid (There U (w.heap.size + 1) 4) := T0
  have HBU : Hid (Below w.heap.size w U) := bl_then HB0.out hBU
  have ne1 : V.heap.size ≠ w.heap.size + 1 := by omega
  have ne2 : V.heap.size ≠ w.heap.size := by omega
  have ne3 : w.heap.size + 1 ≠ V.heap.size := by omega
  have ne4 : w.heap.size ≠ V.heap.size := by omega
  clear hU hBU T0 TU c0 c1 c2 c3
  go_wp2_with fail
  have hle : w.heap.size ≤ V.heap.size := by omega
  obtain ⟨X, hX⟩ : ∃ X : World, ((((((U.setCell ⟨V.heap.size, 0, none⟩ (.int .i64 (x + 1))).setCell ⟨V.heap.size, 2, none⟩ (.int .i64 (c))).setCell ⟨w.heap.size + 1, 0, none⟩ (.int .i64 (x + 1))).setCell ⟨w.heap.size + 1, 1, none⟩ (.int .i64 b)).setCell ⟨w.heap.size + 1, 2, none⟩ (.int .i64 c)).setCell ⟨w.heap.size + 1, 3, none⟩ (.int .i64 y)) = X := ⟨_, rfl⟩
  have hX' : lays ((U.setCell ⟨V.heap.size, 0, none⟩ (.int .i64 (x + 1))).setCell ⟨V.heap.size, 2, none⟩ (.int .i64 (c))) (w.heap.size + 1) 0 [.int .i64 (x + 1), .int .i64 b, .int .i64 c, .int .i64 y] = X := hX
  rw [hX]
  have hT := ((HT0.out.out' (o := 0) (x := .int .i64 (x + 1)) ne1).out' (o := 2) (x := .int .i64 (c)) ne1)
  have hL : ∀ i (h : i < 4), X.cell? ⟨w.heap.size + 1, i, none⟩ = some (([.int .i64 (x + 1), .int .i64 b, .int .i64 c, .int .i64 y] : List Value)[i]) := by
    intro i h
    rw [← hX']
    have := lays_at (vs := [.int .i64 (x + 1), .int .i64 b, .int .i64 c, .int .i64 y]) 0 hT i h
    simpa using this
  have hBX : Below w.heap.size w X := by
    rw [← hX']
    exact lays_below ((HBU.out.setCell (p := ⟨V.heap.size, 0, none⟩) hle (.int .i64 (x + 1))).setCell (p := ⟨V.heap.size, 2, none⟩) hle (.int .i64 (c))) (by omega)
  clear hX hX' hT
  have q0 : X.cell? ⟨w.heap.size + 1, 0, none⟩ = some (.int .i64 (x + 1)) := hL 0 (by decide)
  have q1 : X.cell? ⟨w.heap.size + 1, 1, none⟩ = some (.int .i64 b) := hL 1 (by decide)
  have q2 : X.cell? ⟨w.heap.size + 1, 2, none⟩ = some (.int .i64 c) := hL 2 (by decide)
  have q3 : X.cell? ⟨w.heap.size + 1, 3, none⟩ = some (.int .i64 y) := hL 3 (by decide)
  exact bodyPost_ret (v := .agg #[.int .i64 (x + 1), .int .i64 b, .int .i64 c, .int .i64 y]) (by simp [results, Try.results63, go_sem, q0, q1, q2, q3]) rfl ⟨rfl, hBX⟩
set_option maxHeartbeats 4000000 in
theorem l5Kid_2 (a b c d : Int) (w : World) (ha : -1024 ≤ a ∧ a ≤ 4096) (hb : -1024 ≤ b ∧ b ≤ 4096) (hc : -1024 ≤ c ∧ c ≤ 4096) (hd : -1024 ≤ d ∧ d ≤ 4096) :
    Calls Try.prog 63 #[.agg #[.int .i64 a, .int .i64 b, .int .i64 c, .int .i64 d], .int .i64 2] w fun e w' => e = .returned (.agg #[.int .i64 a, .int .i64 (mid b d + 1), .int .i64 (mid a c), .int .i64 d]) ∧ Below w.heap.size w w' := by
  have m1 : -1024 ≤ mid a c ∧ mid a c ≤ 4096 := by unfold mid; omega
  have m2 : -1024 ≤ mid b d ∧ mid b d ≤ 4096 := by unfold mid; omega
  have HM1 : Hid (∀ W : World, Calls Try.prog 91 #[.int .i64 a, .int .i64 c] W fun e w' => e = .returned (.int .i64 (mid a c)) ∧ W = w') := fun W => (l5Half_any a c W ha hc).mono (fun _ _ h => ⟨h.1, h.2.symm⟩)
  have HM2 : Hid (∀ W : World, Calls Try.prog 91 #[.int .i64 b, .int .i64 d] W fun e w' => e = .returned (.int .i64 (mid b d)) ∧ W = w') := fun W => (l5Half_any b d W hb hd).mono (fun _ _ h => ⟨h.1, h.2.symm⟩)
  generalize mid a c = x at *
  generalize mid b d = y at *
  go_enter Try.func63, Try.ntmps63
  go_upto_region 1 with fail
  generalize hV : ((w.alloc _).alloc _ : World) = V
  have hB0 : Below w.heap.size w V := by subst hV; (repeat (first | exact Below.refl _ _ | assumption | refine Below.drew ?_ | refine bl_alloc ?_ _ | refine bl_then ?_ (by assumption) | refine Below.setCell ?_ (by first | omega | (simp; done) | (simp; omega)) _ | refine bl_store ?_ ?_ _ _))
  have c0 : V.cell? ⟨w.heap.size, 0, none⟩ = some (.int .i64 a) := by subst hV; simp [go_sem]
  have c1 : V.cell? ⟨w.heap.size, 1, none⟩ = some (.int .i64 b) := by subst hV; simp [go_sem]
  have c2 : V.cell? ⟨w.heap.size, 2, none⟩ = some (.int .i64 c) := by subst hV; simp [go_sem]
  have c3 : V.cell? ⟨w.heap.size, 3, none⟩ = some (.int .i64 d) := by subst hV; simp [go_sem]
  have HT : Hid (There V (w.heap.size + 1) 4) := by
    show There _ _ _
    subst hV
    have hb := World.alloc_heap_new (w.alloc (.cells #[.int .i64 a, .int .i64 b, .int .i64 c, .int .i64 d] 36)) (.cells #[.int .i64 0, .int .i64 0, .int .i64 0, .int .i64 0] 36)
    rw [World.size_alloc] at hb
    exact there_block hb
  have hsV : w.heap.size + 1 < V.heap.size := by subst hV; simp
  clear hV
  have HB0 : Hid (Below w.heap.size w V) := hB0
  clear hB0
  go_upto_region 2 with (go_at_call 91; refine (HM1.out _).mono ?_; rintro e w' ⟨rfl, rfl⟩)
  clear HM1
  go_upto_region 3 with (go_at_call 91; refine (HM2.out _).mono ?_; rintro e w' ⟨rfl, rfl⟩)
  clear HM2
  go_upto_region 4 with fail
  generalize hU : (V.alloc _ : World) = U
  have hBU : Below V.heap.size V U := by subst hU; (repeat (first | exact Below.refl _ _ | assumption | refine Below.drew ?_ | refine bl_alloc ?_ _ | refine bl_then ?_ (by assumption) | refine Below.setCell ?_ (by first | omega | (simp; done) | (simp; omega)) _ | refine bl_store ?_ ?_ _ _))
  have T0 := HT.out.below hBU
  have TU : There U V.heap.size 4 := by subst hU; exact there_block (World.alloc_heap_new V (.cells #[.int .i64 a, .int .i64 b, .int .i64 x, .int .i64 y] 36))
  have n0 : U.cell? ⟨V.heap.size, 0, none⟩ = some (.int .i64 a) := by subst hU; simp [go_sem]
  have n1 : U.cell? ⟨V.heap.size, 1, none⟩ = some (.int .i64 b) := by subst hU; simp [go_sem]
  have n2 : U.cell? ⟨V.heap.size, 2, none⟩ = some (.int .i64 x) := by subst hU; simp [go_sem]
  have n3 : U.cell? ⟨V.heap.size, 3, none⟩ = some (.int .i64 y) := by subst hU; simp [go_sem]
  have d0 := (hBU.cell (p := ⟨w.heap.size, 0, none⟩) (by show w.heap.size < _; omega)).trans c0
  have d1 := (hBU.cell (p := ⟨w.heap.size, 1, none⟩) (by show w.heap.size < _; omega)).trans c1
  have d2 := (hBU.cell (p := ⟨w.heap.size, 2, none⟩) (by show w.heap.size < _; omega)).trans c2
  have d3 := (hBU.cell (p := ⟨w.heap.size, 3, none⟩) (by show w.heap.size < _; omega)).trans c3
  have t0 := T0.cell 0 (by omega)
  have f0 := (T0 0 (by omega)).2
  have g0 := (TU 0 (by omega)).2
  have t1 := T0.cell 1 (by omega)
  have f1 := (T0 1 (by omega)).2
  have g1 := (TU 1 (by omega)).2
  have t2 := T0.cell 2 (by omega)
  have f2 := (T0 2 (by omega)).2
  have g2 := (TU 2 (by omega)).2
  have t3 := T0.cell 3 (by omega)
  have f3 := (T0 3 (by omega)).2
  have g3 := (TU 3 (by omega)).2
  have HT0 : Hid (There U (w.heap.size + 1) 4) := T0
  have HBU : Hid (Below w.heap.size w U) := bl_then HB0.out hBU
  have ne1 : V.heap.size ≠ w.heap.size + 1 := by omega
  have ne2 : V.heap.size ≠ w.heap.size := by omega
  have ne3 : w.heap.size + 1 ≠ V.heap.size := by omega
  have ne4 : w.heap.size ≠ V.heap.size := by omega
  clear hU hBU T0 TU c0 c1 c2 c3
  go_wp2_with fail
  have hle : w.heap.size ≤ V.heap.size := by omega
  obtain ⟨X, hX⟩ : ∃ X : World, ((((((U.setCell ⟨V.heap.size, 1, none⟩ (.int .i64 (y + 1))).setCell ⟨V.heap.size, 3, none⟩ (.int .i64 (d))).setCell ⟨w.heap.size + 1, 0, none⟩ (.int .i64 a)).setCell ⟨w.heap.size + 1, 1, none⟩ (.int .i64 (y + 1))).setCell ⟨w.heap.size + 1, 2, none⟩ (.int .i64 x)).setCell ⟨w.heap.size + 1, 3, none⟩ (.int .i64 d)) = X := ⟨_, rfl⟩
  have hX' : lays ((U.setCell ⟨V.heap.size, 1, none⟩ (.int .i64 (y + 1))).setCell ⟨V.heap.size, 3, none⟩ (.int .i64 (d))) (w.heap.size + 1) 0 [.int .i64 a, .int .i64 (y + 1), .int .i64 x, .int .i64 d] = X := hX
  rw [hX]
  have hT := ((HT0.out.out' (o := 1) (x := .int .i64 (y + 1)) ne1).out' (o := 3) (x := .int .i64 (d)) ne1)
  have hL : ∀ i (h : i < 4), X.cell? ⟨w.heap.size + 1, i, none⟩ = some (([.int .i64 a, .int .i64 (y + 1), .int .i64 x, .int .i64 d] : List Value)[i]) := by
    intro i h
    rw [← hX']
    have := lays_at (vs := [.int .i64 a, .int .i64 (y + 1), .int .i64 x, .int .i64 d]) 0 hT i h
    simpa using this
  have hBX : Below w.heap.size w X := by
    rw [← hX']
    exact lays_below ((HBU.out.setCell (p := ⟨V.heap.size, 1, none⟩) hle (.int .i64 (y + 1))).setCell (p := ⟨V.heap.size, 3, none⟩) hle (.int .i64 (d))) (by omega)
  clear hX hX' hT
  have q0 : X.cell? ⟨w.heap.size + 1, 0, none⟩ = some (.int .i64 a) := hL 0 (by decide)
  have q1 : X.cell? ⟨w.heap.size + 1, 1, none⟩ = some (.int .i64 (y + 1)) := hL 1 (by decide)
  have q2 : X.cell? ⟨w.heap.size + 1, 2, none⟩ = some (.int .i64 x) := hL 2 (by decide)
  have q3 : X.cell? ⟨w.heap.size + 1, 3, none⟩ = some (.int .i64 d) := hL 3 (by decide)
  exact bodyPost_ret (v := .agg #[.int .i64 a, .int .i64 (y + 1), .int .i64 x, .int .i64 d]) (by simp [results, Try.results63, go_sem, q0, q1, q2, q3]) rfl ⟨rfl, hBX⟩
set_option maxHeartbeats 4000000 in
theorem l5Kid_3 (a b c d : Int) (w : World) (ha : -1024 ≤ a ∧ a ≤ 4096) (hb : -1024 ≤ b ∧ b ≤ 4096) (hc : -1024 ≤ c ∧ c ≤ 4096) (hd : -1024 ≤ d ∧ d ≤ 4096) :
    Calls Try.prog 63 #[.agg #[.int .i64 a, .int .i64 b, .int .i64 c, .int .i64 d], .int .i64 3] w fun e w' => e = .returned (.agg #[.int .i64 (mid a c + 1), .int .i64 (mid b d + 1), .int .i64 c, .int .i64 d]) ∧ Below w.heap.size w w' := by
  have m1 : -1024 ≤ mid a c ∧ mid a c ≤ 4096 := by unfold mid; omega
  have m2 : -1024 ≤ mid b d ∧ mid b d ≤ 4096 := by unfold mid; omega
  have HM1 : Hid (∀ W : World, Calls Try.prog 91 #[.int .i64 a, .int .i64 c] W fun e w' => e = .returned (.int .i64 (mid a c)) ∧ W = w') := fun W => (l5Half_any a c W ha hc).mono (fun _ _ h => ⟨h.1, h.2.symm⟩)
  have HM2 : Hid (∀ W : World, Calls Try.prog 91 #[.int .i64 b, .int .i64 d] W fun e w' => e = .returned (.int .i64 (mid b d)) ∧ W = w') := fun W => (l5Half_any b d W hb hd).mono (fun _ _ h => ⟨h.1, h.2.symm⟩)
  generalize mid a c = x at *
  generalize mid b d = y at *
  go_enter Try.func63, Try.ntmps63
  go_upto_region 1 with fail
  generalize hV : ((w.alloc _).alloc _ : World) = V
  have hB0 : Below w.heap.size w V := by subst hV; (repeat (first | exact Below.refl _ _ | assumption | refine Below.drew ?_ | refine bl_alloc ?_ _ | refine bl_then ?_ (by assumption) | refine Below.setCell ?_ (by first | omega | (simp; done) | (simp; omega)) _ | refine bl_store ?_ ?_ _ _))
  have c0 : V.cell? ⟨w.heap.size, 0, none⟩ = some (.int .i64 a) := by subst hV; simp [go_sem]
  have c1 : V.cell? ⟨w.heap.size, 1, none⟩ = some (.int .i64 b) := by subst hV; simp [go_sem]
  have c2 : V.cell? ⟨w.heap.size, 2, none⟩ = some (.int .i64 c) := by subst hV; simp [go_sem]
  have c3 : V.cell? ⟨w.heap.size, 3, none⟩ = some (.int .i64 d) := by subst hV; simp [go_sem]
  have HT : Hid (There V (w.heap.size + 1) 4) := by
    show There _ _ _
    subst hV
    have hb := World.alloc_heap_new (w.alloc (.cells #[.int .i64 a, .int .i64 b, .int .i64 c, .int .i64 d] 36)) (.cells #[.int .i64 0, .int .i64 0, .int .i64 0, .int .i64 0] 36)
    rw [World.size_alloc] at hb
    exact there_block hb
  have hsV : w.heap.size + 1 < V.heap.size := by subst hV; simp
  clear hV
  have HB0 : Hid (Below w.heap.size w V) := hB0
  clear hB0
  go_upto_region 2 with (go_at_call 91; refine (HM1.out _).mono ?_; rintro e w' ⟨rfl, rfl⟩)
  clear HM1
  go_upto_region 3 with (go_at_call 91; refine (HM2.out _).mono ?_; rintro e w' ⟨rfl, rfl⟩)
  clear HM2
  go_upto_region 4 with fail
  generalize hU : (V.alloc _ : World) = U
  have hBU : Below V.heap.size V U := by subst hU; (repeat (first | exact Below.refl _ _ | assumption | refine Below.drew ?_ | refine bl_alloc ?_ _ | refine bl_then ?_ (by assumption) | refine Below.setCell ?_ (by first | omega | (simp; done) | (simp; omega)) _ | refine bl_store ?_ ?_ _ _))
  have T0 := HT.out.below hBU
  have TU : There U V.heap.size 4 := by subst hU; exact there_block (World.alloc_heap_new V (.cells #[.int .i64 a, .int .i64 b, .int .i64 x, .int .i64 y] 36))
  have n0 : U.cell? ⟨V.heap.size, 0, none⟩ = some (.int .i64 a) := by subst hU; simp [go_sem]
  have n1 : U.cell? ⟨V.heap.size, 1, none⟩ = some (.int .i64 b) := by subst hU; simp [go_sem]
  have n2 : U.cell? ⟨V.heap.size, 2, none⟩ = some (.int .i64 x) := by subst hU; simp [go_sem]
  have n3 : U.cell? ⟨V.heap.size, 3, none⟩ = some (.int .i64 y) := by subst hU; simp [go_sem]
  have d0 := (hBU.cell (p := ⟨w.heap.size, 0, none⟩) (by show w.heap.size < _; omega)).trans c0
  have d1 := (hBU.cell (p := ⟨w.heap.size, 1, none⟩) (by show w.heap.size < _; omega)).trans c1
  have d2 := (hBU.cell (p := ⟨w.heap.size, 2, none⟩) (by show w.heap.size < _; omega)).trans c2
  have d3 := (hBU.cell (p := ⟨w.heap.size, 3, none⟩) (by show w.heap.size < _; omega)).trans c3
  have t0 := T0.cell 0 (by omega)
  have f0 := (T0 0 (by omega)).2
  have g0 := (TU 0 (by omega)).2
  have t1 := T0.cell 1 (by omega)
  have f1 := (T0 1 (by omega)).2
  have g1 := (TU 1 (by omega)).2
  have t2 := T0.cell 2 (by omega)
  have f2 := (T0 2 (by omega)).2
  have g2 := (TU 2 (by omega)).2
  have t3 := T0.cell 3 (by omega)
  have f3 := (T0 3 (by omega)).2
  have g3 := (TU 3 (by omega)).2
  have HT0 : Hid (There U (w.heap.size + 1) 4) := T0
  have HBU : Hid (Below w.heap.size w U) := bl_then HB0.out hBU
  have ne1 : V.heap.size ≠ w.heap.size + 1 := by omega
  have ne2 : V.heap.size ≠ w.heap.size := by omega
  have ne3 : w.heap.size + 1 ≠ V.heap.size := by omega
  have ne4 : w.heap.size ≠ V.heap.size := by omega
  clear hU hBU T0 TU c0 c1 c2 c3
  go_wp2_with fail
  have hle : w.heap.size ≤ V.heap.size := by omega
  obtain ⟨X, hX⟩ : ∃ X : World, ((((((((U.setCell ⟨V.heap.size, 0, none⟩ (.int .i64 (x + 1))).setCell ⟨V.heap.size, 2, none⟩ (.int .i64 (c))).setCell ⟨V.heap.size, 1, none⟩ (.int .i64 (y + 1))).setCell ⟨V.heap.size, 3, none⟩ (.int .i64 (d))).setCell ⟨w.heap.size + 1, 0, none⟩ (.int .i64 (x + 1))).setCell ⟨w.heap.size + 1, 1, none⟩ (.int .i64 (y + 1))).setCell ⟨w.heap.size + 1, 2, none⟩ (.int .i64 c)).setCell ⟨w.heap.size + 1, 3, none⟩ (.int .i64 d)) = X := ⟨_, rfl⟩
  have hX' : lays ((((U.setCell ⟨V.heap.size, 0, none⟩ (.int .i64 (x + 1))).setCell ⟨V.heap.size, 2, none⟩ (.int .i64 (c))).setCell ⟨V.heap.size, 1, none⟩ (.int .i64 (y + 1))).setCell ⟨V.heap.size, 3, none⟩ (.int .i64 (d))) (w.heap.size + 1) 0 [.int .i64 (x + 1), .int .i64 (y + 1), .int .i64 c, .int .i64 d] = X := hX
  rw [hX]
  have hT := ((((HT0.out.out' (o := 0) (x := .int .i64 (x + 1)) ne1).out' (o := 2) (x := .int .i64 (c)) ne1).out' (o := 1) (x := .int .i64 (y + 1)) ne1).out' (o := 3) (x := .int .i64 (d)) ne1)
  have hL : ∀ i (h : i < 4), X.cell? ⟨w.heap.size + 1, i, none⟩ = some (([.int .i64 (x + 1), .int .i64 (y + 1), .int .i64 c, .int .i64 d] : List Value)[i]) := by
    intro i h
    rw [← hX']
    have := lays_at (vs := [.int .i64 (x + 1), .int .i64 (y + 1), .int .i64 c, .int .i64 d]) 0 hT i h
    simpa using this
  have hBX : Below w.heap.size w X := by
    rw [← hX']
    exact lays_below ((((HBU.out.setCell (p := ⟨V.heap.size, 0, none⟩) hle (.int .i64 (x + 1))).setCell (p := ⟨V.heap.size, 2, none⟩) hle (.int .i64 (c))).setCell (p := ⟨V.heap.size, 1, none⟩) hle (.int .i64 (y + 1))).setCell (p := ⟨V.heap.size, 3, none⟩) hle (.int .i64 (d))) (by omega)
  clear hX hX' hT
  have q0 : X.cell? ⟨w.heap.size + 1, 0, none⟩ = some (.int .i64 (x + 1)) := hL 0 (by decide)
  have q1 : X.cell? ⟨w.heap.size + 1, 1, none⟩ = some (.int .i64 (y + 1)) := hL 1 (by decide)
  have q2 : X.cell? ⟨w.heap.size + 1, 2, none⟩ = some (.int .i64 c) := hL 2 (by decide)
  have q3 : X.cell? ⟨w.heap.size + 1, 3, none⟩ = some (.int .i64 d) := hL 3 (by decide)
  exact bodyPost_ret (v := .agg #[.int .i64 (x + 1), .int .i64 (y + 1), .int .i64 c, .int .i64 d]) (by simp [results, Try.results63, go_sem, q0, q1, q2, q3]) rfl ⟨rfl, hBX⟩
theorem l5Kid_any (a b c d : Int) (k : Nat) (hk : k < 4) (w : World) (ha : -1024 ≤ a ∧ a ≤ 4096) (hb : -1024 ≤ b ∧ b ≤ 4096) (hc : -1024 ≤ c ∧ c ≤ 4096) (hd : -1024 ≤ d ∧ d ≤ 4096) :
    Calls Try.prog 63 #[.agg #[.int .i64 a, .int .i64 b, .int .i64 c, .int .i64 d], .int .i64 (k : Int)] w fun e w' => e = .returned (.agg #[.int .i64 (kx0 a c k), .int .i64 (ky0 b d k), .int .i64 (kx1 a c k), .int .i64 (ky1 b d k)]) ∧ Below w.heap.size w w' := by
  match k, hk with
  | 0, _ => exact l5Kid_0 a b c d w ha hb hc hd
  | 1, _ => exact l5Kid_1 a b c d w ha hb hc hd
  | 2, _ => exact l5Kid_2 a b c d w ha hb hc hd
  | 3, _ => exact l5Kid_3 a b c d w ha hb hc hd
end Go.Proofs.Ytjnhaigmfjndhaa
