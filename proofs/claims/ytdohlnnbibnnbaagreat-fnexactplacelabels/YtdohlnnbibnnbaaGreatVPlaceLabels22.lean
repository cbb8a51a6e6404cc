/- The farthest point of a list: the program's way. -/
import Derived.Test.YtdohlnnbibnnbaaGreatVPlaceLabels20
import Derived.Test.YtdohlnnbibnnbaaGreatVPlaceLabels1
import Derived.Test.YtdohlnnbibnnbaaGreatVPlaceLabels21
import Derived.Test.YtdohlnnbibnnbaaGreatVPlaceLabels9
import Derived.Deep.DeepCutAuto
namespace Go.Proofs.YtdohlnnbibnnbaaGreat
open Go.RowKit
set_option linter.unusedSimpArgs false
set_option linter.unusedVariables false

theorem Far.shift (X Y : Nat → Int) {f t p : Nat} (hft : f ≤ t) (h : Far (fun i => X (f + i)) (fun i => Y (f + i)) 0 (t - f) 0 (t - f + 1) p) : Far X Y f t f (t + 1) (f + p) := by
  have e : f + (t - f) = t := by omega
  have hg : ∀ i j, gA (fun i => X (f + i)) (fun i => Y (f + i)) 0 (t - f) i j = gA X Y f t (f + i) (f + j) := fun i j => by
    simp only [gA, gO, gU, Nat.add_zero, e]
  refine ⟨by omega, by have := h.hi; omega, fun j h1 h2 => ?_, fun j h1 h2 => ?_⟩
  · have := h.top (j - f) (by omega) (by omega)
    rw [hg] at this
    rw [show f + (j - f) = j by omega] at this
    exact this
  · have := h.first (j - f) (by omega) (by omega)
    rw [hg] at this
    rw [show f + (j - f) = j by omega] at this
    exact this

theorem gO_bd (X Y : Nat → Int) {f t i : Nat} (hf : okP (X f) (Y f) = true) (ht : okP (X t) (Y t) = true) (hi : okP (X i) (Y i) = true) :
    0 ≤ gO X Y f t i ∧ gO X Y f t i ≤ 2748779069440000 ∧ 0 < gU X Y f t i ∧ gU X Y f t i ≤ 52428800 := by
  refine ⟨gO_nonneg X Y f t i, ?_, gU_pos X Y f t i, ?_⟩
  · unfold gO overI
    split
    · have := dist_bd hi hf; omega
    · split
      · have := dist_bd hi ht; omega
      · obtain ⟨x1, x2⟩ := cross_bd hf ht hi
        have := mul_bd (a := crossI (X f) (Y f) (X t) (Y t) (X i) (Y i)) (b := crossI (X f) (Y f) (X t) (Y t) (X i) (Y i)) (B := 52428800) (C := 52428800) (by omega) (by omega) (by omega) (by omega) (by omega)
        omega
  · unfold gU
    exact (under_bd hf ht).2

/-- Block r may be written, and two cells of block A hold what they held. -/
structure KG (r : Nat) (W : World) (A : Nat) (u0 u1 : Value) (W' : World) : Prop where
  reg : Reg r W r 2 W'
  c0 : W'.cell? ⟨A, 0, none⟩ = some u0
  c1 : W'.cell? ⟨A, 1, none⟩ = some u1
theorem KG.drew {r A : Nat} {W W1 : World} {u0 u1 : Value} (h : KG r W A u0 u1 W1) : KG r W A u0 u1 W1.drew := ⟨h.reg.drew, h.c0, h.c1⟩
theorem KG.store {r A : Nat} {W W1 : World} {u0 u1 : Value} (h : KG r W A u0 u1 W1) (hA : A ≠ r) (o : Nat) (v : Value) : KG r W A u0 u1 (W1.setCell ⟨r, o, none⟩ v) :=
  ⟨h.reg.store (Nat.le_refl _) o v, by rw [set1_other (fun e => hA (by injection e with e; exact e.symm))]; exact h.c0, by rw [set1_other (fun e => hA (by injection e with e; exact e.symm))]; exact h.c1⟩

set_option maxRecDepth 8000 in
set_option maxHeartbeats 4000000 in
theorem farthestIn_any (b off N cap : Nat) (X Y : Nat → Int) (w : World) (hp : PtsAt w b off N X Y) (hbl : b < w.heap.size) (hN : 0 < N) (hN' : N ≤ 40) (hok : ∀ i, i < N → okP (X i) (Y i) = true) :
    Calls Tryz.prog 130 #[.slice (some ⟨b, off, none⟩) N cap] w fun e w' => ∃ p : Nat, e = .returned (.int .i64 (p : Int)) ∧ Far X Y 0 (N - 1) 0 N p ∧ Below w.heap.size w w' := by
  have HP : Hid (PtsAt w b off N X Y) := hp
  have HOK : Hid (∀ i, i < N → okP (X i) (Y i) = true) := hok
  clear hp hok
  obtain ⟨f0, f1⟩ := HP.out 0 hN
  obtain ⟨l0, l1⟩ := HP.out (N - 1) (by omega)
  obtain ⟨M, hM⟩ : ∃ M, M = N - 1 := ⟨_, rfl⟩
  rw [← hM] at l0 l1 ⊢
  simp only [Nat.zero_mul, Nat.add_zero] at f0 f1
  have HMi : Hid ((N : Int) - 1 = (M : Int)) := by show _ = _; omega
  have hMl : (M : Int) < (N : Int) := by omega
  have hM0 : (0 : Int) ≤ (M : Int) := by omega
  have hN0 : (0 : Int) < (N : Int) := by omega
  have HM : Hid (M = N - 1) := hM
  clear hM
  go_enter Tryz.func130, Tryz.ntmps130
  go_wp2_with fail
  have hMw : IntKind.i64.wrap ((N : Int) - 1) = (M : Int) := by rw [HMi.out]; exact IntWalk.i64_in _ (by omega)
  have c0 : ∀ W', Below w.heap.size w W' → W'.cell? ⟨b, off, none⟩ = some (.int .i64 (X 0)) := fun W' h => (h.cell (p := ⟨b, off, none⟩) hbl).trans f0
  have c1 : ∀ W', Below w.heap.size w W' → W'.cell? ⟨b, off + 1, none⟩ = some (.int .i64 (Y 0)) := fun W' h => (h.cell (p := ⟨b, off + 1, none⟩) hbl).trans f1
  have c2 : ∀ W', Below w.heap.size w W' → W'.cell? ⟨b, off + M * 2, none⟩ = some (.int .i64 (X M)) := fun W' h => (h.cell (p := ⟨b, off + M * 2, none⟩) hbl).trans l0
  have c3 : ∀ W', Below w.heap.size w W' → W'.cell? ⟨b, off + M * 2 + 1, none⟩ = some (.int .i64 (Y M)) := fun W' h => (h.cell (p := ⟨b, off + M * 2 + 1, none⟩) hbl).trans l1
  clear f0 f1 l0 l1
  go_cut [3, 4] (fun t s wc => ∃ p d : Nat, t = .pointer (some ⟨p, 0, none⟩) ∧ s = .pointer (some ⟨d, 0, none⟩) ∧ Below w.heap.size w wc ∧ wc.cell? ⟨p, 0, none⟩ = some (.int .i64 (X 0)) ∧ wc.cell? ⟨p, 1, none⟩ = some (.int .i64 (Y 0)) ∧ wc.cell? ⟨d, 0, none⟩ = some (.int .i64 (X M)) ∧ wc.cell? ⟨d, 1, none⟩ = some (.int .i64 (Y M)))
  case first =>
    go_region_held3 (fun W' => Below w.heap.size w W') ((repeat (first | exact Below.refl _ _ | assumption | refine Below.drew ?_ | refine bl_alloc ?_ _ | refine bl_then ?_ (by assumption) | refine Below.setCell ?_ (by first | omega | (simp; done) | (simp; omega)) _ | refine bl_store ?_ ?_ _ _)))
      (first | (go_at_call 150; refine (pairOf_ex _ _ _).mono ?_; rintro e w' ⟨rfl, rfl⟩))
    all_goals
      go_wp2_with fail
      go_meet
      case rel =>
        refine ⟨_, _, rfl, rfl, by assumption, ?_, ?_, ?_, ?_⟩ <;> (go_simp; done)
  case rest =>
    obtain ⟨p, d, rfl, rfl, hB1, x1, x2, x3, x4⟩ := hcut
    clear c0 c1 c2 c3
    generalize wc = wA at *
    go_wp2_with fail
    generalize hV : (wA.alloc _ : World) = V
    have hbV : Below wA.heap.size wA V := by subst hV; (repeat (first | exact Below.refl _ _ | assumption | refine Below.drew ?_ | refine bl_alloc ?_ _ | refine bl_then ?_ (by assumption) | refine Below.setCell ?_ (by first | omega | (simp; done) | (simp; omega)) _ | refine bl_store ?_ ?_ _ _))
    have hTV : There V wA.heap.size 2 := by subst hV; exact there2 wA _ _ _
    have m0 : V.cell? ⟨wA.heap.size, 0, none⟩ = some (.int .i64 0) := by subst hV; simp [go_sem]
    have m1 : V.cell? ⟨wA.heap.size, 1, none⟩ = some (.int .i64 1) := by subst hV; simp [go_sem]
    have hlV : wA.heap.size < V.heap.size := World.block_lt_of_cell? _ _ m0
    clear hV
    have y1 := bl_cell hbV x1
    have y2 := bl_cell hbV x2
    have y3 := bl_cell hbV x3
    have y4 := bl_cell hbV x4
    have hpl : p < wA.heap.size := World.block_lt_of_cell? _ _ x1
    have hdl : d < wA.heap.size := World.block_lt_of_cell? _ _ x3
    have hP4 : Hid (V.cell? ⟨p, 0, none⟩ = some (.int .i64 (X 0)) ∧ V.cell? ⟨p, 1, none⟩ = some (.int .i64 (Y 0)) ∧ V.cell? ⟨d, 0, none⟩ = some (.int .i64 (X M)) ∧ V.cell? ⟨d, 1, none⟩ = some (.int .i64 (Y M))) := ⟨y1, y2, y3, y4⟩
    have HBV : Hid (Below w.heap.size w V) := bl_then hB1 hbV
    have HTV : Hid (There V wA.heap.size 2) := hTV
    have HM0 : Hid (V.cell? ⟨wA.heap.size, 0, none⟩ = some (.int .i64 0) ∧ V.cell? ⟨wA.heap.size, 1, none⟩ = some (.int .i64 1)) := ⟨m0, m1⟩
    have hwA : w.heap.size ≤ wA.heap.size := hB1.size
    clear x1 x2 x3 x4 y1 y2 y3 y4 hB1 hbV hTV m0 m1
    go_loopw [5, 24] (fun pl i wr => ∃ j q : Nat, j ≤ N ∧ i = .int .i64 (j : Int) ∧ pl = .int .i64 (q : Int) ∧ Below wA.heap.size V wr ∧ V.heap.size ≤ wr.heap.size ∧ There wr wA.heap.size 2 ∧ wr.cell? ⟨wA.heap.size, 0, none⟩ = some (.int .i64 (gO X Y 0 M q)) ∧ wr.cell? ⟨wA.heap.size, 1, none⟩ = some (.int .i64 (gU X Y 0 M q)) ∧ ((j = 0 ∧ q = 0) ∨ Far X Y 0 M 0 j q)) (fun _ i _ => N - (intOf i).toNat)
    case atStart =>
      obtain ⟨e1, e2⟩ := gO_first X Y 0 M
      exact ⟨0, 0, by omega, rfl, rfl, Below.refl _ _, Nat.le_refl _, HTV.out, by rw [e1]; exact HM0.out.1, by rw [e2]; exact HM0.out.2, .inl ⟨rfl, rfl⟩⟩
    case round =>
      obtain ⟨j, q, hj, rfl, rfl, hB, hS, hT, k0, k1, hF⟩ := hrel
      by_cases hlt : j < N
      · obtain ⟨z1, z2, z3, z4⟩ := hP4.out
        have r1 := (hB.cell (p := ⟨p, 0, none⟩) hpl).trans z1
        have r2 := (hB.cell (p := ⟨p, 1, none⟩) hpl).trans z2
        have r3 := (hB.cell (p := ⟨d, 0, none⟩) hdl).trans z3
        have r4 := (hB.cell (p := ⟨d, 1, none⟩) hdl).trans z4
        have HBw : Hid (Below w.heap.size w wr) := HBV.out.trans (hB.mono hwA)
        obtain ⟨hx, hy⟩ := (HP.out.below HBw.out hbl) j hlt
        have HBr : Hid (Below wA.heap.size V wr) := hB
        have HTr : Hid (There wr wA.heap.size 2) := hT
        have HK : Hid (wr.cell? ⟨wA.heap.size, 0, none⟩ = some (.int .i64 (gO X Y 0 M q)) ∧ wr.cell? ⟨wA.heap.size, 1, none⟩ = some (.int .i64 (gU X Y 0 M q))) := ⟨k0, k1⟩
        have HF : Hid ((j = 0 ∧ q = 0) ∨ Far X Y 0 M 0 j q) := hF
        have HR : Hid (wr.cell? ⟨p, 0, none⟩ = some (.int .i64 (X 0)) ∧ wr.cell? ⟨p, 1, none⟩ = some (.int .i64 (Y 0)) ∧ wr.cell? ⟨d, 0, none⟩ = some (.int .i64 (X M)) ∧ wr.cell? ⟨d, 1, none⟩ = some (.int .i64 (Y M))) := ⟨r1, r2, r3, r4⟩
        have hi' : (j : Int) < (N : Int) := by omega
        have hlr : wA.heap.size < wr.heap.size := by omega
        have o0 := HOK.out 0 hN
        have oM := HOK.out M (by have := HM.out; omega)
        have oj := HOK.out j hlt
        have HOO : Hid (okP (X 0) (Y 0) = true ∧ okP (X M) (Y M) = true ∧ okP (X j) (Y j) = true) := ⟨o0, oM, oj⟩
        clear hB hT k0 k1 hF z1 z2 z3 z4 r1 r2 r3 r4 o0 oM oj
        go_wp2_with fail
        generalize hW : ((wr.alloc _).alloc _ : World) = W
        have hbW : Below wr.heap.size wr W := by subst hW; (repeat (first | exact Below.refl _ _ | assumption | refine Below.drew ?_ | refine bl_alloc ?_ _ | refine bl_then ?_ (by assumption) | refine Below.setCell ?_ (by first | omega | (simp; done) | (simp; omega)) _ | refine bl_store ?_ ?_ _ _))
        have hTW : There W (wr.heap.size + 1) 2 := by
          subst hW
          have := there2 (wr.alloc (.cells #[.int .i64 (X j), .int .i64 (Y j)] 111)) (.int .i64 0) (.int .i64 0) 192
          simpa using this
        have hp0 : W.cell? ⟨wr.heap.size, 0, none⟩ = some (.int .i64 (X j)) := by subst hW; simp [go_sem]
        have hp1 : W.cell? ⟨wr.heap.size, 1, none⟩ = some (.int .i64 (Y j)) := by subst hW; simp [go_sem]
        have hszW : wr.heap.size + 1 < W.heap.size := by subst hW; simp
        clear hW hx hy
        obtain ⟨r1, r2, r3, r4⟩ := HR.out
        have hreg : Reg (wr.heap.size + 1) W (wr.heap.size + 1) 2 W := Reg.start (by omega) hTW
        have d1 : ∀ W', Reg (wr.heap.size + 1) W (wr.heap.size + 1) 2 W' → W'.cell? ⟨p, 0, none⟩ = some (.int .i64 (X 0)) := fun W' h => (h.bel.cell (p := ⟨p, 0, none⟩) (by simp; omega)).trans (bl_cell hbW r1)
        have d2 : ∀ W', Reg (wr.heap.size + 1) W (wr.heap.size + 1) 2 W' → W'.cell? ⟨p, 1, none⟩ = some (.int .i64 (Y 0)) := fun W' h => (h.bel.cell (p := ⟨p, 1, none⟩) (by simp; omega)).trans (bl_cell hbW r2)
        have d3 : ∀ W', Reg (wr.heap.size + 1) W (wr.heap.size + 1) 2 W' → W'.cell? ⟨d, 0, none⟩ = some (.int .i64 (X M)) := fun W' h => (h.bel.cell (p := ⟨d, 0, none⟩) (by simp; omega)).trans (bl_cell hbW r3)
        have d4 : ∀ W', Reg (wr.heap.size + 1) W (wr.heap.size + 1) 2 W' → W'.cell? ⟨d, 1, none⟩ = some (.int .i64 (Y M)) := fun W' h => (h.bel.cell (p := ⟨d, 1, none⟩) (by simp; omega)).trans (bl_cell hbW r4)
        have d5 : ∀ W', Reg (wr.heap.size + 1) W (wr.heap.size + 1) 2 W' → W'.cell? ⟨wr.heap.size, 0, none⟩ = some (.int .i64 (X j)) := fun W' h => (h.bel.cell (p := ⟨wr.heap.size, 0, none⟩) (by simp)).trans hp0
        have d6 : ∀ W', Reg (wr.heap.size + 1) W (wr.heap.size + 1) 2 W' → W'.cell? ⟨wr.heap.size, 1, none⟩ = some (.int .i64 (Y j)) := fun W' h => (h.bel.cell (p := ⟨wr.heap.size, 1, none⟩) (by simp)).trans hp1
        have t0 : ∀ W', Reg (wr.heap.size + 1) W (wr.heap.size + 1) 2 W' → W'.cell? ⟨wr.heap.size + 1, 0, none⟩ = some (cellOr W' (wr.heap.size + 1) 0) := fun W' h => h.there.cell 0 (by omega)
        have t1 : ∀ W', Reg (wr.heap.size + 1) W (wr.heap.size + 1) 2 W' → W'.cell? ⟨wr.heap.size + 1, 1, none⟩ = some (cellOr W' (wr.heap.size + 1) 1) := fun W' h => h.there.cell 1 (by omega)
        have s0 : ∀ W', Reg (wr.heap.size + 1) W (wr.heap.size + 1) 2 W' → W'.frozen? ⟨wr.heap.size + 1, 0, none⟩ = false := fun W' h => (h.there 0 (by omega)).2
        have s1 : ∀ W', Reg (wr.heap.size + 1) W (wr.heap.size + 1) 2 W' → W'.frozen? ⟨wr.heap.size + 1, 1, none⟩ = false := fun W' h => (h.there 1 (by omega)).2
        have HbW : Hid (Below wr.heap.size wr W) := hbW
        clear r1 r2 r3 r4 hbW hTW hp0 hp1
        go_cut [9] (fun t wv => t = .pointer (some ⟨wr.heap.size + 1, 0, none⟩) ∧ Reg (wr.heap.size + 1) W (wr.heap.size + 1) 2 wv ∧ W.heap.size ≤ wv.heap.size ∧ wv.cell? ⟨wr.heap.size + 1, 0, none⟩ = some (.int .i64 (gO X Y 0 M j)) ∧ wv.cell? ⟨wr.heap.size + 1, 1, none⟩ = some (.int .i64 (gU X Y 0 M j)))
        case first =>
          go_region_held3 (Reg (wr.heap.size + 1) W (wr.heap.size + 1) 2) (first | exact Reg.drew hreg | exact Reg.call (by assumption) (by assumption) | exact Reg.store (by assumption) (Nat.le_refl _) _ _ | assumption)
            (first
              | (go_at_call 150; refine (pairOf_any _ _ _).mono ?_; rintro e w' ⟨rfl, hb⟩)
              | (go_at_call 151; refine (gapOf_any _ _ _ _ _ _ _ HOO.out.2.2 HOO.out.1 HOO.out.2.1).mono ?_; rintro e w' ⟨rfl, hb⟩; have hkk : Reg (wr.heap.size + 1) W (wr.heap.size + 1) 2 w' := Reg.call (by assumption) hb))
          go_wp2_with fail
          rename_i hfin
          go_meet
          case rel =>
            refine ⟨rfl, hfin, hfin.bel.size, ?_, ?_⟩
            · exact set2_0 (Option.isSome_iff_exists.2 ⟨_, t0 _ hkk⟩)
            · exact set2_1 (Option.isSome_iff_exists.2 ⟨_, t1 _ hkk⟩)
        case rest =>
          obtain ⟨rfl, hRv, hsv, g0, g1⟩ := hcut
          have HTv : There wc wA.heap.size 2 := ((HTr.out.below HbW.out).belowB' hRv.bel (by omega))
          have hlv : wA.heap.size < wc.heap.size := by omega
          have k0 : wc.cell? ⟨wA.heap.size, 0, none⟩ = some (.int .i64 (gO X Y 0 M q)) := (hRv.bel.cell (p := ⟨wA.heap.size, 0, none⟩) (by simp; omega)).trans (bl_cell HbW.out HK.out.1)
          have k1 : wc.cell? ⟨wA.heap.size, 1, none⟩ = some (.int .i64 (gU X Y 0 M q)) := (hRv.bel.cell (p := ⟨wA.heap.size, 1, none⟩) (by simp; omega)).trans (bl_cell HbW.out HK.out.2)
          have HBv : Hid (Below wA.heap.size V wc) := (HBr.out.trans (HbW.out.mono (by omega))).trans (hRv.bel.mono (by omega))
          have HTV' : Hid (There wc wA.heap.size 2) := HTv
          have hsV : V.heap.size ≤ wc.heap.size := HBv.out.size
          have hq : q < N := by
            rcases HF.out with h | h
            · omega
            · have := h.hi; omega
          obtain ⟨a1, a2, a3, a4⟩ := gO_bd X Y (f := 0) (t := M) (i := j) HOO.out.1 HOO.out.2.1 HOO.out.2.2
          obtain ⟨e1, e2, e3, e4⟩ := gO_bd X Y (f := 0) (t := M) (i := q) HOO.out.1 HOO.out.2.1 (HOK.out q hq)
          clear d1 d2 d3 d4 d5 d6 t0 t1 s0 s1 hreg hRv HTv
          go_wp2_with fail
          refine (isAbove_any _ _ _ _ _ a1 a2 a3 a4 e1 e2 e3 e4).mono ?_
          rintro e w5 ⟨rfl, hb5⟩
          have HB5 : Hid (Below wA.heap.size V w5) := HBv.out.trans (hb5.mono (by omega))
          have hT5 := HTV'.out.below hb5
          have h0 := bl_cell hb5 g0
          have h1 := bl_cell hb5 g1
          have j0 := bl_cell hb5 k0
          have j1 := bl_cell hb5 k1
          have hs5 : V.heap.size ≤ w5.heap.size := HB5.out.size
          have HT5 : Hid (There w5 wA.heap.size 2) := hT5
          clear g0 g1 k0 k1 hb5 hT5
          have hga : aboveB (gO X Y 0 M j) (gU X Y 0 M j) (gO X Y 0 M q) (gU X Y 0 M q) = gA X Y 0 M j q := rfl
          rw [hga]
          clear hga
          cases hg : gA X Y 0 M j q
          · have HF2 : Hid (Far X Y 0 M 0 (j + 1) q) := by
              show Far _ _ _ _ _ _ _
              rcases HF.out with ⟨rfl, rfl⟩ | h
              · exact Far.one X Y 0 M 0
              · have := h.step X Y
                rw [hg] at this
                simpa using this
            have HJ : Hid (w5.cell? ⟨wA.heap.size, 0, none⟩ = some (.int .i64 (gO X Y 0 M q)) ∧ w5.cell? ⟨wA.heap.size, 1, none⟩ = some (.int .i64 (gU X Y 0 M q))) := ⟨j0, j1⟩
            clear j0 j1 h0 h1 a1 a2 a3 a4 e1 e2 e3 e4 hg
            go_wp2_with fail
            go_roundw
            case rel => exact ⟨j + 1, q, by omega, by go_num, rfl, HB5.out, hs5, HT5.out, HJ.out.1, HJ.out.2, .inr HF2.out⟩
            case measure => simp [intOf]; omega
          · have HF2 : Hid (Far X Y 0 M 0 (j + 1) j) := by
              show Far _ _ _ _ _ _ _
              rcases HF.out with ⟨rfl, rfl⟩ | h
              · exact Far.one X Y 0 M 0
              · have := h.step X Y
                rw [hg] at this
                simpa using this
            clear j0 j1 a1 a2 a3 a4 e1 e2 e3 e4 hg
            have hkg : KG wA.heap.size w5 (wr.heap.size + 1) (.int .i64 (gO X Y 0 M j)) (.int .i64 (gU X Y 0 M j)) w5 := ⟨Reg.start (by omega) HT5.out, h0, h1⟩
            have v0 : ∀ W', KG wA.heap.size w5 (wr.heap.size + 1) (.int .i64 (gO X Y 0 M j)) (.int .i64 (gU X Y 0 M j)) W' → W'.cell? ⟨wr.heap.size + 1, 0, none⟩ = some (.int .i64 (gO X Y 0 M j)) := fun W' h => h.c0
            have v1 : ∀ W', KG wA.heap.size w5 (wr.heap.size + 1) (.int .i64 (gO X Y 0 M j)) (.int .i64 (gU X Y 0 M j)) W' → W'.cell? ⟨wr.heap.size + 1, 1, none⟩ = some (.int .i64 (gU X Y 0 M j)) := fun W' h => h.c1
            have t0 : ∀ W', KG wA.heap.size w5 (wr.heap.size + 1) (.int .i64 (gO X Y 0 M j)) (.int .i64 (gU X Y 0 M j)) W' → W'.cell? ⟨wA.heap.size, 0, none⟩ = some (cellOr W' wA.heap.size 0) := fun W' h => h.reg.there.cell 0 (by omega)
            have t1 : ∀ W', KG wA.heap.size w5 (wr.heap.size + 1) (.int .i64 (gO X Y 0 M j)) (.int .i64 (gU X Y 0 M j)) W' → W'.cell? ⟨wA.heap.size, 1, none⟩ = some (cellOr W' wA.heap.size 1) := fun W' h => h.reg.there.cell 1 (by omega)
            have s0 : ∀ W', KG wA.heap.size w5 (wr.heap.size + 1) (.int .i64 (gO X Y 0 M j)) (.int .i64 (gU X Y 0 M j)) W' → W'.frozen? ⟨wA.heap.size, 0, none⟩ = false := fun W' h => (h.reg.there 0 (by omega)).2
            have s1 : ∀ W', KG wA.heap.size w5 (wr.heap.size + 1) (.int .i64 (gO X Y 0 M j)) (.int .i64 (gU X Y 0 M j)) W' → W'.frozen? ⟨wA.heap.size, 1, none⟩ = false := fun W' h => (h.reg.there 1 (by omega)).2
            clear h0 h1
            go_wp2_with fail
            go_region_held3 (KG wA.heap.size w5 (wr.heap.size + 1) (.int .i64 (gO X Y 0 M j)) (.int .i64 (gU X Y 0 M j))) (first | exact KG.drew hkg | exact KG.store (KG.store (by assumption) (by omega) _ _) (by omega) _ _ | assumption) (fail)
            go_wp2_with fail
            rename_i hfin
            go_roundw
            case rel =>
              refine ⟨j + 1, j, by omega, by go_num, rfl, HB5.out.trans hfin.reg.bel, Nat.le_trans hs5 hfin.reg.bel.size, hfin.reg.there, ?_, ?_, .inr HF2.out⟩
              · exact set2_0 (Option.isSome_iff_exists.2 ⟨_, t0 _ hkg⟩)
              · exact set2_1 (Option.isSome_iff_exists.2 ⟨_, t1 _ hkg⟩)
            case measure => simp [intOf]; omega
      · have hjN : j = N := by omega
        subst hjN
        have HF : Hid (Far X Y 0 M 0 j q) := by
          rcases hF with hF | hF
          · omega
          · exact hF
        clear hF
        go_wp2
        go_ret
        exact ⟨q, rfl, HF.out, HBV.out.trans (hB.mono hwA)⟩
end Go.Proofs.YtdohlnnbibnnbaaGreat
