/- Pixels halved, and told at another zoom: the program and the model. -/
import Derived.Test.YtkejjfdfofojoaaCc
import Derived.Laws.Externs
namespace Go.Proofs.Ytkejjfdfofojoaa
open Go.RowKit
set_option linter.unusedSimpArgs false
set_option linter.unusedVariables false
set_option maxRecDepth 100000

/-- A pixel of a zoom at another one. -/
def zoomI (a f t : Int) : Int := if f ≤ t then (if t = f then a else if t = f + 1 then a * 2 else if t = f + 2 then a * 4 else a * 8) else (if f = t + 1 then a / 2 else if f = t + 2 then a / 4 else a / 8)
theorem zoomI_up {a f i : Int} (h : f ≤ i) (hf : 0 ≤ f) (hi : i ≤ 2) : zoomI a f (i + 1) = 2 * zoomI a f i := by
  unfold zoomI
  repeat' split
  all_goals omega
theorem zoomI_dn {a f i : Int} (h : i ≤ f) (hf : f ≤ 3) (hi : 1 ≤ i) (ha : 0 ≤ a) : zoomI a f (i - 1) = zoomI a f i / 2 := by
  unfold zoomI
  repeat' split
  all_goals omega
theorem zoomI_bd {a f i : Int} (hf : 0 ≤ f ∧ f ≤ 3) (hi : 0 ≤ i ∧ i ≤ 3) (ha : 0 ≤ a ∧ a ≤ 71) : 0 ≤ zoomI a f i ∧ zoomI a f i ≤ 568 ∧ (i ≤ 2 → zoomI a f i ≤ 284) := by
  unfold zoomI
  repeat' split
  all_goals omega

theorem run_archFloor (x : Nat) (h : (FloatKind.f64.decode x).isNaN = false) (w : World) : (callFunc 54 #[.float .f64 x]).run Try.prog w = .ok (.value (.float .f64 (flDown x))) w := by
  rw [run_callFunc_extern (e := Extern.MathFloor.toIntegral "math.archFloor" .down) Try.func54 (by kernel_rfl) (by kernel_rfl) (by kernel_rfl) (by kernel_rfl)]
  unfold flDown
  change (Sem.run Try.prog (Go.Extern.MathFloor.toIntegral.match_1 (fun _ => Sem Value) (FloatKind.f64.decode x) _ _) w).andThen _ = _
  cases hd : FloatKind.f64.decode x with
  | number s m i => rfl
  | infinity s => rfl
  | nan s t => rw [hd] at h; cases h
theorem Floor_any (x : Nat) (h : (FloatKind.f64.decode x).isNaN = false) (w : World) : Calls Try.prog 53 #[.float .f64 x] w fun e w' => e = .returned (.float .f64 (flDown x)) ∧ w = w' := by
  have hf := run_archFloor x h
  clear h
  generalize flDown x = y at *
  go_enter Try.func53, Try.ntmps53
  go_wp2
  go_ret
  exact ⟨rfl, rfl⟩
theorem halved_any (a b : Int) (w : World) (ha : 0 ≤ a ∧ a < 600) (hb : 0 ≤ b ∧ b < 600) : Calls Try.prog 38 #[pxV a b] w fun e w' => e = .returned (pxV (a / 2) (b / 2)) ∧ w = w' := by
  obtain ⟨r, hr, hn, hd⟩ := flo_half ha.1 ha.2
  obtain ⟨s, hs, gn, gd⟩ := flo_half hb.1 hb.2
  rw [flo_2] at hr hs
  have q1 := fun t (w : World) => run_float_arith (P := Try.prog) w .quo t .f64 _ _ _ hr
  have q2 := fun t (w : World) => run_float_arith (P := Try.prog) w .quo t .f64 _ _ _ hs
  have f1 := fun w => Floor_any r hn w
  have f2 := fun w => Floor_any s gn w
  rw [hd] at f1
  rw [gd] at f2
  clear hr hs hn gn hd gd ha hb
  go_enter Try.func38, Try.ntmps38
  go_wp2_with fail
  refine (f1 _).mono ?_
  rintro e w1 ⟨rfl, rfl⟩
  go_wp2_with fail
  refine (f2 _).mono ?_
  rintro e w1 ⟨rfl, rfl⟩
  go_wp2
  go_ret
  exact ⟨rfl, rfl⟩
set_option maxHeartbeats 2000000 in
theorem zoomed_any (a b f t : Int) (w : World) (hf : 0 ≤ f ∧ f ≤ 3) (ht : 0 ≤ t ∧ t ≤ 3) (ha : 0 ≤ a ∧ a ≤ 71) (hb : 0 ≤ b ∧ b ≤ 71) : Calls Try.prog 39 #[pxV a b, .int .i64 f, .int .i64 t] w fun e w' => e = .returned (pxV (zoomI a f t) (zoomI b f t)) ∧ w = w' := by
  go_enter Try.func39, Try.ntmps39
  go_wp2
  go_loopw [0, 1] (fun u m wr => ∃ i : Int, f ≤ i ∧ (i ≤ f ∨ i ≤ t) ∧ m = .int .i64 i ∧ u = pxV (zoomI a f i) (zoomI b f i) ∧ w = wr) (fun _ m _ => (t - intOf m).toNat)
  case atStart => exact ⟨f, by omega, by omega, rfl, by simp [zoomI], rfl⟩
  case round =>
    obtain ⟨i, h0, h1, rfl, rfl, rfl⟩ := hrel
    have b1 := zoomI_bd (a := a) hf (i := i) (by omega) ha
    have b2 := zoomI_bd (a := b) hf (i := i) (by omega) hb
    by_cases hlt : i < t
    · have HU1 : Hid (zoomI a f (i + 1) = 2 * zoomI a f i) := zoomI_up h0 hf.1 (by omega)
      have HU2 : Hid (zoomI b f (i + 1) = 2 * zoomI b f i) := zoomI_up h0 hf.1 (by omega)
      generalize zoomI a f i = p at *
      generalize zoomI b f i = q at *
      have hm : ∀ ty (w : World), (binOp .mul ty (pxV p q) (.complex .f64 4611686018427387904 0)).run Try.prog w = .ok (pxV (2 * p) (2 * q)) w := fun ty w => by
        have := flo_double (a := p) (b := q) (by omega) (by omega) (by omega) (by omega)
        rw [flo_2, flo_0] at this
        exact run_complex_mul w ty _ _ _ _ _ _ this
      go_wp2
      go_roundw
      case rel => exact ⟨i + 1, by omega, by omega, by go_num, by rw [HU1.out, HU2.out], by first | rfl | trivial⟩
      case measure => simp [intOf]; omega
    · go_wp2
      go_loopw [0, 1] (fun u m wr => ∃ j : Int, t ≤ j ∧ j ≤ 3 ∧ (j = t ∨ j ≤ f) ∧ m = .int .i64 j ∧ u = pxV (zoomI a f j) (zoomI b f j) ∧ w = wr) (fun _ m _ => (intOf m - t).toNat)
      case atStart => exact ⟨i, by omega, by omega, by omega, rfl, rfl, rfl⟩
      case round =>
        obtain ⟨j, j0, j1, j2, rfl, rfl, rfl⟩ := hrel
        have b3 := zoomI_bd (a := a) hf (i := j) (by omega) ha
        have b4 := zoomI_bd (a := b) hf (i := j) (by omega) hb
        by_cases hgt : t < j
        · have HD1 : Hid (zoomI a f (j - 1) = zoomI a f j / 2) := zoomI_dn (by omega) hf.2 (by omega) ha.1
          have HD2 : Hid (zoomI b f (j - 1) = zoomI b f j / 2) := zoomI_dn (by omega) hf.2 (by omega) hb.1
          have sH := fun w => halved_any (zoomI a f j) (zoomI b f j) w (by omega) (by omega)
          generalize zoomI a f j = p at *
          generalize zoomI b f j = q at *
          go_wp2_with (go_at_call 38; refine (sH _).mono ?_; rintro e w1 ⟨rfl, rfl⟩)
          go_roundw
          case rel => exact ⟨j - 1, by omega, by omega, by omega, by go_num, by rw [HD1.out, HD2.out], by first | rfl | trivial⟩
          case measure => simp [intOf]; omega
        · obtain rfl : j = t := by omega
          go_wp2
          go_ret
          exact ⟨rfl, rfl⟩
theorem l9Scale_any (a f t : Int) (w : World) (hf : 0 ≤ f ∧ f ≤ 3) (ht : 0 ≤ t ∧ t ≤ 3) (ha : 0 ≤ a ∧ a ≤ 71) : Calls Try.prog 41 #[.int .i64 a, .int .i64 f, .int .i64 t] w fun e w' => e = .returned (.int .i64 (zoomI a f t)) ∧ w = w' := by
  have c1 : f = 0 ∨ f = 1 ∨ f = 2 ∨ f = 3 := by omega
  have c2 : t = 0 ∨ t = 1 ∨ t = 2 ∨ t = 3 := by omega
  clear hf ht
  rcases c1 with rfl | rfl | rfl | rfl <;> rcases c2 with rfl | rfl | rfl | rfl
  all_goals
    simp [zoomI]
    go_enter Try.func41, Try.ntmps41
    go_wp2
    go_ret
    exact ⟨rfl, rfl⟩
end Go.Proofs.Ytkejjfdfofojoaa
