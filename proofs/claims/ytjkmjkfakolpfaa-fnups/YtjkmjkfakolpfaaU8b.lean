/- The raster of a tile as far as that of one above it has it: the program. -/
import Derived.Test.YtjkmjkfakolpfaaCo
import Derived.Test.YtjkmjkfakolpfaaU8a
import Derived.Test.YtjkmjkfakolpfaaSet2
namespace Go.Proofs.Ytjkmjkfakolpfaa
open Go.RowKit
set_option linter.unusedSimpArgs false
set_option linter.unusedVariables false
set_option maxRecDepth 100000

set_option maxHeartbeats 2000000 in
theorem raster_any (f : Nat) (caps : Array Value) (z x y : Int) (G : Int → Int → Int) (w : World) (h : refB z x y = true) (hce : ∀ args w, (callFunc f args).run Try.prog w = .ok (.enter f args) w)
    (hF : ∀ W c r, Below w.heap.size w W → c < 8 → r < 8 → Calls Try.prog f (#[.int .i64 (x * 8 + (c : Nat)), .int .i64 (y * 8 + (r : Nat))] ++ caps) W fun e W' => e = .returned (.int .i64 (G (x * 8 + (c : Nat)) (y * 8 + (r : Nat)))) ∧ Below W.heap.size W W') :
    Calls Try.prog 29 #[refV z x y, .func (.func f) #[] caps] w fun e w' => ∃ v, e = .returned v ∧ RowN w.heap.size w' v (rowsL G (x * 8) (y * 8) 8 8) ∧ Below w.heap.size w w' := by
  obtain ⟨⟨z0, z1⟩, ⟨x0, x1⟩, y0, y1⟩ := ref_bd h
  have HF := (show Hid _ from hF)
  have HE := (show Hid _ from hce)
  clear hF hce h
  go_enter Try.func29, Try.ntmps29
  go_wp2_with fail
  generalize hW : (w.alloc _ : World) = W
  have hB0 : Below w.heap.size w W := by subst hW; (repeat (first | exact Below.refl _ _ | assumption | refine Below.drew ?_ | refine bl_alloc ?_ _ | refine bl_then ?_ (by assumption) | refine Below.setCell ?_ (by first | omega | (simp; done) | (simp; omega)) _ | refine bl_store ?_ ?_ _ _))
  clear hW
  refine (rowByRow_any f caps (x * 8) (y * 8) 8 8 G W (Nat.le_refl _) (Nat.le_refl _) (by omega) (by omega) HE.out (fun W' c r hb hc hr => HF.out W' c r (bl_then hB0 hb) hc hr)).mono ?_
  rintro e w' ⟨v, rfl, hO, hb⟩
  have HB : Hid (Below w.heap.size w w') := bl_then hB0 hb
  have HO : Hid (RowN w.heap.size w' v (rowsL G (x * 8) (y * 8) 8 8)) := hO.wide hB0.size
  clear hO hb hB0
  go_wp2_with fail
  go_ret
  exact ⟨_, rfl, HO.out, HB.out⟩
/-- The Id that a raster of the ref at fx, fy has for the pixel x, y, k zooms below. -/
def upI (k : Nat) (fx fy : Int) (Z : Nat → Int) (x y : Int) : Int := Z ((halv y k - fy * 8) * 8 + (halv x k - fx * 8)).toNat
theorem halv_pow (x : Int) {k : Nat} (hk : k ≤ 3) : halv x k = x / 2 ^ k := by
  have : k = 0 ∨ k = 1 ∨ k = 2 ∨ k = 3 := by omega
  rcases this with rfl | rfl | rfl | rfl <;> simp [halv] <;> omega
/-- Where in the raster above a pixel is. -/
theorem up_in {t f : Int} {c k : Nat} (hk : k ≤ 3) (hc : c < 8) (h : halv t k = f) : 0 ≤ halv (t * 8 + c) k - f * 8 ∧ halv (t * 8 + c) k - f * 8 ≤ 7 := by
  have : k = 0 ∨ k = 1 ∨ k = 2 ∨ k = 3 := by omega
  rcases this with rfl | rfl | rfl | rfl <;> simp [halv] at h ⊢ <;> omega
set_option maxHeartbeats 2000000 in
/-- The Id that a raster has at a pixel of its own zoom or of one below. -/
theorem idIn_any (b off cap k : Nat) (fz fx fy z x y : Int) (Z : Nat → Int) (w : World) (hk : k ≤ 3) (hzk : z - fz = (k : Int)) (hfz : 0 ≤ fz ∧ fz ≤ 3)
    (hz : NsAt w b off 64 Z) (hb : b < w.heap.size) (hfx : 0 ≤ fx ∧ fx ≤ 7) (hfy : 0 ≤ fy ∧ fy ≤ 7) (hx : 0 ≤ x ∧ x ≤ 1000) (hy : 0 ≤ y ∧ y ≤ 1000)
    (hi : 0 ≤ halv x k - fx * 8 ∧ halv x k - fx * 8 ≤ 7) (hj : 0 ≤ halv y k - fy * 8 ∧ halv y k - fy * 8 ≤ 7) :
    Calls Try.prog 31 #[refV fz fx fy, .slice (some ⟨b, off, none⟩) 64 cap, .int .i64 z, .int .i64 x, .int .i64 y] w fun e w' => e = .returned (.int .i64 (upI k fx fy Z x y)) ∧ Below w.heap.size w w' := by
  obtain ⟨xi, hxi⟩ : ∃ i : Int, halv x k - fx * 8 = i := ⟨_, rfl⟩
  obtain ⟨yi, hyi⟩ : ∃ i : Int, halv y k - fy * 8 = i := ⟨_, rfl⟩
  have HU : Hid (upI k fx fy Z x y = Z (yi * 8 + xi).toNat) := by show _ = _; unfold upI; rw [hxi, hyi]
  rw [hxi] at hi
  rw [hyi] at hj
  have e1 : x / 2 ^ k - fx * 8 = xi := by rw [← halv_pow _ hk]; exact hxi
  have e2 : y / 2 ^ k - fy * 8 = yi := by rw [← halv_pow _ hk]; exact hyi
  obtain ⟨xk, hxk⟩ : ∃ i : Int, x / 2 ^ k = i := ⟨_, rfl⟩
  obtain ⟨yk, hyk⟩ : ∃ i : Int, y / 2 ^ k = i := ⟨_, rfl⟩
  rw [hxk] at e1
  rw [hyk] at e2
  have kk : ∀ W', Below w.heap.size w W' → W'.cell? ⟨b, off + (yi * 8 + xi).toNat, none⟩ = some (.int .i64 (Z (yi * 8 + xi).toNat)) := fun W' h => bl_cellN h (hz _ (by omega))
  have hk0 : (0 : Int) ≤ (k : Int) := by omega
  have hk1 : (k : Int) ≤ 64 := by omega
  have s0 : IntKind.i64.wrap xi = xi := IntWalk.i64_in _ (by omega)
  have s1 : IntKind.i64.wrap yi = yi := IntWalk.i64_in _ (by omega)
  have m0 : IntKind.i64.wrap (fx * 8) = fx * 8 := IntWalk.i64_in _ (by omega)
  have m1 : IntKind.i64.wrap (fy * 8) = fy * 8 := IntWalk.i64_in _ (by omega)
  have HZ : Hid (z - fz = (k : Int)) := hzk
  have hz3 : z ≤ 6 := by omega
  have hz0 : 0 ≤ z := by omega
  clear hxi hyi hz hzk
  go_enter Try.func31, Try.ntmps31
  go_wp2_with fail
  generalize hW : (w.alloc _ : World) = W
  have hB0 : Below w.heap.size w W := by subst hW; (repeat (first | exact Below.refl _ _ | assumption | refine Below.drew ?_ | refine bl_alloc ?_ _ | refine bl_then ?_ (by assumption) | refine Below.setCell ?_ (by first | omega | (simp; done) | (simp; omega)) _ | refine bl_store ?_ ?_ _ _))
  have c0 : W.cell? ⟨w.heap.size, 0, none⟩ = some (.int .i64 fz) := by subst hW; simp [go_sem]
  have c1 : W.cell? ⟨w.heap.size, 1, none⟩ = some (.int .i64 fx) := by subst hW; simp [go_sem]
  have c2 : W.cell? ⟨w.heap.size, 2, none⟩ = some (.int .i64 fy) := by subst hW; simp [go_sem]
  clear hW
  have k1 : ∀ W', Below W.heap.size W W' → W'.cell? ⟨w.heap.size, 1, none⟩ = some (.int .i64 fx) := fun W' h => bl_cellN h c1
  have k2 : ∀ W', Below W.heap.size W W' → W'.cell? ⟨w.heap.size, 2, none⟩ = some (.int .i64 fy) := fun W' h => bl_cellN h c2
  have hkk : z - fz = (k : Int) := HZ.out
  go_wp2_with fail
  simp only [hkk]
  clear hkk
  go_wp2_with fail
  go_region_held3 (fun W' => Below W.heap.size W W') ((repeat (first | exact Below.refl _ _ | assumption | refine Below.drew ?_ | refine bl_alloc ?_ _ | refine bl_then ?_ (by assumption) | refine Below.setCell ?_ (by first | omega | (simp; done) | (simp; omega)) _ | refine bl_store ?_ ?_ _ _))) (fail)
  have hd : Below w.heap.size w W.drew := bl_then hB0 (by (repeat (first | exact Below.refl _ _ | assumption | refine Below.drew ?_ | refine bl_alloc ?_ _ | refine bl_then ?_ (by assumption) | refine Below.setCell ?_ (by first | omega | (simp; done) | (simp; omega)) _ | refine bl_store ?_ ?_ _ _)))
  have gk := kk _ hd
  have hix : (0 : Int) ≤ yi * 8 + xi := by omega
  have hix' : yi * 8 + xi < 64 := by omega
  clear k1 k2 c0 c1 c2 kk e1 e2 hxk hyk m0 m1 s0 s1
  generalize (W.drew : World) = V at *
  go_wp2
  go_ret
  exact ⟨ret_int HU.out.symm, by assumption⟩
set_option maxHeartbeats 2000000 in
theorem upRaster1_any (tp fp ip b off cap k : Nat) (fz fx fy tz x y : Int) (Z : Nat → Int) (w : World) (hk : k ≤ 3) (hzk : tz - fz = (k : Int)) (hfz : 0 ≤ fz ∧ fz ≤ 3)
    (h0 : w.cell? ⟨tp, 0, none⟩ = some (.int .i64 tz)) (h4 : w.cell? ⟨fp, 0, none⟩ = some (.int .i64 fz)) (h1 : w.cell? ⟨fp, 1, none⟩ = some (.int .i64 fx)) (h2 : w.cell? ⟨fp, 2, none⟩ = some (.int .i64 fy))
    (h3 : w.cell? ⟨ip, 0, none⟩ = some (.slice (some ⟨b, off, none⟩) 64 cap)) (hz : NsAt w b off 64 Z) (hb : b < w.heap.size) (hfx : 0 ≤ fx ∧ fx ≤ 7) (hfy : 0 ≤ fy ∧ fy ≤ 7) (hx : 0 ≤ x ∧ x ≤ 1000) (hy : 0 ≤ y ∧ y ≤ 1000)
    (hi : 0 ≤ halv x k - fx * 8 ∧ halv x k - fx * 8 ≤ 7) (hj : 0 ≤ halv y k - fy * 8 ∧ halv y k - fy * 8 ≤ 7) :
    Calls Try.prog 30 #[.int .i64 x, .int .i64 y, .pointer (some ⟨fp, 0, none⟩), .pointer (some ⟨ip, 0, none⟩), .pointer (some ⟨tp, 0, none⟩)] w fun e w' => e = .returned (.int .i64 (upI k fx fy Z x y)) ∧ Below w.heap.size w w' := by
  have HC : Hid (∀ W', Below w.heap.size w W' → Calls Try.prog 31 #[refV fz fx fy, .slice (some ⟨b, off, none⟩) 64 cap, .int .i64 tz, .int .i64 x, .int .i64 y] W' fun e w' => e = .returned (.int .i64 (upI k fx fy Z x y)) ∧ Below W'.heap.size W' w') :=
    fun W' h => idIn_any b off cap k fz fx fy tz x y Z W' hk hzk hfz (NsAt.below hz h hb) (Nat.lt_of_lt_of_le hb h.size) hfx hfy hx hy hi hj
  clear hz hi hj hzk
  generalize upI k fx fy Z x y = g at *
  go_enter Try.func30, Try.ntmps30
  go_wp2_with fail
  refine (HC.out _ (Below.refl _ _)).mono ?_
  rintro e w1 ⟨rfl, hb1⟩
  have HB1 : Hid (Below w.heap.size w w1) := hb1
  clear hb1 HC h0 h1 h2 h3 h4
  go_wp2_with fail
  go_ret
  exact ⟨rfl, HB1.out⟩
/-- The code that UpRaster tells. -/
def upC (n : Nat) (Z : Nat → Int) (fz fx fy tz tx ty : Int) : Int := if rasC n Z = 0 then (if refC fz fx fy = 0 then (if refC tz tx ty = 0 then (if holdB fz fx fy tz tx ty = true then 0 else 1) else 3) else 3) else rasC n Z
/-- The Ids that UpRaster tells. -/
def upL (n : Nat) (Z : Nat → Int) (fz fx fy tz tx ty : Int) : List Int := if upC n Z fz fx fy tz tx ty = 0 then rowsL (upI (tz - fz).toNat fx fy Z) (tx * 8) (ty * 8) 8 8 else []
end Go.Proofs.Ytjkmjkfakolpfaa
