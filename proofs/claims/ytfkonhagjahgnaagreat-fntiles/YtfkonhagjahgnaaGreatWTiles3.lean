/- Texts. -/
import Derived.Test.YtfkonhagjahgnaaGreatWTiles1
import Derived.Deep.RegionHeld3
import Derived.Deep.DeepCutAuto
import Derived.Test.YtfkonhagjahgnaaGreatWTiles2
import Derived.Test.YtfkonhagjahgnaaGreatRows
import Derived.WalkSpells
import Derived.WalkLawsBesides
import Derived.Outline
import Derived.Laws.IdiomStrings
import Derived.WalkKit
import Derived.Deep.OwnRows
import Derived.Deep.LoopGhost
import Derived.Laws.OwnMore
import Derived.OwnWalk
import Derived.Deep.DeepMust
set_option linter.unusedSimpArgs false
set_option linter.unusedVariables false
set_option maxRecDepth 100000
set_option maxHeartbeats 32000000
namespace Go.Proofs.YtfkonhagjahgnaaGreat
open Go.RowKit
def mnI (a b : Int) : Int := if a < b then a else b
def mxI (a b : Int) : Int := if b < a then a else b
theorem l1Min_any (a b : Int) (w : World) : Calls Tryz.prog 136 #[.int .i64 a, .int .i64 b] w fun e w' => e = .returned (.int .i64 (mnI a b)) ∧ w' = w := by
 unfold mnI
 by_cases h : a < b
 ·rw [if_pos h]
  go_enter Tryz.func136,Tryz.ntmps136
  go_wp2
  go_ret
  exact ⟨rfl,rfl⟩
 ·rw [if_neg h]
  go_enter Tryz.func136,Tryz.ntmps136
  go_wp2
  go_ret
  exact ⟨rfl,rfl⟩
theorem l1Max_any (a b : Int) (w : World) : Calls Tryz.prog 137 #[.int .i64 a, .int .i64 b] w fun e w' => e = .returned (.int .i64 (mxI a b)) ∧ w' = w := by
 unfold mxI
 by_cases h : b < a
 ·rw [if_pos h]
  go_enter Tryz.func137,Tryz.ntmps137
  go_wp2
  go_ret
  exact ⟨rfl,rfl⟩
 ·rw [if_neg h]
  go_enter Tryz.func137,Tryz.ntmps137
  go_wp2
  go_ret
  exact ⟨rfl,rfl⟩
def mnTo (X : Nat → Int) : Nat → Int
 | 0 => X 0
 | k + 1 => mnI (mnTo X k) (X k)
def mxTo (X : Nat → Int) : Nat → Int
 | 0 => X 0
 | k + 1 => mxI (mxTo X k) (X k)
theorem mnTo_one (X : Nat → Int) : mnTo X 1 = X 0 := by simp [mnTo,mnI]
theorem mxTo_one (X : Nat → Int) : mxTo X 1 = X 0 := by simp [mxTo,mxI]
theorem l1Box_any (b n cap : Nat) (X Y : Nat → Int) (w : World) (hpt : PtsAt w b 0 n X Y) (hbl : b < w.heap.size) (hn : 0 < n) (hcap : n ≤ cap) (hmax : n ≤ 1048576) :
  Calls Tryz.prog 95 #[.slice (some ⟨b,0,none⟩) n cap] w fun e w' => e = .returned (.agg #[.int .i64 (mnTo X n), .int .i64 (mnTo Y n), .int .i64 (mxTo X n), .int .i64 (mxTo Y n)]) ∧ Below w.heap.size w w' := by
 have HQ : Hid (PtsAt w b 0 n X Y) := hpt
 clear hpt
 have hnp : (0 : Int) < (n : Int) := by omega
 go_enter Tryz.func95,Tryz.ntmps95
 go_wp2
 generalize hW : (w.alloc _ : World) = W
 have hB0 : Below w.heap.size w W := by subst hW; (repeat (first|exact Qr _ _|assumption|refine Qd ?_|refine Qa ?_ _|refine Qt ?_|refine Qs ?_ _|refine Qo ?_ ?_ _ _))
 have hQ1 := HQ.out.below hB0 hbl
 have hblW : b < W.heap.size := Nat.lt_of_lt_of_le hbl hB0.size
 have d0 : ∀ W',Below W.heap.size W W' → W'.cell? ⟨b,0,none⟩ = some (.int .i64 (X 0)) := fun W' h => by
  simpa using (hQ1.below h hblW 0 hn).1
 have d1 : ∀ W',Below W.heap.size W W' → W'.cell? ⟨b,1,none⟩ = some (.int .i64 (Y 0)) := fun W' h => by
  simpa using (hQ1.below h hblW 0 hn).2
 have c00 : ∀ W',Below W.heap.size W W' → W'.cell? ⟨w.heap.size,0,none⟩ = some (.int .i64 0) := fun W' h => by
  rw [h.cell (by subst hW; simp <;> omega)]; subst hW; simp [go_sem]
 have c01 : ∀ W',Below W.heap.size W W' → W'.cell? ⟨w.heap.size,1,none⟩ = some (.int .i64 0) := fun W' h => by
  rw [h.cell (by subst hW; simp <;> omega)]; subst hW; simp [go_sem]
 have c02 : ∀ W',Below W.heap.size W W' → W'.cell? ⟨w.heap.size,2,none⟩ = some (.int .i64 0) := fun W' h => by
  rw [h.cell (by subst hW; simp <;> omega)]; subst hW; simp [go_sem]
 have c03 : ∀ W',Below W.heap.size W W' → W'.cell? ⟨w.heap.size,3,none⟩ = some (.int .i64 0) := fun W' h => by
  rw [h.cell (by subst hW; simp <;> omega)]; subst hW; simp [go_sem]
 have z00 : ∀ W',Below W.heap.size W W' → W'.frozen? ⟨w.heap.size,0,none⟩ = false := fun W' h => by
  rw [h.frozen (by subst hW; simp <;> omega)]; subst hW; simp [go_sem]
 have z01 : ∀ W',Below W.heap.size W W' → W'.frozen? ⟨w.heap.size,1,none⟩ = false := fun W' h => by
  rw [h.frozen (by subst hW; simp <;> omega)]; subst hW; simp [go_sem]
 have z02 : ∀ W',Below W.heap.size W W' → W'.frozen? ⟨w.heap.size,2,none⟩ = false := fun W' h => by
  rw [h.frozen (by subst hW; simp <;> omega)]; subst hW; simp [go_sem]
 have z03 : ∀ W',Below W.heap.size W W' → W'.frozen? ⟨w.heap.size,3,none⟩ = false := fun W' h => by
  rw [h.frozen (by subst hW; simp <;> omega)]; subst hW; simp [go_sem]
 clear hW
 have HWl : Hid (w.heap.size < W.heap.size) := World.block_lt_of_cell? _ _ (c00 W (Below.refl _ _))
 have HQ1 : Hid (PtsAt W b 0 n X Y) := hQ1
 have HB0 : Hid (Below w.heap.size w W) := hB0
 clear hB0 hQ1
 go_region_held3 (fun W' => Below W.heap.size W W') ((repeat (first|exact Qr _ _|assumption|refine Qd ?_|refine Qa ?_ _|refine Qt ?_|refine Qs ?_ _|refine Qo ?_ ?_ _ _))) (fail)
 go_wp2
 go_loopw [4] (fun i wr => ∃ k : Nat,1 ≤ k ∧ k ≤ n ∧ i = .int .i64 k ∧ Below W.heap.size W wr ∧ wr.cell? ⟨W.heap.size,0,none⟩ = some (.int .i64 (mnTo X k)) ∧ wr.cell? ⟨W.heap.size,1,none⟩ = some (.int .i64 (mnTo Y k)) ∧ wr.cell? ⟨W.heap.size,2,none⟩ = some (.int .i64 (mxTo X k)) ∧ wr.cell? ⟨W.heap.size,3,none⟩ = some (.int .i64 (mxTo Y k)) ∧ (∀ o,o < 4 → wr.frozen? ⟨W.heap.size,o,none⟩ = false)) (fun i _ => n - (intOf i).toNat)
 case atStart => exact ⟨1,by omega,by omega,rfl,by (repeat (first|exact Qr _ _|assumption|refine Qd ?_|refine Qa ?_ _|refine Qt ?_|refine Qs ?_ _|refine Qo ?_ ?_ _ _)),by simp [go_sem,mnTo_one],by simp [go_sem,mnTo_one],by simp [go_sem,mxTo_one],by simp [go_sem,mxTo_one],fun o ho => by simp [go_sem]⟩
 case round =>
  obtain ⟨k,hk1,hk,rfl,hB,o0,o1,o2,o3,fz⟩ := hrel
  by_cases hlt : k < n
  ·obtain ⟨hx,hy⟩ := (HQ1.out.below hB hblW) k hlt
   simp only [Nat.zero_add] at hx hy
   have z0 := fz 0 (by omega)
   have z1 := fz 1 (by omega)
   have z2 := fz 2 (by omega)
   have z3 := fz 3 (by omega)
   have hi : (k : Int) < (n : Int) := by omega
   have hi0 : (0 : Int) ≤ (k : Int) := by omega
   have HB : Hid (Below W.heap.size W wr) := hB
   generalize hA : mnTo X k = A at *
   generalize hA' : mnTo Y k = A' at *
   generalize hC : mxTo X k = C at *
   generalize hC' : mxTo Y k = C' at *
   generalize hx1 : X k = x at *
   generalize hy1 : Y k = y at *
   have KA : Hid (mnTo X k = A) := hA
   have KA' : Hid (mnTo Y k = A') := hA'
   have KC : Hid (mxTo X k = C) := hC
   have KC' : Hid (mxTo Y k = C') := hC'
   have Kx : Hid (X k = x) := hx1
   have Ky : Hid (Y k = y) := hy1
   clear hA hA' hC hC' hx1 hy1 hB fz d0 d1 c00 c01 c02 c03 z00 z01 z02 z03
   go_wp2
   refine wp_region_noPanic ?_
   refine wp_region_L (S := fun W' => W' = wr.drew) (z := 20) (by kernel_rfl) ?_
   have hSt : (fun W' => W' = wr.drew) wr.drew := rfl
   refine wpAnyL_take (i := 0) (v := ?v0) rfl (by kernel_rfl) (by kernel_rfl) (by kernel_rfl) (by kernel_rfl) (fun _ _ _ h => h) (Or.inl ⟨by rfl,?hy0⟩) (by rfl) ?_
   case hy0 => (intro w hSw; go_simp <;> with_reducible rfl)
   try simp only [Act.put,Qx,Qy,Qz]
   refine wpAnyL_take (i := 1) (v := ?v1) rfl (by kernel_rfl) (by kernel_rfl) (by kernel_rfl) (by kernel_rfl) (fun _ _ _ h => h) (Or.inl ⟨by rfl,?hy1⟩) (by rfl) ?_
   case hy1 => (intro w hSw; go_simp <;> with_reducible rfl)
   try simp only [Act.put,Qx,Qy,Qz]
   refine wpAnyL_take (i := 2) (v := ?v2) rfl (by kernel_rfl) (by kernel_rfl) (by kernel_rfl) (by kernel_rfl) (fun _ _ _ h => h) (Or.inl ⟨by rfl,?hy2⟩) (by rfl) ?_
   case hy2 => (intro w hSw; go_simp <;> with_reducible rfl)
   try simp only [Act.put,Qx,Qy,Qz]
   refine wpAnyL_take (i := 3) (v := ?v3) rfl (by kernel_rfl) (by kernel_rfl) (by kernel_rfl) (by kernel_rfl) (fun _ _ _ h => h) (Or.inl ⟨by rfl,?hy3⟩) (by rfl) ?_
   case hy3 => (intro w hSw; go_simp <;> with_reducible rfl)
   try simp only [Act.put,Qx,Qy,Qz]
   refine wpAnyL_take (i := 4) (v := ?v4) rfl (by kernel_rfl) (by kernel_rfl) (by kernel_rfl) (by kernel_rfl) (fun _ _ _ h => h) (Or.inl ⟨by rfl,?hy4⟩) (by rfl) ?_
   case hy4 => (intro w hSw; go_simp <;> with_reducible rfl)
   try simp only [Act.put,Qx,Qy,Qz]
   refine wpAnyL_take (i := 5) (v := ?v5) rfl (by kernel_rfl) (by kernel_rfl) (by kernel_rfl) (by kernel_rfl) (fun _ _ _ h => h) (Or.inl ⟨by rfl,?hy5⟩) (by rfl) ?_
   case hy5 => (intro w hSw; go_simp <;> with_reducible rfl)
   try simp only [Act.put,Qx,Qy,Qz]
   refine wpAnyL_take (i := 6) (v := ?v6) rfl (by kernel_rfl) (by kernel_rfl) (by kernel_rfl) (by kernel_rfl) (fun _ _ _ h => h) (Or.inl ⟨by rfl,?hy6⟩) (by rfl) ?_
   case hy6 => (intro w hSw; go_simp <;> with_reducible rfl)
   try simp only [Act.put,Qx,Qy,Qz]
   refine wpAnyL_take (i := 7) (v := ?v7) rfl (by kernel_rfl) (by kernel_rfl) (by kernel_rfl) (by kernel_rfl) (fun _ _ _ h => h) (Or.inl ⟨by rfl,?hy7⟩) (by rfl) ?_
   case hy7 => (intro w hSw; go_simp <;> with_reducible rfl)
   try simp only [Act.put,Qx,Qy,Qz]
   refine wpAnyL_take (i := 9) (v := ?v9) rfl (by kernel_rfl) (by kernel_rfl) (by kernel_rfl) (by kernel_rfl) (fun _ _ _ h => h) (Or.inl ⟨by rfl,?hy9⟩) (by rfl) ?_
   case hy9 => (intro w hSw; go_simp <;> with_reducible rfl)
   try simp only [Act.put,Qx,Qy,Qz]
   refine wpAnyL_take (i := 10) (v := ?v10) rfl (by kernel_rfl) (by kernel_rfl) (by kernel_rfl) (by kernel_rfl) (fun _ _ _ h => h) (Or.inl ⟨by rfl,?hy10⟩) (by rfl) ?_
   case hy10 => (intro w hSw; go_simp <;> with_reducible rfl)
   try simp only [Act.put,Qx,Qy,Qz]
   refine wpAnyL_take (i := 11) (v := ?v11) rfl (by kernel_rfl) (by kernel_rfl) (by kernel_rfl) (by kernel_rfl) (fun _ _ _ h => h) (Or.inl ⟨by rfl,?hy11⟩) (by rfl) ?_
   case hy11 => (intro w hSw; go_simp <;> with_reducible rfl)
   try simp only [Act.put,Qx,Qy,Qz]
   refine wpAnyL_take (i := 12) (v := ?v12) rfl (by kernel_rfl) (by kernel_rfl) (by kernel_rfl) (by kernel_rfl) (fun _ _ _ h => h) (Or.inl ⟨by rfl,?hy12⟩) (by rfl) ?_
   case hy12 => (intro w hSw; go_simp <;> with_reducible rfl)
   try simp only [Act.put,Qx,Qy,Qz]
   refine wpAnyL_take (i := 13) (v := ?v13) rfl (by kernel_rfl) (by kernel_rfl) (by kernel_rfl) (by kernel_rfl) (fun _ _ _ h => h) (Or.inl ⟨by rfl,?hy13⟩) (by rfl) ?_
   case hy13 => (intro w hSw; go_simp <;> with_reducible rfl)
   try simp only [Act.put,Qx,Qy,Qz]
   refine wpAnyL_take (i := 14) (v := ?v14) rfl (by kernel_rfl) (by kernel_rfl) (by kernel_rfl) (by kernel_rfl) (fun _ _ _ h => h) (Or.inl ⟨by rfl,?hy14⟩) (by rfl) ?_
   case hy14 => (intro w hSw; go_simp <;> with_reducible rfl)
   try simp only [Act.put,Qx,Qy,Qz]
   refine wpAnyL_take (i := 15) (v := ?v15) rfl (by kernel_rfl) (by kernel_rfl) (by kernel_rfl) (by kernel_rfl) (fun _ _ _ h => h) (Or.inl ⟨by rfl,?hy15⟩) (by rfl) ?_
   case hy15 => (intro w hSw; go_simp <;> with_reducible rfl)
   try simp only [Act.put,Qx,Qy,Qz]
   refine wpAnyL_take (i := 16) (v := ?v16) rfl (by kernel_rfl) (by kernel_rfl) (by kernel_rfl) (by kernel_rfl) (fun _ _ _ h => h) (Or.inl ⟨by rfl,?hy16⟩) (by rfl) ?_
   case hy16 => (intro w hSw; go_simp <;> with_reducible rfl)
   try simp only [Act.put,Qx,Qy,Qz]
   refine wpAnyL_one (i := 8) (by kernel_rfl) rfl (fun K hK => ?_)
   go_simp
   refine (l1Min_any _ _ _).mono ?_
   rintro e w' ⟨rfl,rfl⟩
   go_wp2_with fail
   refine hK.out _ _ (fun _ => by rfl) ?_
   clear hK K
   try simp only [Act.put,Qx,Qy,Qz]
   refine wpAnyL_one (i := 17) (by kernel_rfl) rfl (fun K hK => ?_)
   go_simp
   refine (l1Min_any _ _ _).mono ?_
   rintro e w' ⟨rfl,rfl⟩
   go_wp2_with fail
   refine hK.out _ _ (fun _ => by rfl) ?_
   clear hK K
   try simp only [Act.put,Qx,Qy,Qz]
   refine wpAnyL_take (i := 18) (v := ?v18) rfl (by kernel_rfl) (by kernel_rfl) (by kernel_rfl) (by kernel_rfl) (fun _ _ _ h => h) (Or.inl ⟨by rfl,?hy18⟩) (by rfl) ?_
   case hy18 => (intro w hSw; go_simp <;> with_reducible rfl)
   try simp only [Act.put,Qx,Qy,Qz]
   refine wpAnyL_take (i := 19) (v := ?v19) rfl (by kernel_rfl) (by kernel_rfl) (by kernel_rfl) (by kernel_rfl) (fun _ _ _ h => h) (Or.inl ⟨by rfl,?hy19⟩) (by rfl) ?_
   case hy19 => (intro w hSw; go_simp <;> with_reducible rfl)
   try simp only [Act.put,Qx,Qy,Qz]
   refine wpAnyL_one (i := 20) (by kernel_rfl) rfl (fun K hK => ?_)
   go_simp
   refine hK.out _ _ (fun h => absurd rfl h) ?_
   clear hK K
   try simp only [Act.put,Qx,Qy,Qz]
   refine wpAnyL_done (by kernel_rfl) ?_ _
   refine NoPanic.normal ?_
   go_wp2
   have hne : W.heap.size ≠ b := by omega
   have e01 := set2_at (W := wr) (r := W.heap.size) (i := 0) (j := 1) (u := .int .i64 (mnI A x)) (v := .int .i64 (mnI A' y)) (by omega) (by rw [o0]; rfl) (by rw [o1]; rfl)
   have e2 : ((wr.setCell ⟨W.heap.size,0,none⟩ (.int .i64 (mnI A x))).setCell ⟨W.heap.size,1,none⟩ (.int .i64 (mnI A' y))).cell? ⟨W.heap.size,2,none⟩ = some (.int .i64 C) := by
    rw [set2_other (by simp) (by simp)]; exact o2
   have e3 : ((wr.setCell ⟨W.heap.size,0,none⟩ (.int .i64 (mnI A x))).setCell ⟨W.heap.size,1,none⟩ (.int .i64 (mnI A' y))).cell? ⟨W.heap.size,3,none⟩ = some (.int .i64 C') := by
    rw [set2_other (by simp) (by simp)]; exact o3
   have ex : ((wr.setCell ⟨W.heap.size,0,none⟩ (.int .i64 (mnI A x))).setCell ⟨W.heap.size,1,none⟩ (.int .i64 (mnI A' y))).cell? ⟨b,k * 2,none⟩ = some (.int .i64 x) := by
    rw [set2_other (by simp [hne]) (by simp [hne])]; exact hx
   have ey : ((wr.setCell ⟨W.heap.size,0,none⟩ (.int .i64 (mnI A x))).setCell ⟨W.heap.size,1,none⟩ (.int .i64 (mnI A' y))).cell? ⟨b,k * 2 + 1,none⟩ = some (.int .i64 y) := by
    rw [set2_other (by simp [hne]) (by simp [hne])]; exact hy
   have y0 : ∀ o,o < 4 → ((wr.setCell ⟨W.heap.size,0,none⟩ (.int .i64 (mnI A x))).setCell ⟨W.heap.size,1,none⟩ (.int .i64 (mnI A' y))).frozen? ⟨W.heap.size,o,none⟩ = false := fun o ho => by
    rw [World.frozen?_setCell,World.frozen?_setCell]
    have hc : o = 0 ∨ o = 1 ∨ o = 2 ∨ o = 3 := by omega
    rcases hc with rfl | rfl | rfl | rfl
    ·exact z0
    ·exact z1
    ·exact z2
    ·exact z3
   have hBx : Below W.heap.size W ((wr.setCell ⟨W.heap.size,0,none⟩ (.int .i64 (mnI A x))).setCell ⟨W.heap.size,1,none⟩ (.int .i64 (mnI A' y))) := (HB.out.setCell (Nat.le_refl _) _).setCell (Nat.le_refl _) _
   generalize hw1 : (wr.setCell ⟨W.heap.size,0,none⟩ (.int .i64 (mnI A x))).setCell ⟨W.heap.size,1,none⟩ (.int .i64 (mnI A' y)) = w1 at *
   clear hw1 hx hy o0 o1 o2 o3 z0 z1 z2 z3
   obtain ⟨e0,e1⟩ := e01
   have z2 := y0 2 (by omega)
   have z3 := y0 3 (by omega)
   have z0 := y0 0 (by omega)
   have z1 := y0 1 (by omega)
   have HB1 : Hid (Below W.heap.size W w1) := hBx
   clear y0 hBx
   refine wp_region_noPanic ?_
   refine wp_region_L (S := fun W' => W' = w1.drew.drew) (z := 20) (by kernel_rfl) ?_
   have hSt2 : (fun W' => W' = w1.drew.drew) w1.drew.drew := rfl
   refine wpAnyL_take (i := 0) (v := ?vv0) rfl (by kernel_rfl) (by kernel_rfl) (by kernel_rfl) (by kernel_rfl) (fun _ _ _ h => h) (Or.inl ⟨by rfl,?hyy0⟩) (by rfl) ?_
   case hyy0 => (intro w hSw; go_simp <;> with_reducible rfl)
   try simp only [Act.put,Qx,Qy,Qz]
   refine wpAnyL_take (i := 1) (v := ?vv1) rfl (by kernel_rfl) (by kernel_rfl) (by kernel_rfl) (by kernel_rfl) (fun _ _ _ h => h) (Or.inl ⟨by rfl,?hyy1⟩) (by rfl) ?_
   case hyy1 => (intro w hSw; go_simp <;> with_reducible rfl)
   try simp only [Act.put,Qx,Qy,Qz]
   refine wpAnyL_take (i := 2) (v := ?vv2) rfl (by kernel_rfl) (by kernel_rfl) (by kernel_rfl) (by kernel_rfl) (fun _ _ _ h => h) (Or.inl ⟨by rfl,?hyy2⟩) (by rfl) ?_
   case hyy2 => (intro w hSw; go_simp <;> with_reducible rfl)
   try simp only [Act.put,Qx,Qy,Qz]
   refine wpAnyL_take (i := 3) (v := ?vv3) rfl (by kernel_rfl) (by kernel_rfl) (by kernel_rfl) (by kernel_rfl) (fun _ _ _ h => h) (Or.inl ⟨by rfl,?hyy3⟩) (by rfl) ?_
   case hyy3 => (intro w hSw; go_simp <;> with_reducible rfl)
   try simp only [Act.put,Qx,Qy,Qz]
   refine wpAnyL_take (i := 4) (v := ?vv4) rfl (by kernel_rfl) (by kernel_rfl) (by kernel_rfl) (by kernel_rfl) (fun _ _ _ h => h) (Or.inl ⟨by rfl,?hyy4⟩) (by rfl) ?_
   case hyy4 => (intro w hSw; go_simp <;> with_reducible rfl)
   try simp only [Act.put,Qx,Qy,Qz]
   refine wpAnyL_take (i := 5) (v := ?vv5) rfl (by kernel_rfl) (by kernel_rfl) (by kernel_rfl) (by kernel_rfl) (fun _ _ _ h => h) (Or.inl ⟨by rfl,?hyy5⟩) (by rfl) ?_
   case hyy5 => (intro w hSw; go_simp <;> with_reducible rfl)
   try simp only [Act.put,Qx,Qy,Qz]
   refine wpAnyL_take (i := 6) (v := ?vv6) rfl (by kernel_rfl) (by kernel_rfl) (by kernel_rfl) (by kernel_rfl) (fun _ _ _ h => h) (Or.inl ⟨by rfl,?hyy6⟩) (by rfl) ?_
   case hyy6 => (intro w hSw; go_simp <;> with_reducible rfl)
   try simp only [Act.put,Qx,Qy,Qz]
   refine wpAnyL_take (i := 7) (v := ?vv7) rfl (by kernel_rfl) (by kernel_rfl) (by kernel_rfl) (by kernel_rfl) (fun _ _ _ h => h) (Or.inl ⟨by rfl,?hyy7⟩) (by rfl) ?_
   case hyy7 => (intro w hSw; go_simp <;> with_reducible rfl)
   try simp only [Act.put,Qx,Qy,Qz]
   refine wpAnyL_take (i := 9) (v := ?vv9) rfl (by kernel_rfl) (by kernel_rfl) (by kernel_rfl) (by kernel_rfl) (fun _ _ _ h => h) (Or.inl ⟨by rfl,?hyy9⟩) (by rfl) ?_
   case hyy9 => (intro w hSw; go_simp <;> with_reducible rfl)
   try simp only [Act.put,Qx,Qy,Qz]
   refine wpAnyL_take (i := 10) (v := ?vv10) rfl (by kernel_rfl) (by kernel_rfl) (by kernel_rfl) (by kernel_rfl) (fun _ _ _ h => h) (Or.inl ⟨by rfl,?hyy10⟩) (by rfl) ?_
   case hyy10 => (intro w hSw; go_simp <;> with_reducible rfl)
   try simp only [Act.put,Qx,Qy,Qz]
   refine wpAnyL_take (i := 11) (v := ?vv11) rfl (by kernel_rfl) (by kernel_rfl) (by kernel_rfl) (by kernel_rfl) (fun _ _ _ h => h) (Or.inl ⟨by rfl,?hyy11⟩) (by rfl) ?_
   case hyy11 => (intro w hSw; go_simp <;> with_reducible rfl)
   try simp only [Act.put,Qx,Qy,Qz]
   refine wpAnyL_take (i := 12) (v := ?vv12) rfl (by kernel_rfl) (by kernel_rfl) (by kernel_rfl) (by kernel_rfl) (fun _ _ _ h => h) (Or.inl ⟨by rfl,?hyy12⟩) (by rfl) ?_
   case hyy12 => (intro w hSw; go_simp <;> with_reducible rfl)
   try simp only [Act.put,Qx,Qy,Qz]
   refine wpAnyL_take (i := 13) (v := ?vv13) rfl (by kernel_rfl) (by kernel_rfl) (by kernel_rfl) (by kernel_rfl) (fun _ _ _ h => h) (Or.inl ⟨by rfl,?hyy13⟩) (by rfl) ?_
   case hyy13 => (intro w hSw; go_simp <;> with_reducible rfl)
   try simp only [Act.put,Qx,Qy,Qz]
   refine wpAnyL_take (i := 14) (v := ?vv14) rfl (by kernel_rfl) (by kernel_rfl) (by kernel_rfl) (by kernel_rfl) (fun _ _ _ h => h) (Or.inl ⟨by rfl,?hyy14⟩) (by rfl) ?_
   case hyy14 => (intro w hSw; go_simp <;> with_reducible rfl)
   try simp only [Act.put,Qx,Qy,Qz]
   refine wpAnyL_take (i := 15) (v := ?vv15) rfl (by kernel_rfl) (by kernel_rfl) (by kernel_rfl) (by kernel_rfl) (fun _ _ _ h => h) (Or.inl ⟨by rfl,?hyy15⟩) (by rfl) ?_
   case hyy15 => (intro w hSw; go_simp <;> with_reducible rfl)
   try simp only [Act.put,Qx,Qy,Qz]
   refine wpAnyL_take (i := 16) (v := ?vv16) rfl (by kernel_rfl) (by kernel_rfl) (by kernel_rfl) (by kernel_rfl) (fun _ _ _ h => h) (Or.inl ⟨by rfl,?hyy16⟩) (by rfl) ?_
   case hyy16 => (intro w hSw; go_simp <;> with_reducible rfl)
   try simp only [Act.put,Qx,Qy,Qz]
   refine wpAnyL_one (i := 8) (by kernel_rfl) rfl (fun K hK => ?_)
   go_simp
   refine (l1Max_any _ _ _).mono ?_
   rintro e w' ⟨rfl,rfl⟩
   go_wp2_with fail
   refine hK.out _ _ (fun _ => by rfl) ?_
   clear hK K
   try simp only [Act.put,Qx,Qy,Qz]
   refine wpAnyL_one (i := 17) (by kernel_rfl) rfl (fun K hK => ?_)
   go_simp
   refine (l1Max_any _ _ _).mono ?_
   rintro e w' ⟨rfl,rfl⟩
   go_wp2_with fail
   refine hK.out _ _ (fun _ => by rfl) ?_
   clear hK K
   try simp only [Act.put,Qx,Qy,Qz]
   refine wpAnyL_take (i := 18) (v := ?vv18) rfl (by kernel_rfl) (by kernel_rfl) (by kernel_rfl) (by kernel_rfl) (fun _ _ _ h => h) (Or.inl ⟨by rfl,?hyy18⟩) (by rfl) ?_
   case hyy18 => (intro w hSw; go_simp <;> with_reducible rfl)
   try simp only [Act.put,Qx,Qy,Qz]
   refine wpAnyL_take (i := 19) (v := ?vv19) rfl (by kernel_rfl) (by kernel_rfl) (by kernel_rfl) (by kernel_rfl) (fun _ _ _ h => h) (Or.inl ⟨by rfl,?hyy19⟩) (by rfl) ?_
   case hyy19 => (intro w hSw; go_simp <;> with_reducible rfl)
   try simp only [Act.put,Qx,Qy,Qz]
   refine wpAnyL_one (i := 20) (by kernel_rfl) rfl (fun K hK => ?_)
   go_simp
   refine hK.out _ _ (fun h => absurd rfl h) ?_
   clear hK K
   try simp only [Act.put,Qx,Qy,Qz]
   refine wpAnyL_done (by kernel_rfl) ?_ _
   refine NoPanic.normal ?_
   go_wp2
   go_roundw
   case rel =>
    have g23 := set2_at (W := w1) (r := W.heap.size) (i := 2) (j := 3) (u := .int .i64 (mxI C x)) (v := .int .i64 (mxI C' y)) (by omega) (by rw [e2]; rfl) (by rw [e3]; rfl)
    refine ⟨k + 1,by omega,by omega,by go_num,?_,?_,?_,?_,?_,?_⟩
    ·exact ((HB1.out.setCell (Nat.le_refl _) _).setCell (Nat.le_refl _) _).drew.drew
    ·rw [show mnTo X (k + 1) = mnI A x from by rw [mnTo,KA.out,Kx.out]]
     exact (set2_other (by simp) (by simp)).trans e0
    ·rw [show mnTo Y (k + 1) = mnI A' y from by rw [mnTo,KA'.out,Ky.out]]
     exact (set2_other (by simp) (by simp)).trans e1
    ·rw [show mxTo X (k + 1) = mxI C x from by rw [mxTo,KC.out,Kx.out]]
     exact g23.1
    ·rw [show mxTo Y (k + 1) = mxI C' y from by rw [mxTo,KC'.out,Ky.out]]
     exact g23.2
    ·intro o ho
     show ((w1.setCell _ _).setCell _ _).frozen? _ = false
     rw [World.frozen?_setCell,World.frozen?_setCell]
     have hc : o = 0 ∨ o = 1 ∨ o = 2 ∨ o = 3 := by omega
     rcases hc with rfl | rfl | rfl | rfl
     ·exact z0
     ·exact z1
     ·exact z2
     ·exact z3
   case measure => simp [intOf]; omega
  ·have hkn : k = n := by omega
   subst hkn
   have r0 := c00 wr hB
   have r1 := c01 wr hB
   have r2 := c02 wr hB
   have r3 := c03 wr hB
   have y0 := z00 wr hB
   have y1 := z01 wr hB
   have y2 := z02 wr hB
   have y3 := z03 wr hB
   have hT : There wr w.heap.size 4 := fun o ho => by
    have hc : o = 0 ∨ o = 1 ∨ o = 2 ∨ o = 3 := by omega
    rcases hc with rfl | rfl | rfl | rfl
    ·exact ⟨⟨_,r0⟩,y0⟩
    ·exact ⟨⟨_,r1⟩,y1⟩
    ·exact ⟨⟨_,r2⟩,y2⟩
    ·exact ⟨⟨_,r3⟩,y3⟩
   have HT : Hid (There wr w.heap.size 4) := hT
   have HB : Hid (Below W.heap.size W wr) := hB
   clear hT hB c00 c01 c02 c03 z00 z01 z02 z03 d0 d1 fz
   have hneR : w.heap.size ≠ W.heap.size := by
    have := World.block_lt_of_cell? _ _ r0
    have h2 := HWl.out
    omega
   go_wp2
   obtain ⟨q0,q1,q2,q3⟩ := set4_at (a := .int .i64 (mnTo X k)) (b := .int .i64 (mnTo Y k)) (c := .int .i64 (mxTo X k)) (d := .int .i64 (mxTo Y k)) HT.out
   refine bodyPost_ret (v := .agg #[.int .i64 (mnTo X k), .int .i64 (mnTo Y k), .int .i64 (mxTo X k), .int .i64 (mxTo Y k)]) (by simp [results,Tryz.results95,go_sem,q0,q1,q2,q3]) rfl ⟨rfl,?_⟩
   have HB1 := bl_then HB0.out HB.out
   (repeat (first|exact Qr _ _|assumption|refine Qd ?_|refine Qa ?_ _|refine Qt ?_|refine Qs ?_ _|refine Qo ?_ ?_ _ _))
def meetB (a0 a1 a2 a3 b0 b1 b2 b3 : Int) : Bool := ((decide (a0 ≤ b2) && decide (b0 ≤ a2)) && decide (a1 ≤ b3)) && decide (b1 ≤ a3)
theorem l1Meet_any (a0 a1 a2 a3 b0 b1 b2 b3 : Int) (w : World) : Calls Tryz.prog 55 #[.agg #[.int .i64 a0, .int .i64 a1, .int .i64 a2, .int .i64 a3], .agg #[.int .i64 b0, .int .i64 b1, .int .i64 b2, .int .i64 b3]] w fun e w' => e = .returned (.bool (meetB a0 a1 a2 a3 b0 b1 b2 b3)) ∧ Below w.heap.size w w' := by
 unfold meetB
 cases h1 : decide (a0 ≤ b2) <;> cases h2 : decide (b0 ≤ a2) <;> cases h3 : decide (a1 ≤ b3)
 all_goals
  go_enter Tryz.func55,Tryz.ntmps55
  go_wp2
  go_ret
  exact ⟨ret_bool (by simp),by (repeat (first|exact Qr _ _|assumption|refine Qd ?_|refine Qa ?_ _|refine Qt ?_|refine Qs ?_ _|refine Qo ?_ ?_ _ _))⟩
theorem implDoMeet_any (a0 a1 a2 a3 b0 b1 b2 b3 : Int) (w : World) : Calls Tryz.prog 47 #[.agg #[.int .i64 a0, .int .i64 a1, .int .i64 a2, .int .i64 a3], .agg #[.int .i64 b0, .int .i64 b1, .int .i64 b2, .int .i64 b3]] w fun e w' => e = .returned (.bool (meetB a0 a1 a2 a3 b0 b1 b2 b3)) ∧ Below w.heap.size w w' := by
 have hm : meetB a0 a1 a2 a3 b0 b1 b2 b3 = (upB a0 a1 b2 b3 && upB b0 b1 a2 a3) := by
  unfold meetB upB
  cases decide (a0 ≤ b2) <;> cases decide (b0 ≤ a2) <;> cases decide (a1 ≤ b3) <;> cases decide (b1 ≤ a3) <;> rfl
 have HM := (show Hid _ from hm)
 clear hm
 cases h1 : upB a0 a1 b2 b3
 ·go_enter Tryz.func47,Tryz.ntmps47
  go_wp2_with (go_at_call 89; refine (isUpTo_any _ _ _ _ _).mono ?_; rintro e w' ⟨rfl,hb1⟩)
  go_ret
  exact ⟨ret_bool (by rw [HM.out,h1]; rfl),by (repeat (first|exact Qr _ _|assumption|refine Qd ?_|refine Qa ?_ _|refine Qt ?_|refine Qs ?_ _|refine Qo ?_ ?_ _ _))⟩
 ·go_enter Tryz.func47,Tryz.ntmps47
  go_wp2_with fail
  refine (isUpTo_any _ _ _ _ _).mono ?_
  rintro e w1 ⟨rfl,hb1⟩
  obtain ⟨hc,hf⟩ := bcell hb1
  have hz : w.heap.size + 1 < w1.heap.size := by have := hb1.size; simp at this; omega
  have hz0 : w.heap.size < w1.heap.size := by omega
  go_wp2_with fail
  refine (isUpTo_any _ _ _ _ _).mono ?_
  rintro e w2 ⟨rfl,hb2⟩
  go_wp2
  go_ret
  exact ⟨ret_bool (by rw [HM.out,h1]; rfl),by (repeat (first|exact Qr _ _|assumption|refine Qd ?_|refine Qa ?_ _|refine Qt ?_|refine Qs ?_ _|refine Qo ?_ ?_ _ _))⟩

def IsBytes (w : World) (a : Option Addr) (n : Nat) (Z : Nat → Int) : Prop :=
 n = 0 ∨ ∃ b off,a = some ⟨b,off,none⟩ ∧ b < w.heap.size ∧ ∀ i,i < n → w.cell? ⟨b,off + i,none⟩ = some (.int .u8 (Z i))
theorem IsBytes.below {w w' : World} {a : Option Addr} {n : Nat} {Z : Nat → Int} (h : IsBytes w a n Z) (hb : Below w.heap.size w w') : IsBytes w' a n Z := by
 rcases h with h | ⟨b,off,e,hl,hz⟩
 ·exact .inl h
 ·exact .inr ⟨b,off,e,Nat.lt_of_lt_of_le hl hb.size,fun i hi => (hb.cell (p := ⟨b,off + i,none⟩) hl).trans (hz i hi)⟩
def BsAt (w : World) (b off n : Nat) (Z : Nat → Int) : Prop := ∀ i,i < n → w.cell? ⟨b,off + i,none⟩ = some (.int .u8 (Z i))
theorem BsAt.below {w w' : World} {b off n B : Nat} {Z : Nat → Int} (h : BsAt w b off n Z) (hb : Below B w w') (hB : b < B) : BsAt w' b off n Z := fun i hi => (hb.cell (p := ⟨b,off + i,none⟩) hB).trans (h i hi)

def OwnB (w : World) (base : Nat) (v : Value) (n : Nat) (Z : Nat → Int) : Prop :=
 ∃ a cap,v = .slice a n cap ∧ n ≤ cap ∧ (n = 0 ∨ ∃ b,a = some ⟨b,0,none⟩ ∧ base ≤ b ∧ b < w.heap.size ∧ BsAt w b 0 n Z ∧ There w b n)
def cellsB (l : List Int) : List Value := l.map (.int .u8 ·)
def zz (l : List Int) (i : Nat) : Int := l.getD i 0
def RowB (base : Nat) (w : World) (v : Value) (l : List Int) : Prop := w.ownsRow base 5 1 v l.length (cellsB l)
theorem cellsB_len (l : List Int) : (cellsB l).length = l.length := by simp [cellsB]
theorem cellsB_add (l m : List Int) : cellsB (l ++ m) = cellsB l ++ cellsB m := by simp [cellsB]
theorem cellsB_at (l : List Int) (i : Nat) (h : i < l.length) : (cellsB l)[i]? = some (.int .u8 (zz l i)) := by simp [cellsB,zz,h]
theorem RowB.own {base : Nat} {w : World} {v : Value} {l : List Int} (h : RowB base w v l) : OwnB w base v l.length (zz l) := by
 obtain ⟨h1,h2 | ⟨g,cp,cur,hv,hg,hh,hkc,hcm,hcs,htk⟩⟩ := h
 ·obtain ⟨rfl,h0⟩ := h2
  rw [h0]
  exact ⟨none,0,rfl,Nat.le_refl _, .inl rfl⟩
 ·have hgl : g < w.heap.size := by
   rcases Nat.lt_or_ge g w.heap.size with h' | h'
   ·exact h'
   ·rw [Array.getElem?_eq_none h'] at hh; cases hh
  have hrow : w.ownsRow base 5 1 (.slice (some ⟨g,0,none⟩) l.length cp) l.length (cellsB l) := ⟨h1, .inr ⟨g,cp,cur,rfl,hg,hh,hkc,hcm,hcs,htk⟩⟩
  refine ⟨some ⟨g,0,none⟩,cp,hv,hkc, .inr ⟨g,rfl,hg,hgl,fun i hi => ?_,fun o ho => ⟨?_,hrow.frozenAt o⟩⟩⟩
  ·simp only [Nat.zero_add]
   exact (hrow.cellAt _ (by omega)).trans (cellsB_at l i hi)
  ·rw [hrow.cellAt o (by omega)]
   exact ⟨_,cellsB_at l o ho⟩
theorem RowB.below {base : Nat} {w w' : World} {v : Value} {l : List Int} (h : RowB base w v l) (hb : Below w.heap.size w w') : RowB base w' v l := by
 obtain ⟨h1,h2 | ⟨g,cp,cur,hv,hg,hh,hr⟩⟩ := h
 ·exact ⟨h1, .inl h2⟩
 ·refine ⟨h1, .inr ⟨g,cp,cur,hv,hg,?_,hr⟩⟩
  have hgl : g < w.heap.size := by
   rcases Nat.lt_or_ge g w.heap.size with h' | h'
   ·exact h'
   ·rw [Array.getElem?_eq_none h'] at hh; cases hh
  rw [hb.block g hgl]
  exact hh
theorem RowB.other {base r o : Nat} {w : World} {v u : Value} {l : List Int} (h : RowB base w v l) (hr : r < base) : RowB base (w.setCell ⟨r,o,none⟩ u) v l := by
 obtain ⟨h1,h2 | ⟨g,cp,cur,hv,hg,hh,hr'⟩⟩ := h
 ·exact ⟨h1, .inl h2⟩
 ·exact ⟨h1, .inr ⟨g,cp,cur,hv,hg,by rw [Below.heap_setCell _ _ _ _ (by simp; omega)]; exact hh,hr'⟩⟩
theorem RowB.wide {base B : Nat} {w : World} {v : Value} {l : List Int} (h : RowB base w v l) (hB : B ≤ base) : RowB B w v l := by
 obtain ⟨h1,h2 | ⟨g,cp,cur,hv,hg,hr⟩⟩ := h
 ·exact ⟨h1, .inl h2⟩
 ·exact ⟨h1, .inr ⟨g,cp,cur,hv,by omega,hr⟩⟩
theorem RowB.no (base : Nat) (w : World) : RowB base w (.slice none 0 0) [] := World.ownsRow_nil _ _ _ _
theorem RowB.at {base : Nat} {w : World} {v : Value} {l : List Int} (h : RowB base w v l) (hne : 0 < l.length) :
  ∃ g cap,v = .slice (some ⟨g,0,none⟩) l.length cap ∧ base ≤ g ∧ g < w.heap.size ∧ l.length ≤ cap ∧ BsAt w g 0 l.length (zz l) := by
 obtain ⟨a,cap,hv,hc,h0 | ⟨b,rfl,hb,hl,hp,ht⟩⟩ := h.own
 ·omega
 ·exact ⟨b,cap,hv,hb,hl,hc,hp⟩
theorem BsAt.news {w : World} {b off : Nat} {l : List Int} (h : BsAt w b off l.length (zz l)) : ∀ j u,(cellsB l)[j]? = some u → w.cell? ((⟨b,off,none⟩ : Addr).add j) = some u := fun j u hj => by
 have hl : j < l.length := by
  rcases Nat.lt_or_ge j l.length with h' | h'
  ·exact h'
  ·rw [List.getElem?_eq_none (by rw [cellsB_len]; exact h')] at hj; cases hj
 rw [cellsB_at l j hl] at hj
 injection hj with hj
 subst hj
 have e : (⟨b,off,none⟩ : Addr).add j = ⟨b,off + j,none⟩ := by
  unfold Addr.add
  by_cases h : j = 0 <;> simp [h]
 rw [e]
 exact h j hl
theorem cellsB_one (l : List Int) : ∀ u ∈ cellsB l,u.oneCell' = true := fun u hu => by
 simp [cellsB] at hu
 obtain ⟨z,_,rfl⟩ := hu
 rfl
theorem OwnB.pts {w : World} {base : Nat} {v : Value} {n : Nat} {Z : Nat → Int} (h : OwnB w base v n Z) : ∃ a cap,v = .slice a n cap ∧ n ≤ cap ∧ IsBytes w a n Z := by
 obtain ⟨a,cap,hv,hc,h0 | ⟨b,ha,hb,hl,hp,ht⟩⟩ := h
 ·exact ⟨a,cap,hv,hc, .inl h0⟩
 ·exact ⟨a,cap,hv,hc, .inr ⟨b,0,ha,hl,hp⟩⟩
theorem bl_cellB {w w' : World} {p : Addr} {v : Value} (hb : Below w.heap.size w w') (h : w.cell? p = some v) : w'.cell? p = some v := (hb.cell (World.block_lt_of_cell? _ _ h)).trans h
def putI (n : Nat) : List Int := if n < 128 then [(n : Int)] else ((n % 128 + 128 : Nat) : Int) :: putI (n / 128)
termination_by n
decreasing_by omega
theorem putI_small {n : Nat} (h : n < 128) : putI n = [(n : Int)] := by rw [putI,if_pos h]
theorem putI_big {n : Nat} (h : ¬ n < 128) : putI n = ((n % 128 + 128 : Nat) : Int) :: putI (n / 128) := by rw [putI,if_neg h]
theorem putI_ne (n : Nat) : 0 < (putI n).length := by rw [putI]; split <;> simp
theorem putI_len : ∀ (k n : Nat),n < 128 ^ (k + 1) → (putI n).length ≤ k + 1
 | 0,n,h => by rw [putI_small (by omega)]; simp
 | k + 1,n,h => by
  by_cases hn : n < 128
  ·rw [putI_small hn]; simp
  ·rw [putI_big hn]
   have := putI_len k (n / 128) (by rw [Nat.div_lt_iff_lt_mul (by omega)]; rw [Nat.pow_succ] at h; omega)
   simp; omega
theorem putI_len6 (n : Nat) (h : n ≤ 1099511627776) : (putI n).length ≤ 6 := putI_len 5 n (by omega)
theorem or128_u8 (x : Nat) (h : x < 256) : bits .or .u8 (x : Int) 128 = ((x % 128 + 128 : Nat) : Int) := by
 have : ∀ y : Fin 256,bits .or .u8 (y.val : Int) 128 = ((y.val % 128 + 128 : Nat) : Int) := by decide
 exact this ⟨x,h⟩
theorem l6Put_any (n : Nat) (w : World) (hn : n ≤ 1099511627776) : Calls Tryz.prog 117 #[.int .i64 (n : Int)] w fun e w' => ∃ v,e = .returned v ∧ RowB w.heap.size w' v (putI n) ∧ Below w.heap.size w w' := by
 induction n using Nat.strongRecOn generalizing w with
 | ind n ih =>
  by_cases hlt : n < 128
  ·have h1 : (n : Int) < 128 := by omega
   have e1 : IntKind.u8.wrap (n : Int) = (n : Int) := by rw [IntKind.wrap_u8]; omega
   clear ih
   go_enter Tryz.func117,Tryz.ntmps117
   go_wp2
   go_ret
   refine ⟨_,rfl,?_,by (repeat (first|exact Qr _ _|assumption|refine Qd ?_|refine Qa ?_ _|refine Qt ?_|refine Qs ?_ _|refine Qo ?_ ?_ _ _))⟩
   rw [putI_small hlt]
   exact World.ownsRow_lit (base := w.heap.size) w #[.int .u8 (n : Int)] 1 (Nat.le_refl _) (by decide) rfl
  ·have h1 : ¬ (n : Int) < 128 := by omega
   obtain ⟨i0,hi,hz0,hz1,hz2⟩ := info_parts info_u8
   obtain ⟨q,hq⟩ : ∃ q : Nat,n % 128 + 128 = q := ⟨_,rfl⟩
   obtain ⟨r,hr⟩ : ∃ r : Nat,n / 128 = r := ⟨_,rfl⟩
   have e0 : (n : Int).tmod 128 + 128 = (q : Int) := by rw [Int.tmod_eq_emod_of_nonneg (by omega)]; omega
   have e2 : (n : Int) % 128 + 128 = (q : Int) := by omega
   have e1 : IntKind.u8.wrap (q : Int) = (q : Int) := by rw [IntKind.wrap_u8]; omega
   have e3 : (n : Int).tdiv 128 = (r : Int) := by rw [Int.tdiv_eq_ediv_of_nonneg (by omega)]; omega
   have e4 : (n : Int) / 128 = (r : Int) := by omega
   have IH : Hid (∀ w,Calls Tryz.prog 117 #[.int .i64 (r : Int)] w fun e w' => ∃ v,e = .returned v ∧ RowB w.heap.size w' v (putI r) ∧ Below w.heap.size w w') := fun w => hr ▸ ih (n / 128) (by omega) w (by omega)
   have HP : Hid (putI n = (q : Int) :: putI r) := by show _ = _; rw [putI_big hlt,hq,hr]
   have h6 : (putI r).length ≤ 6 := putI_len6 r (by omega)
   clear ih hq hr
   go_enter Tryz.func117,Tryz.ntmps117
   go_wp2_with fail
   generalize hW : (w.alloc _ : World) = W
   have hB0 : Below w.heap.size w W := by subst hW; (repeat (first|exact Qr _ _|assumption|refine Qd ?_|refine Qa ?_ _|refine Qt ?_|refine Qs ?_ _|refine Qo ?_ ?_ _ _))
   have hO0 : RowB w.heap.size W (.slice (some ⟨w.heap.size,0,none⟩) 1 1) [(q : Int)] := by
    subst hW
    exact World.ownsRow_lit (base := w.heap.size) w #[.int .u8 (q : Int)] 1 (Nat.le_refl _) (by decide) rfl
   clear hW
   refine (IH.out W).mono ?_
   rintro e w1 ⟨v,rfl,hR,hb1⟩
   have HO1 : Hid (RowB w.heap.size w1 (.slice (some ⟨w.heap.size,0,none⟩) 1 1) [(q : Int)]) := hO0.below hb1
   have HB1 : Hid (Below w.heap.size w w1) := bl_then hB0 hb1
   obtain ⟨g,cap,rfl,hg1,hg2,hc2,hbs⟩ := hR.at (putI_ne r)
   have HS : Hid (BsAt w1 g 0 (putI r).length (zz (putI r))) := hbs
   have hle := HB1.out.size
   clear hR hb1 hO0 hB0 hbs
   go_wp2_with (first
    | (at_builtin; go_must (refine wpList_append_own _ rfl _ _ 22 rfl w.heap.size 5 i0 (.int .u8 0) 1 1 Tryz.underlying22 hi hz0 hz1 hz2 rfl (by decide) _ 1 (cellsB [(q : Int)]) rfl HO1.out ⟨g,0,none⟩ (putI r).length cap (cellsB (putI r)) rfl (by simp [cellsB]) HS.out.news (cellsB_one _) ?c3 ?c4 ?c5 ?_)))
   case c3 => unfold maxLen; omega
   case c4 => omega
   case c5 => first | omega | (simp; omega)
   intro v' w3 hown' hgrow hnil
   have hBg : Below w.heap.size w1 w3 := (Below.refl _ _).grown hgrow hle (fun k hk => (HO1.out.lt k hk).1)
   have HB3 : Hid (Below w.heap.size w w3) := HB1.out.trans hBg
   have HO3 : Hid (RowB w.heap.size w3 v' (putI n)) := by
    show RowB _ _ _ _
    rw [HP.out]
    unfold RowB
    have e : cellsB ((q : Int) :: putI r) = cellsB [(q : Int)] ++ cellsB (putI r) := by simp [cellsB]
    rw [e,List.length_cons,Nat.add_comm]
    exact hown'
   clear hown' hgrow hnil hBg HO1 HB1
   go_wp2
   go_ret
   exact ⟨_,rfl,HO3.out,HB3.out⟩
def foldI (n : Int) : Int := if n < 0 then -2 * n - 1 else 2 * n
def unfoldI (n : Int) : Int := if n % 2 = 1 then -(n / 2) - 1 else n / 2
theorem unfold_fold (n : Int) : unfoldI (foldI n) = n := by unfold unfoldI foldI; split <;> split <;> omega
theorem foldI_bd {n B : Int} (h : -B ≤ n) (h' : n ≤ B) : 0 ≤ foldI n ∧ foldI n ≤ 2 * B := by unfold foldI; split <;> omega
theorem unfoldI_bd {n B : Int} (h : 0 ≤ n) (h' : n ≤ 2 * B) : -B ≤ unfoldI n ∧ unfoldI n ≤ B := by unfold unfoldI; split <;> omega
theorem impl_fold_any (n : Int) (w : World) (h1 : -1099511627776 ≤ n) (h2 : n ≤ 1099511627776) : Calls Tryz.prog 139 #[.int .i64 n] w fun e w' => e = .returned (.int .u64 (foldI n)) ∧ w = w' := by
 unfold foldI
 by_cases hn : n < 0
 ·rw [if_pos hn]
  have e1 : IntKind.u64.wrap (-n) = -n := by rw [IntKind.wrap_u64]; omega
  have e2 : IntKind.u64.wrap (2 * -n) = 2 * -n := by rw [IntKind.wrap_u64]; omega
  have e3 : IntKind.u64.wrap (2 * -n - 1) = 2 * -n - 1 := by rw [IntKind.wrap_u64]; omega
  have e0 : IntKind.i64.wrap (-n) = -n := IntWalk.i64_in _ (by omega)
  go_enter Tryz.func139,Tryz.ntmps139
  go_wp2
  go_ret
  exact ⟨ret_int (by omega),rfl⟩
 ·rw [if_neg hn]
  have e1 : IntKind.u64.wrap n = n := by rw [IntKind.wrap_u64]; omega
  have e2 : IntKind.u64.wrap (2 * n) = 2 * n := by rw [IntKind.wrap_u64]; omega
  go_enter Tryz.func139,Tryz.ntmps139
  go_wp2
  go_ret
  exact ⟨ret_int (by omega),rfl⟩
theorem impl_unfold_any (n : Int) (w : World) (h1 : 0 ≤ n) (h2 : n ≤ 1099511627776) : Calls Tryz.prog 175 #[.int .u64 n] w fun e w' => e = .returned (.int .i64 (unfoldI n)) ∧ w = w' := by
 unfold unfoldI
 have e1 : IntKind.u64.wrap (n / 2) = n / 2 := by rw [IntKind.wrap_u64]; omega
 have e2 : IntKind.i64.wrap (n / 2) = n / 2 := IntWalk.i64_in _ (by omega)
 have e3 : IntKind.i64.wrap (-(n / 2)) = -(n / 2) := IntWalk.i64_in _ (by omega)
 have e4 : IntKind.i64.wrap (-(n / 2) - 1) = -(n / 2) - 1 := IntWalk.i64_in _ (by omega)
 have e5 : IntKind.u64.wrap (n % 2) = n % 2 := by rw [IntKind.wrap_u64]; omega
 have t1 : n.tdiv 2 = n / 2 := Int.tdiv_eq_ediv_of_nonneg h1
 have t2 : n.tmod 2 = n % 2 := Int.tmod_eq_emod_of_nonneg h1
 by_cases hn : n % 2 = 1
 ·rw [if_pos hn]
  go_enter Tryz.func175,Tryz.ntmps175
  go_wp2
  go_ret
  exact ⟨ret_int (by omega),rfl⟩
 ·rw [if_neg hn]
  go_enter Tryz.func175,Tryz.ntmps175
  go_wp2
  go_ret
  exact ⟨ret_int (by omega),rfl⟩
theorem l6Fold_any (n : Int) (w : World) (h1 : -1099511627776 ≤ n) (h2 : n ≤ 1099511627776) : Calls Tryz.prog 152 #[.int .i64 n] w fun e w' => e = .returned (.int .i64 (foldI n)) ∧ w = w' := by
 unfold foldI
 by_cases hn : n < 0
 ·rw [if_pos hn]
  have hn' : ¬ 0 ≤ n := by omega
  go_enter Tryz.func152,Tryz.ntmps152
  go_wp2
  go_ret
  exact ⟨ret_int (by omega),rfl⟩
 ·rw [if_neg hn]
  have hn' : 0 ≤ n := by omega
  go_enter Tryz.func152,Tryz.ntmps152
  go_wp2
  go_ret
  exact ⟨ret_int (by omega),rfl⟩
end Go.Proofs.YtfkonhagjahgnaaGreat
