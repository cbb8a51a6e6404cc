/- Texts. -/
import Derived.Test.YtiephlohemphjaaGreatVTickViewer14
import Derived.Test.YtiephlohemphjaaGreatVTickViewer11
import Derived.Deep.AppendLies
set_option linter.unusedSimpArgs false
set_option linter.unusedVariables false
set_option maxRecDepth 100000
set_option maxHeartbeats 32000000
namespace Go.Proofs.YtiephlohemphjaaGreat
open Go.RowKit
theorem RefA.grown {w w' : World} {b g : Nat} {z x y : Int} (h : RefA w b z x y) (hg : w.grownBy w' (some g)) (hne : g ≠ b) : RefA w' b z x y :=
 ⟨(hg.cell_far ⟨b,0,none⟩ h.lt (fun e => hne (by injection e with e; exact e.symm))).trans h.1,(hg.cell_far ⟨b,1,none⟩ h.lt (fun e => hne (by injection e with e; exact e.symm))).trans h.2.1,(hg.cell_far ⟨b,2,none⟩ h.lt (fun e => hne (by injection e with e; exact e.symm))).trans h.2.2⟩
theorem l9Refs_ok {z x y wd ht lx ly hx hy ex ey : Int} {NX NY : Nat} {R : Rfs} (b : Nat) (w : World) (hA : CamAt w b z x y wd ht) (hr : camB z x y wd ht = true) (hex : x + wd - 1 = ex) (hey : y + ht - 1 = ey) (e1 : x / 8 = lx) (e2 : y / 8 = ly) (e3 : ex / 8 = hx) (e4 : ey / 8 = hy)
  (hNX : (1 ≤ NX ∧ NX ≤ 2) ∧ hx = lx + (NX : Int) - 1) (hNY : (1 ≤ NY ∧ NY ≤ 2) ∧ hy = ly + (NY : Int) - 1) (hR : R = ⟨fun _ => z,fun i => lx + (i % NX : Nat),fun i => ly + (i / NX : Nat)⟩) :
  Calls Tryz.prog 89 #[.pointer (some ⟨b,0,none⟩)] w fun e w' => ∃ v,e = .returned v ∧ RowT w.heap.size w' v (NY * NX) R ∧ Below w.heap.size w w' := by
 have HR : Hid (R = ⟨fun _ => z,fun i => lx + (i % NX : Nat),fun i => ly + (i / NX : Nat)⟩) := hR
 have HX : Hid (hx = lx + (NX : Int) - 1) := hNX.2
 have HY : Hid (hy = ly + (NY : Int) - 1) := hNY.2
 have nX := hNX.1
 have nY := hNY.1
 clear hR hNX hNY
 have hz := camB_zoom hr
 have hin := camB_in hr
 have hn := pixI_bd hz
 have hp1 : pixB z x y = true := by simp [pixB,inB,hz]; omega
 have hp2 : pixB z ex ey = true := by simp [pixB,inB,hz]; omega
 have sT1 := fun w => l7At_any z x y w hp1
 have sT2 := fun w => l7At_any z ex ey w hp2
 have bl : 0 ≤ lx ∧ lx ≤ 8 ∧ 0 ≤ ly ∧ ly ≤ 8 := by omega
 have k1 : IntKind.i64.wrap (x + wd) = x + wd := IntWalk.i64_in _ (by omega)
 have k2 : IntKind.i64.wrap (y + ht) = y + ht := IntWalk.i64_in _ (by omega)
 have k3 : IntKind.i64.wrap (x + wd - 1) = ex := by rw [IntWalk.i64_in _ (by omega)]; exact hex
 have k4 : IntKind.i64.wrap (y + ht - 1) = ey := by rw [IntWalk.i64_in _ (by omega)]; exact hey
 rw [e1,e2] at sT1
 rw [e3,e4] at sT2
 clear hr hz hin hn hp1 hp2 hex hey e1 e2 e3 e4
 obtain ⟨i0,hi,hz0,hz1,hz2⟩ := info_parts info_rf
 have HA : Hid (CamAt w b z x y wd ht) := hA
 have hbw : b < w.heap.size := World.block_lt_of_cell? _ _ hA.1
 clear hA
 go_enter Tryz.func89,Tryz.ntmps89
 go_wp2_with fail
 generalize hW : (w.alloc _ : World) = W
 have HB0 : Hid (Below w.heap.size w W) := by show Below _ _ _; subst hW; exact Qb
 have HO0 : Hid (RowT w.heap.size W (.slice (some ⟨w.heap.size,0,none⟩) 0 0) 0 R) := by
  show World.ownsRow _ _ _ _ _ _ _
  subst hW
  exact ⟨by simp [cellsR], .inr ⟨w.heap.size,0,#[],rfl,Nat.le_refl _,heap_alloc_new w _,by simp,by unfold maxLen; omega,by simp,by simp [cellsR]⟩⟩
 have hsW : w.heap.size < W.heap.size := by subst hW; simp
 clear hW
 have c0 : ∀ W',Below W.heap.size W W' → W'.cell? ⟨b,0,none⟩ = some (.int .i64 z) := fun W' h => ((bl_then HB0.out h).cell (p := ⟨b,0,none⟩) hbw).trans HA.out.1
 have c1 : ∀ W',Below W.heap.size W W' → W'.cell? ⟨b,1,none⟩ = some (.int .i64 x) := fun W' h => ((bl_then HB0.out h).cell (p := ⟨b,1,none⟩) hbw).trans HA.out.2.1
 have c2 : ∀ W',Below W.heap.size W W' → W'.cell? ⟨b,2,none⟩ = some (.int .i64 y) := fun W' h => ((bl_then HB0.out h).cell (p := ⟨b,2,none⟩) hbw).trans HA.out.2.2.1
 have c3 : ∀ W',Below W.heap.size W W' → W'.cell? ⟨b,3,none⟩ = some (.int .i64 wd) := fun W' h => ((bl_then HB0.out h).cell (p := ⟨b,3,none⟩) hbw).trans HA.out.2.2.2.1
 have c4 : ∀ W',Below W.heap.size W W' → W'.cell? ⟨b,4,none⟩ = some (.int .i64 ht) := fun W' h => ((bl_then HB0.out h).cell (p := ⟨b,4,none⟩) hbw).trans HA.out.2.2.2.2
 go_cut [4] (fun p wc => ∃ b4 : Nat,p = .pointer (some ⟨b4,0,none⟩) ∧ W.heap.size ≤ b4 ∧ RefA wc b4 z lx ly ∧ Below W.heap.size W wc)
 case first =>
  refine wp_region_noPanic ?_
  refine wp_region_held_drew (S := fun W' => Below W.heap.size W W') (by kernel_rfl) (by exact Qb) (fun hHeld => ?_)
  have hX0 : Below W.heap.size W W.drew := hHeld
  refine takeK (i := 0) (d := some 9) (v := ?vm0) rfl rfl (Or.inl ⟨by rfl,?hym0⟩) (by assumption) ?_
  case hym0 => (intro w hSw; (try dsimp only at hSw); go_simp <;> with_reducible rfl)
  try simp only [Act.put,Qx,Qy,Qz]
  refine takeK (i := 1) (d := some 10) (v := ?vm1) rfl rfl (Or.inl ⟨by rfl,?hym1⟩) (by assumption) ?_
  case hym1 => (intro w hSw; (try dsimp only at hSw); go_simp <;> with_reducible rfl)
  try simp only [Act.put,Qx,Qy,Qz]
  refine takeK (i := 2) (d := some 11) (v := ?vm2) rfl rfl (Or.inl ⟨by rfl,?hym2⟩) (by assumption) ?_
  case hym2 => (intro w hSw; (try dsimp only at hSw); go_simp <;> with_reducible rfl)
  try simp only [Act.put,Qx,Qy,Qz]
  refine takeK (i := 3) (d := some 12) (v := ?vm3) rfl rfl (Or.inl ⟨by rfl,?hym3⟩) (by assumption) ?_
  case hym3 => (intro w hSw; (try dsimp only at hSw); go_simp <;> with_reducible rfl)
  try simp only [Act.put,Qx,Qy,Qz]
  refine takeK (i := 4) (d := some 13) (v := ?vm4) rfl rfl (Or.inl ⟨by rfl,?hym4⟩) (by assumption) ?_
  case hym4 => (intro w hSw; (try dsimp only at hSw); go_simp <;> with_reducible rfl)
  try simp only [Act.put,Qx,Qy,Qz]
  refine takeK (i := 5) (d := some 14) (v := ?vm5) rfl rfl (Or.inl ⟨by rfl,?hym5⟩) (by assumption) ?_
  case hym5 => (intro w hSw; (try dsimp only at hSw); go_simp <;> with_reducible rfl)
  try simp only [Act.put,Qx,Qy,Qz]
  refine takeK (i := 6) (d := some 15) (v := ?vm6) rfl rfl (Or.inl ⟨by rfl,?hym6⟩) (by assumption) ?_
  case hym6 => (intro w hSw; (try dsimp only at hSw); go_simp <;> with_reducible rfl)
  try simp only [Act.put,Qx,Qy,Qz]
  refine takeK (i := 7) (d := some 16) (v := ?vm7) rfl rfl (Or.inl ⟨by rfl,?hym7⟩) (by assumption) ?_
  case hym7 => (intro w hSw; (try dsimp only at hSw); go_simp <;> with_reducible rfl)
  try simp only [Act.put,Qx,Qy,Qz]
  refine takeK (i := 8) (d := some 17) (v := ?vm8) rfl rfl (Or.inl ⟨by rfl,?hym8⟩) (by assumption) ?_
  case hym8 => (intro w hSw; (try dsimp only at hSw); go_simp <;> with_reducible rfl)
  try simp only [Act.put,Qx,Qy,Qz]
  refine takeK (i := 9) (d := some 18) (v := ?vm9) rfl rfl (Or.inl ⟨by rfl,?hym9⟩) (by assumption) ?_
  case hym9 => (intro w hSw; (try dsimp only at hSw); go_simp <;> with_reducible rfl)
  try simp only [Act.put,Qx,Qy,Qz]
  refine takeK (i := 10) (d := some 19) (v := ?vm10) rfl rfl (Or.inl ⟨by rfl,?hym10⟩) (by assumption) ?_
  case hym10 => (intro w hSw; (try dsimp only at hSw); go_simp <;> with_reducible rfl)
  try simp only [Act.put,Qx,Qy,Qz]
  refine takeK (i := 11) (d := some 20) (v := ?vm11) rfl rfl (Or.inl ⟨by rfl,?hym11⟩) (by assumption) ?_
  case hym11 => (intro w hSw; (try dsimp only at hSw); go_simp <;> with_reducible rfl)
  try simp only [Act.put,Qx,Qy,Qz]
  refine wpAnyH_ready (rs := [12,13]) (by kernel_rfl) (by simp) ?_
  refine (AllReadyH.cons rfl (fun K hK => ?_) (AllReadyH.cons rfl (fun K hK => ?_) AllReadyH.nil))
  ·rw [if_pos (by rfl)]
   go_simp
   refine Calls.mono (sT1 _) ?_
   rintro e wk ⟨rfl,hbk⟩
   have hXk : Below W.heap.size W wk := bl_then hX0 hbk
   go_wp2_with fail
   refine hK.out _ _ hXk (fun hHeld => ?_)
   clear hK K
   try simp only [Act.put,Qx,Qy,Qz]
   refine wpAnyH_ready (rs := [13]) (by kernel_rfl) (by simp) ?_
   refine (AllReadyH.cons rfl (fun K hK => ?_) AllReadyH.nil)
   rw [if_pos (by rfl)]
   go_simp
   generalize hwA : (World.alloc _ _ : World) = wl
   have hbl : Below wk.heap.size wk wl := by subst hwA; exact Qb
   have hTl : There wl wk.heap.size 3 := by subst hwA; exact there3r wk _ _ _ _
   clear hwA
   have hXl : Below W.heap.size W wl := bl_then hXk hbl
   have hsl : W.heap.size ≤ wk.heap.size := Below.size hXk
   refine hK.out _ _ hXl (fun hHeld => ?_)
   clear hK K
   try simp only [Act.put,Qx,Qy,Qz]
   refine wpAnyH_ready (rs := [14]) (by kernel_rfl) (by simp) ?_
   refine (AllReadyH.cons rfl (fun K hK => ?_) AllReadyH.nil)
   rw [if_pos (by rfl)]
   have t0 := hTl.cell 0 (by omega)
   have f0 := (hTl 0 (by omega)).2
   have t1 := hTl.cell 1 (by omega)
   have f1 := (hTl 1 (by omega)).2
   have t2 := hTl.cell 2 (by omega)
   have f2 := (hTl 2 (by omega)).2
   go_simp
   have hXs : Below W.heap.size W (((wl.setCell ⟨wk.heap.size,0,none⟩ (.int .i64 z)).setCell ⟨wk.heap.size,1,none⟩ (.int .i64 lx)).setCell ⟨wk.heap.size,2,none⟩ (.int .i64 ly)) := ((hXl.setCell hsl _).setCell hsl _).setCell hsl _
   have hRs := RefA.put (z := z) (x := lx) (y := ly) hTl
   generalize hwS : (((wl.setCell _ _).setCell _ _).setCell _ _ : World) = wS at *
   refine hK.out _ _ hXs (fun hHeld => ?_)
   clear hK K hwS t0 t1 t2 f0 f1 f2
   try simp only [Act.put,Qx,Qy,Qz]
   refine wpAnyH_done (by kernel_rfl) ?_ _
   refine NoPanic.normal ?_
   go_wp2_with fail
   go_meet
   case rel => exact ⟨_,rfl,hsl,hRs,hXs⟩
  ·rw [if_pos (by rfl)]
   go_simp
   generalize hwA : (World.alloc _ _ : World) = wk
   have hbk : Below W.heap.size W wk.drew := by subst hwA; exact Qb
   have hTk : There wk.drew W.heap.size 3 := by subst hwA; exact there3r W _ _ _ _
   clear hwA
   refine hK.out _ _ hbk (fun hHeld => ?_)
   clear hK K
   try simp only [Act.put,Qx,Qy,Qz]
   refine wpAnyH_ready (rs := [12]) (by kernel_rfl) (by simp) ?_
   refine (AllReadyH.cons rfl (fun K hK => ?_) AllReadyH.nil)
   rw [if_pos (by rfl)]
   go_simp
   refine Calls.mono (sT1 _) ?_
   rintro e wl ⟨rfl,hbl⟩
   have hXl : Below W.heap.size W wl := bl_then hbk hbl
   have hTl := There.below hTk hbl
   have hsl : W.heap.size ≤ W.heap.size := Nat.le_refl _
   go_wp2_with fail
   refine hK.out _ _ hXl (fun hHeld => ?_)
   clear hK K
   try simp only [Act.put,Qx,Qy,Qz]
   refine wpAnyH_ready (rs := [14]) (by kernel_rfl) (by simp) ?_
   refine (AllReadyH.cons rfl (fun K hK => ?_) AllReadyH.nil)
   rw [if_pos (by rfl)]
   have t0 := hTl.cell 0 (by omega)
   have f0 := (hTl 0 (by omega)).2
   have t1 := hTl.cell 1 (by omega)
   have f1 := (hTl 1 (by omega)).2
   have t2 := hTl.cell 2 (by omega)
   have f2 := (hTl 2 (by omega)).2
   go_simp
   have hXs : Below W.heap.size W (((wl.setCell ⟨W.heap.size,0,none⟩ (.int .i64 z)).setCell ⟨W.heap.size,1,none⟩ (.int .i64 lx)).setCell ⟨W.heap.size,2,none⟩ (.int .i64 ly)) := ((hXl.setCell hsl _).setCell hsl _).setCell hsl _
   have hRs := RefA.put (z := z) (x := lx) (y := ly) hTl
   generalize hwS : (((wl.setCell _ _).setCell _ _).setCell _ _ : World) = wS at *
   refine hK.out _ _ hXs (fun hHeld => ?_)
   clear hK K hwS t0 t1 t2 f0 f1 f2
   try simp only [Act.put,Qx,Qy,Qz]
   refine wpAnyH_done (by kernel_rfl) ?_ _
   refine NoPanic.normal ?_
   go_wp2_with fail
   go_meet
   case rel => exact ⟨_,rfl,hsl,hRs,hXs⟩
 case rest =>
  obtain ⟨b4,rfl,hl4,hR4,hBc⟩ := hcut
  generalize wc = wA at *
  have HR4 : Hid (RefA wA b4 z lx ly) := hR4
  have HBA : Hid (Below W.heap.size W wA) := hBc
  have d0 : ∀ W',Below wA.heap.size wA W' → W'.cell? ⟨b,0,none⟩ = some (.int .i64 z) := fun W' h => c0 W' (bl_then hBc h)
  have d1 : ∀ W',Below wA.heap.size wA W' → W'.cell? ⟨b,1,none⟩ = some (.int .i64 x) := fun W' h => c1 W' (bl_then hBc h)
  have d2 : ∀ W',Below wA.heap.size wA W' → W'.cell? ⟨b,2,none⟩ = some (.int .i64 y) := fun W' h => c2 W' (bl_then hBc h)
  have d3 : ∀ W',Below wA.heap.size wA W' → W'.cell? ⟨b,3,none⟩ = some (.int .i64 wd) := fun W' h => c3 W' (bl_then hBc h)
  have d4 : ∀ W',Below wA.heap.size wA W' → W'.cell? ⟨b,4,none⟩ = some (.int .i64 ht) := fun W' h => c4 W' (bl_then hBc h)
  clear c0 c1 c2 c3 c4 hR4 hBc
  go_wp2_with fail
  go_cut [5] (fun p wx => ∃ b5 : Nat,p = .pointer (some ⟨b5,0,none⟩) ∧ wA.heap.size ≤ b5 ∧ RefA wx b5 z hx hy ∧ Below wA.heap.size wA wx)
  case first =>
   refine wp_region_noPanic ?_
   refine wp_region_held_drew (S := fun W' => Below wA.heap.size wA W') (by kernel_rfl) (by exact Qb) (fun hHeld => ?_)
   have hX0 : Below wA.heap.size wA wA.drew := hHeld
   refine takeK (i := 0) (d := some 22) (v := ?vn0) rfl rfl (Or.inl ⟨by rfl,?hyn0⟩) (by assumption) ?_
   case hyn0 => (intro w hSw; (try dsimp only at hSw); go_simp <;> with_reducible rfl)
   try simp only [Act.put,Qx,Qy,Qz]
   refine takeK (i := 1) (d := some 23) (v := ?vn1) rfl rfl (Or.inl ⟨by rfl,?hyn1⟩) (by assumption) ?_
   case hyn1 => (intro w hSw; (try dsimp only at hSw); go_simp <;> with_reducible rfl)
   try simp only [Act.put,Qx,Qy,Qz]
   refine takeK (i := 2) (d := some 24) (v := ?vn2) rfl rfl (Or.inl ⟨by rfl,?hyn2⟩) (by assumption) ?_
   case hyn2 => (intro w hSw; (try dsimp only at hSw); go_simp <;> with_reducible rfl)
   try simp only [Act.put,Qx,Qy,Qz]
   refine takeK (i := 3) (d := some 25) (v := ?vn3) rfl rfl (Or.inl ⟨by rfl,?hyn3⟩) (by assumption) ?_
   case hyn3 => (intro w hSw; (try dsimp only at hSw); go_simp <;> with_reducible rfl)
   try simp only [Act.put,Qx,Qy,Qz]
   refine takeK (i := 4) (d := some 26) (v := ?vn4) rfl rfl (Or.inl ⟨by rfl,?hyn4⟩) (by assumption) ?_
   case hyn4 => (intro w hSw; (try dsimp only at hSw); go_simp <;> with_reducible rfl)
   try simp only [Act.put,Qx,Qy,Qz]
   refine takeK (i := 5) (d := some 27) (v := ?vn5) rfl rfl (Or.inl ⟨by rfl,?hyn5⟩) (by assumption) ?_
   case hyn5 => (intro w hSw; (try dsimp only at hSw); go_simp <;> with_reducible rfl)
   try simp only [Act.put,Qx,Qy,Qz]
   refine takeK (i := 6) (d := some 28) (v := ?vn6) rfl rfl (Or.inl ⟨by rfl,?hyn6⟩) (by assumption) ?_
   case hyn6 => (intro w hSw; (try dsimp only at hSw); go_simp <;> with_reducible rfl)
   try simp only [Act.put,Qx,Qy,Qz]
   refine takeK (i := 7) (d := some 29) (v := ?vn7) rfl rfl (Or.inl ⟨by rfl,?hyn7⟩) (by assumption) ?_
   case hyn7 => (intro w hSw; (try dsimp only at hSw); go_simp <;> with_reducible rfl)
   try simp only [Act.put,Qx,Qy,Qz]
   refine takeK (i := 8) (d := some 30) (v := ?vn8) rfl rfl (Or.inl ⟨by rfl,?hyn8⟩) (by assumption) ?_
   case hyn8 => (intro w hSw; (try dsimp only at hSw); go_simp <;> with_reducible rfl)
   try simp only [Act.put,Qx,Qy,Qz]
   refine takeK (i := 9) (d := some 31) (v := ?vn9) rfl rfl (Or.inl ⟨by rfl,?hyn9⟩) (by assumption) ?_
   case hyn9 => (intro w hSw; (try dsimp only at hSw); go_simp <;> with_reducible rfl)
   try simp only [Act.put,Qx,Qy,Qz]
   refine takeK (i := 10) (d := some 32) (v := ?vn10) rfl rfl (Or.inl ⟨by rfl,?hyn10⟩) (by assumption) ?_
   case hyn10 => (intro w hSw; (try dsimp only at hSw); go_simp <;> with_reducible rfl)
   try simp only [Act.put,Qx,Qy,Qz]
   refine takeK (i := 11) (d := some 33) (v := ?vn11) rfl rfl (Or.inl ⟨by rfl,?hyn11⟩) (by assumption) ?_
   case hyn11 => (intro w hSw; (try dsimp only at hSw); go_simp <;> with_reducible rfl)
   try simp only [Act.put,Qx,Qy,Qz]
   refine takeK (i := 12) (d := some 34) (v := ?vn12) rfl rfl (Or.inl ⟨by rfl,?hyn12⟩) (by assumption) ?_
   case hyn12 => (intro w hSw; (try dsimp only at hSw); go_simp <;> with_reducible rfl)
   try simp only [Act.put,Qx,Qy,Qz]
   refine takeK (i := 13) (d := some 35) (v := ?vn13) rfl rfl (Or.inl ⟨by rfl,?hyn13⟩) (by assumption) ?_
   case hyn13 => (intro w hSw; (try dsimp only at hSw); go_simp <;> with_reducible rfl)
   try simp only [Act.put,Qx,Qy,Qz]
   refine takeK (i := 14) (d := some 36) (v := ?vn14) rfl rfl (Or.inl ⟨by rfl,?hyn14⟩) (by assumption) ?_
   case hyn14 => (intro w hSw; (try dsimp only at hSw); go_simp <;> with_reducible rfl)
   try simp only [Act.put,Qx,Qy,Qz]
   refine takeK (i := 15) (d := some 37) (v := ?vn15) rfl rfl (Or.inl ⟨by rfl,?hyn15⟩) (by assumption) ?_
   case hyn15 => (intro w hSw; (try dsimp only at hSw); go_simp <;> with_reducible rfl)
   try simp only [Act.put,Qx,Qy,Qz]
   refine takeK (i := 16) (d := some 38) (v := ?vn16) rfl rfl (Or.inl ⟨by rfl,?hyn16⟩) (by assumption) ?_
   case hyn16 => (intro w hSw; (try dsimp only at hSw); go_simp <;> with_reducible rfl)
   try simp only [Act.put,Qx,Qy,Qz]
   refine takeK (i := 17) (d := some 39) (v := ?vn17) rfl rfl (Or.inl ⟨by rfl,?hyn17⟩) (by assumption) ?_
   case hyn17 => (intro w hSw; (try dsimp only at hSw); go_simp <;> with_reducible rfl)
   try simp only [Act.put,Qx,Qy,Qz]
   refine takeK (i := 18) (d := some 40) (v := ?vn18) rfl rfl (Or.inl ⟨by rfl,?hyn18⟩) (by assumption) ?_
   case hyn18 => (intro w hSw; (try dsimp only at hSw); go_simp <;> with_reducible rfl)
   try simp only [Act.put,Qx,Qy,Qz]
   refine takeK (i := 19) (d := some 41) (v := ?vn19) rfl rfl (Or.inl ⟨by rfl,?hyn19⟩) (by assumption) ?_
   case hyn19 => (intro w hSw; (try dsimp only at hSw); go_simp <;> with_reducible rfl)
   try simp only [Act.put,Qx,Qy,Qz]
   refine takeK (i := 20) (d := some 42) (v := ?vn20) rfl rfl (Or.inl ⟨by rfl,?hyn20⟩) (by assumption) ?_
   case hyn20 => (intro w hSw; (try dsimp only at hSw); go_simp <;> with_reducible rfl)
   try simp only [Act.put,Qx,Qy,Qz]
   refine takeK (i := 21) (d := some 43) (v := ?vn21) rfl rfl (Or.inl ⟨by rfl,?hyn21⟩) (by assumption) ?_
   case hyn21 => (intro w hSw; (try dsimp only at hSw); go_simp <;> with_reducible rfl)
   try simp only [Act.put,Qx,Qy,Qz]
   refine takeK (i := 22) (d := some 44) (v := ?vn22) rfl rfl (Or.inl ⟨by rfl,?hyn22⟩) (by assumption) ?_
   case hyn22 => (intro w hSw; (try dsimp only at hSw); go_simp <;> with_reducible rfl)
   try simp only [Act.put,Qx,Qy,Qz]
   refine takeK (i := 23) (d := some 45) (v := ?vn23) rfl rfl (Or.inl ⟨by rfl,?hyn23⟩) (by assumption) ?_
   case hyn23 => (intro w hSw; (try dsimp only at hSw); go_simp <;> with_reducible rfl)
   try simp only [Act.put,Qx,Qy,Qz]
   refine wpAnyH_ready (rs := [24,25]) (by kernel_rfl) (by simp) ?_
   refine (AllReadyH.cons rfl (fun K hK => ?_) (AllReadyH.cons rfl (fun K hK => ?_) AllReadyH.nil))
   ·rw [if_pos (by rfl)]
    go_simp
    refine Calls.mono (sT2 _) ?_
    rintro e wk ⟨rfl,hbk⟩
    have hXk : Below wA.heap.size wA wk := bl_then hX0 hbk
    go_wp2_with fail
    refine hK.out _ _ hXk (fun hHeld => ?_)
    clear hK K
    try simp only [Act.put,Qx,Qy,Qz]
    refine wpAnyH_ready (rs := [25]) (by kernel_rfl) (by simp) ?_
    refine (AllReadyH.cons rfl (fun K hK => ?_) AllReadyH.nil)
    rw [if_pos (by rfl)]
    go_simp
    generalize hwA : (World.alloc _ _ : World) = wl
    have hbl : Below wk.heap.size wk wl := by subst hwA; exact Qb
    have hTl : There wl wk.heap.size 3 := by subst hwA; exact there3r wk _ _ _ _
    clear hwA
    have hXl : Below wA.heap.size wA wl := bl_then hXk hbl
    have hsl : wA.heap.size ≤ wk.heap.size := Below.size hXk
    refine hK.out _ _ hXl (fun hHeld => ?_)
    clear hK K
    try simp only [Act.put,Qx,Qy,Qz]
    refine wpAnyH_ready (rs := [26]) (by kernel_rfl) (by simp) ?_
    refine (AllReadyH.cons rfl (fun K hK => ?_) AllReadyH.nil)
    rw [if_pos (by rfl)]
    have t0 := hTl.cell 0 (by omega)
    have f0 := (hTl 0 (by omega)).2
    have t1 := hTl.cell 1 (by omega)
    have f1 := (hTl 1 (by omega)).2
    have t2 := hTl.cell 2 (by omega)
    have f2 := (hTl 2 (by omega)).2
    go_simp
    have hXs : Below wA.heap.size wA (((wl.setCell ⟨wk.heap.size,0,none⟩ (.int .i64 z)).setCell ⟨wk.heap.size,1,none⟩ (.int .i64 hx)).setCell ⟨wk.heap.size,2,none⟩ (.int .i64 hy)) := ((hXl.setCell hsl _).setCell hsl _).setCell hsl _
    have hRs := RefA.put (z := z) (x := hx) (y := hy) hTl
    generalize hwS : (((wl.setCell _ _).setCell _ _).setCell _ _ : World) = wS at *
    refine hK.out _ _ hXs (fun hHeld => ?_)
    clear hK K hwS t0 t1 t2 f0 f1 f2
    try simp only [Act.put,Qx,Qy,Qz]
    refine wpAnyH_done (by kernel_rfl) ?_ _
    refine NoPanic.normal ?_
    go_wp2_with fail
    go_meet
    case rel => exact ⟨_,rfl,hsl,hRs,hXs⟩
   ·rw [if_pos (by rfl)]
    go_simp
    generalize hwA : (World.alloc _ _ : World) = wk
    have hbk : Below wA.heap.size wA wk.drew := by subst hwA; exact Qb
    have hTk : There wk.drew wA.heap.size 3 := by subst hwA; exact there3r wA _ _ _ _
    clear hwA
    refine hK.out _ _ hbk (fun hHeld => ?_)
    clear hK K
    try simp only [Act.put,Qx,Qy,Qz]
    refine wpAnyH_ready (rs := [24]) (by kernel_rfl) (by simp) ?_
    refine (AllReadyH.cons rfl (fun K hK => ?_) AllReadyH.nil)
    rw [if_pos (by rfl)]
    go_simp
    refine Calls.mono (sT2 _) ?_
    rintro e wl ⟨rfl,hbl⟩
    have hXl : Below wA.heap.size wA wl := bl_then hbk hbl
    have hTl := There.below hTk hbl
    have hsl : wA.heap.size ≤ wA.heap.size := Nat.le_refl _
    go_wp2_with fail
    refine hK.out _ _ hXl (fun hHeld => ?_)
    clear hK K
    try simp only [Act.put,Qx,Qy,Qz]
    refine wpAnyH_ready (rs := [26]) (by kernel_rfl) (by simp) ?_
    refine (AllReadyH.cons rfl (fun K hK => ?_) AllReadyH.nil)
    rw [if_pos (by rfl)]
    have t0 := hTl.cell 0 (by omega)
    have f0 := (hTl 0 (by omega)).2
    have t1 := hTl.cell 1 (by omega)
    have f1 := (hTl 1 (by omega)).2
    have t2 := hTl.cell 2 (by omega)
    have f2 := (hTl 2 (by omega)).2
    go_simp
    have hXs : Below wA.heap.size wA (((wl.setCell ⟨wA.heap.size,0,none⟩ (.int .i64 z)).setCell ⟨wA.heap.size,1,none⟩ (.int .i64 hx)).setCell ⟨wA.heap.size,2,none⟩ (.int .i64 hy)) := ((hXl.setCell hsl _).setCell hsl _).setCell hsl _
    have hRs := RefA.put (z := z) (x := hx) (y := hy) hTl
    generalize hwS : (((wl.setCell _ _).setCell _ _).setCell _ _ : World) = wS at *
    refine hK.out _ _ hXs (fun hHeld => ?_)
    clear hK K hwS t0 t1 t2 f0 f1 f2
    try simp only [Act.put,Qx,Qy,Qz]
    refine wpAnyH_done (by kernel_rfl) ?_ _
    refine NoPanic.normal ?_
    go_wp2_with fail
    go_meet
    case rel => exact ⟨_,rfl,hsl,hRs,hXs⟩
  case rest =>
   obtain ⟨b5,rfl,hl5,hR5,hBx⟩ := hcut
   generalize wc = wB at *
   have hBB : Below w.heap.size w wB := bl_then HB0.out (bl_then HBA.out hBx)
   have HOB : Hid (RowT w.heap.size wB (.slice (some ⟨w.heap.size,0,none⟩) 0 0) 0 R) := by
    have hb := bl_then HBA.out hBx
    show World.ownsRow _ _ _ _ _ _ _
    obtain ⟨h1,h2 | ⟨g,cp,cur,hv,hg,hh,hr⟩⟩ := HO0.out
    ·exact ⟨h1, .inl h2⟩
    ·refine ⟨h1, .inr ⟨g,cp,cur,hv,hg,?_,hr⟩⟩
     rw [hb.block g (by
      injection hv with hv _ _
      injection hv with hv
      injection hv with hv
      omega)]
     exact hh
   have HR4B : Hid (RefA wB b4 z lx ly) := HR4.out.below hBx
   have HR5B : Hid (RefA wB b5 z hx hy) := hR5
   have HBB : Hid (Below w.heap.size w wB) := hBB
   have hl5' : w.heap.size < b5 := by have := HBA.out.size; omega
   have bx : 0 ≤ lx ∧ lx ≤ 8 := ⟨bl.1,bl.2.1⟩
   have by' : 0 ≤ ly ∧ ly ≤ 8 := bl.2.2
   obtain ⟨p0,p1,p2⟩ := HR4B.out
   clear bl d0 d1 d2 d3 d4 HO0 HR4 HBA hBB hBx hR5 HB0
   go_wp2_with fail
   go_loopw [3,6] (fun v j wr => ∃ (r g c : Nat),r ≤ NY ∧ j = .int .i64 (ly + (r : Int)) ∧ v = .slice (some ⟨g,0,none⟩) (r * NX) c ∧ g ≠ b4 ∧ g ≠ b5 ∧ RowT w.heap.size wr v (r * NX) R ∧ RefA wr b4 z lx ly ∧ RefA wr b5 z hx hy ∧ Below w.heap.size w wr) (fun _ j _ => (ly + (NY : Int) - intOf j).toNat)
   case atStart => exact ⟨0,w.heap.size,0,by omega,by simp,by rw [Nat.zero_mul],by omega,by omega,by rw [Nat.zero_mul]; exact HOB.out,HR4B.out,HR5B.out,HBB.out⟩
   case round =>
    obtain ⟨r,g,c,hr,rfl,rfl,hg4,hg5,hO,h4,h5,hB⟩ := hrel
    have HO0 : Hid (RowT w.heap.size wr (.slice (some ⟨g,0,none⟩) (r * NX) c) (r * NX) R) := hO
    have HB0 : Hid (Below w.heap.size w wr) := hB
    have H4 : Hid (RefA wr b4 z lx ly) := h4
    have H5 : Hid (RefA wr b5 z hx hy) := h5
    obtain ⟨p0,p1,p2⟩ := h4
    obtain ⟨q0,q1,q2⟩ := h5
    clear hO hB
    by_cases hlt : r < NY
    ·have hle : ly + (r : Int) ≤ hy := by have := HY.out; omega
     go_wp2_with fail
     go_loopw [3,7] (fun v j wr => ∃ (m g c : Nat),m ≤ NX ∧ j = .int .i64 (lx + (m : Int)) ∧ v = .slice (some ⟨g,0,none⟩) (r * NX + m) c ∧ g ≠ b4 ∧ g ≠ b5 ∧ RowT w.heap.size wr v (r * NX + m) R ∧ RefA wr b4 z lx ly ∧ RefA wr b5 z hx hy ∧ Below w.heap.size w wr) (fun _ j _ => (lx + (NX : Int) - intOf j).toNat)
     case atStart => exact ⟨0,g,c,by omega,by simp,rfl,hg4,hg5,HO0.out,H4.out,H5.out,HB0.out⟩
     case round =>
      clear HO0 HB0 H4 H5 p0 p1 p2 q0 q1 q2 hg4 hg5
      obtain ⟨m,g,c,hm,rfl,rfl,hg4,hg5,hO,h4,h5,hB⟩ := hrel
      have HO : Hid (RowT w.heap.size wr (.slice (some ⟨g,0,none⟩) (r * NX + m) c) (r * NX + m) R) := hO
      have HB : Hid (Below w.heap.size w wr) := hB
      have H4 : Hid (RefA wr b4 z lx ly) := h4
      have H5 : Hid (RefA wr b5 z hx hy) := h5
      obtain ⟨p0,p1,p2⟩ := h4
      obtain ⟨q0,q1,q2⟩ := h5
      have hzr : wr.cell? ⟨b,0,none⟩ = some (.int .i64 z) := (hB.cell (p := ⟨b,0,none⟩) hbw).trans HA.out.1
      have hszr : w.heap.size ≤ wr.heap.size := hB.size
      have hlz := World.block_lt_of_cell? _ _ hzr
      clear hO hB
      by_cases hlm : m < NX
      ·have hlx : lx + (m : Int) ≤ hx := by have := HX.out; omega
       have hK : r * NX + m < 10 := by
        have : r * NX ≤ 1 * 2 := Nat.mul_le_mul (by omega) nX.2
        omega
       have HS : Hid (cellsR R (r * NX + m + 1) = cellsR R (r * NX + m) ++ [.int .i64 z, .int .i64 (lx + (m : Int)), .int .i64 (ly + (r : Int))]) := by
        show _ = _
        rw [cellsR_add,HR.out]
        have e1 : (r * NX + m) % NX = m := by rw [Nat.mul_comm,Nat.mul_add_mod]; exact Nat.mod_eq_of_lt hlm
        have e2 : (r * NX + m) / NX = r := by rw [Nat.mul_comm,Nat.mul_add_div (by omega),Nat.div_eq_of_lt hlm]; rfl
        simp only [e1,e2]
       have HKK : Hid (r * NX + m + 1 = r * NX + (m + 1)) := rfl
       generalize hKd : r * NX + m = KK at *
       clear hKd
       go_wp2_with (first
        | (at_builtin; go_must (refine wpList_append_lies _ rfl _ _ 31 rfl w.heap.size 97 i0 (.agg #[.int .i64 0, .int .i64 0, .int .i64 0]) 3 24 Tryz.underlying31 hi hz0 hz1 hz2 rfl (by decide) _ KK (cellsR R KK) rfl (World.ownsRow.alloc HO.out _) ⟨wr.heap.size,0,none⟩ 1 1 [.int .i64 z, .int .i64 (lx + (m : Int)), .int .i64 (ly + (r : Int))] rfl rfl ?c1 ?c2 (by omega) ?c3 ?c4 ?c5 _ rfl ?_)))
       try
        case c1 =>
         intro q u hq
         match q,hq with
         | 0,hq => simp at hq; subst hq; simp [Addr.add,go_sem]
         | 1,hq => simp at hq; subst hq; simp [Addr.add,go_sem]
         | 2,hq => simp at hq; subst hq; simp [Addr.add,go_sem]
         | q + 3,hq => simp at hq
       case c2 => first | exact ⟨rfl,rfl,rfl⟩ | (intro u hu; simp at hu; rcases hu with rfl | rfl | rfl <;> rfl)
       case c3 => unfold maxLen; omega
       case c4 => omega
       case c5 => first | omega | (simp; omega)
       intro g' c' w3 hown' hgrow hlie hlt3
       generalize hV : (wr.alloc _ : World) = V at hgrow
       have hBV : Below wr.heap.size wr V := by subst hV; exact Qb
       have hsV : V.heap.size = wr.heap.size + 1 := by subst hV; simp
       have hgr : V.grownBy w3 (some g) := hgrow
       have hgw : w.heap.size ≤ g := (HO.out.lt g rfl).1
       have hBg : Below w.heap.size V w3 := (Below.refl _ _).grown hgrow (by have := hBV.size; omega) (fun k hk => by have e : g = k := Option.some.inj hk; omega)
       have HB3 : Hid (Below w.heap.size w w3) := (HB.out.trans (hBV.mono hszr)).trans hBg
       have HO3 : Hid (RowT w.heap.size w3 (.slice (some ⟨g',0,none⟩) (KK + 1) c') (KK + 1) R) := by
        show World.ownsRow _ _ _ _ _ _ _
        rw [HS.out]
        exact hown'
       have h43 : Hid (RefA w3 b4 z lx ly) := (H4.out.below hBV).grown hgr hg4
       have h53 : Hid (RefA w3 b5 z hx hy) := (H5.out.below hBV).grown hgr hg5
       have l4 := H4.out.lt
       have l5 := H5.out.lt
       have hn4 : g' ≠ b4 := by
        rcases hlie with e | e
        ·have e' : g = g' := Option.some.inj e
         omega
        ·omega
       have hn5 : g' ≠ b5 := by
        rcases hlie with e | e
        ·have e' : g = g' := Option.some.inj e
         omega
        ·omega
       clear hown' hgrow hBg hBV hV hlie hsV hgr H4 H5 HB HO p0 p1 p2 q0 q1 q2 hzr
       go_wp2
       go_roundw
       case rel => exact ⟨m + 1,g',c',by omega,by go_num,by rw [← HKK.out],hn4,hn5,by rw [← HKK.out]; exact HO3.out,h43.out,h53.out,HB3.out⟩
       case measure => simp [intOf]; omega
      ·have hme : m = NX := by omega
       have hgt : ¬ lx + (m : Int) ≤ hx := by have := HX.out; omega
       have HNN : Hid (r * NX + m = (r + 1) * NX) := by show _ = _; rw [hme,Nat.succ_mul]
       generalize r * NX + m = KK at *
       go_wp2
       go_roundw
       case rel => exact ⟨r + 1,g,c,by omega,by go_num,by rw [← HNN.out],hg4,hg5,by rw [← HNN.out]; exact HO.out,H4.out,H5.out,HB.out⟩
       case measure => simp [intOf]; omega
    ·obtain rfl : NY = r := by omega
     have hgt : ¬ ly + (NY : Int) ≤ hy := by have := HY.out; omega
     go_wp2
     go_ret
     exact ⟨_,rfl,HO0.out,HB0.out⟩
end Go.Proofs.YtiephlohemphjaaGreat
