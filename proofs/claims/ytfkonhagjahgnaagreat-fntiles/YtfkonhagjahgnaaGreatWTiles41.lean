/- Texts. -/
import Derived.Test.YtfkonhagjahgnaaGreatWTiles15
import Derived.Test.YtfkonhagjahgnaaGreatWTiles12
import Derived.Test.YtfkonhagjahgnaaGreatWTiles40
import Derived.Test.YtfkonhagjahgnaaGreatWTiles1
import Derived.BigQuiet
set_option linter.unusedSimpArgs false
set_option linter.unusedVariables false
set_option maxRecDepth 100000
set_option maxHeartbeats 32000000
namespace Go.Proofs.YtfkonhagjahgnaaGreat
open Go.RowKit
abbrev ctrV (z x y : Int) : Value := .agg #[.int .i64 (centI z (x * 8)), .int .i64 (centI z (y * 8)), .int .i64 (centI z (x * 8 + 7)), .int .i64 (centI z (y * 8 + 7))]
theorem ref_bdB {z x y : Int} (h : refB z x y = true) : (0 ≤ x ∧ x ≤ 7) ∧ (0 ≤ y ∧ y ≤ 7) := by
 have hz : zoomB z = true := by simp [refB] at h; exact h.1
 unfold refB at h
 rcases zoomB_cases hz with rfl | rfl | rfl | rfl <;> simp [inB,lastI] at h <;> omega
theorem pix_of_refB {z x y : Int} (h : refB z x y = true) (m q : Int) (hm : 0 ≤ m ∧ m < 8) (hq : 0 ≤ q ∧ q < 8) : pixB z (x * 8 + m) (y * 8 + q) = true := by
 have hz : zoomB z = true := by simp [refB] at h; exact h.1
 unfold refB at h
 rcases zoomB_cases hz with rfl | rfl | rfl | rfl <;> simp [inB,lastI] at h <;> simp [pixB,inB,pixI,hz] <;> omega
theorem l7Box_any (z x y : Int) (w : World) (hr : refB z x y = true) : Calls Tryz.prog 57 #[refV z x y] w fun e w' => e = .returned (ctrV z x y) ∧ Below w.heap.size w w' := by
 unfold ctrV
 obtain ⟨⟨x0,x1⟩,y0,y1⟩ := ref_bdB hr
 have p0 : pixB z (x * 8) (y * 8) = true := by have := pix_of_refB hr 0 0 (by omega) (by omega); simpa using this
 have p1 : pixB z (x * 8 + 7) (y * 8 + 7) = true := pix_of_refB hr 7 7 (by omega) (by omega)
 have ex : x * 8 + 8 - 1 = x * 8 + 7 := by omega
 have ey : y * 8 + 8 - 1 = y * 8 + 7 := by omega
 have H1 : Hid (∀ W',Calls Tryz.prog 98 #[.int .i64 z, .int .i64 (x * 8), .int .i64 (y * 8)] W' fun e w' => e = .returned (.agg #[.int .i64 (centI z (x * 8)), .int .i64 (centI z (y * 8))]) ∧ Below W'.heap.size W' w') := fun W' => l4Centre_any z _ _ W' p0
 have H2 : Hid (∀ W',Calls Tryz.prog 98 #[.int .i64 z, .int .i64 (x * 8 + 7), .int .i64 (y * 8 + 7)] W' fun e w' => e = .returned (.agg #[.int .i64 (centI z (x * 8 + 7)), .int .i64 (centI z (y * 8 + 7))]) ∧ Below W'.heap.size W' w') := fun W' => l4Centre_any z _ _ W' p1
 generalize centI z (x * 8) = a1 at *
 generalize centI z (y * 8) = a2 at *
 generalize centI z (x * 8 + 7) = a3 at *
 generalize centI z (y * 8 + 7) = a4 at *
 have xx0 : IntKind.i64.wrap (x * 8) = x * 8 := IntWalk.i64_in _ (by omega)
 have yy0 : IntKind.i64.wrap (y * 8) = y * 8 := IntWalk.i64_in _ (by omega)
 have xx1 : IntKind.i64.wrap (x * 8 + 8) = x * 8 + 8 := IntWalk.i64_in _ (by omega)
 have yy1 : IntKind.i64.wrap (y * 8 + 8) = y * 8 + 8 := IntWalk.i64_in _ (by omega)
 have xx2 : IntKind.i64.wrap (x * 8 + 7) = x * 8 + 7 := IntWalk.i64_in _ (by omega)
 have yy2 : IntKind.i64.wrap (y * 8 + 7) = y * 8 + 7 := IntWalk.i64_in _ (by omega)
 clear p0 p1 hr
 go_enter Tryz.func57,Tryz.ntmps57
 go_wp2_with fail
 generalize hW : ((w.alloc _).alloc _ : World) = W
 have HB0 : Hid (Below w.heap.size w W) := by show Below _ _ _; subst hW; (repeat (first|exact Qr _ _|assumption|refine Qd ?_|refine Qa ?_ _|refine Qt ?_|refine Qs ?_ _|refine Qo ?_ ?_ _ _))
 have HT : Hid (There W (w.heap.size + 1) 4) := by
  show There _ _ _
  subst hW
  have := there4 (w.alloc (.cells #[.int .i64 z, .int .i64 x, .int .i64 y] 26)) (.int .i64 0) (.int .i64 0) (.int .i64 0) (.int .i64 0) 93
  simpa using this
 have c0 : ∀ W',Below W.heap.size W W' → W'.cell? ⟨w.heap.size,0,none⟩ = some (.int .i64 z) := fun W' h => by rw [h.cell (by subst hW; simp <;> omega)]; subst hW; simp [go_sem]
 have c1 : ∀ W',Below W.heap.size W W' → W'.cell? ⟨w.heap.size,1,none⟩ = some (.int .i64 x) := fun W' h => by rw [h.cell (by subst hW; simp <;> omega)]; subst hW; simp [go_sem]
 have c2 : ∀ W',Below W.heap.size W W' → W'.cell? ⟨w.heap.size,2,none⟩ = some (.int .i64 y) := fun W' h => by rw [h.cell (by subst hW; simp <;> omega)]; subst hW; simp [go_sem]
 have hl : w.heap.size + 1 < W.heap.size := by subst hW; simp
 clear hW
 have k0 := c0 W (Below.refl _ _)
 have k1 := c1 W (Below.refl _ _)
 have k2 := c2 W (Below.refl _ _)
 clear c0 c1 c2
 have hreg : Reg (w.heap.size + 1) W (w.heap.size + 1) 4 W := Reg.start (Nat.le_of_lt hl) HT.out
 have d0 : ∀ W',Reg (w.heap.size + 1) W (w.heap.size + 1) 4 W' → W'.cell? ⟨w.heap.size,0,none⟩ = some (.int .i64 z) := fun W' h => (h.bel.cell (p := ⟨w.heap.size,0,none⟩) (by simp <;> omega)).trans k0
 have d1 : ∀ W',Reg (w.heap.size + 1) W (w.heap.size + 1) 4 W' → W'.cell? ⟨w.heap.size,1,none⟩ = some (.int .i64 x) := fun W' h => (h.bel.cell (p := ⟨w.heap.size,1,none⟩) (by simp <;> omega)).trans k1
 have d2 : ∀ W',Reg (w.heap.size + 1) W (w.heap.size + 1) 4 W' → W'.cell? ⟨w.heap.size,2,none⟩ = some (.int .i64 y) := fun W' h => (h.bel.cell (p := ⟨w.heap.size,2,none⟩) (by simp <;> omega)).trans k2
 go_wp2_with fail
 refine wp_region_noPanic ?_
 refine wp_region_held_drew (S := fun W' => Reg (w.heap.size + 1) W (w.heap.size + 1) 4 W') (by kernel_rfl) (by first | exact hreg | exact Reg.drew hreg | exact Reg.drew (Reg.drew hreg)) (fun hHeld => ?_)
 have hX0 : Reg (w.heap.size + 1) W (w.heap.size + 1) 4 (W.drew) := hHeld
 refine takeK (i := 0) (d := some 11) (v := ?va0) rfl rfl (Or.inl ⟨by rfl,?hya0⟩) hX0 ?_
 case hya0 => (intro w hSw; (try dsimp only at hSw); go_simp <;> with_reducible rfl)
 try simp only [Act.put,Qx,Qy,Qz]
 refine takeK (i := 1) (d := some 12) (v := ?va1) rfl rfl (Or.inl ⟨by rfl,?hya1⟩) hX0 ?_
 case hya1 => (intro w hSw; (try dsimp only at hSw); go_simp <;> with_reducible rfl)
 try simp only [Act.put,Qx,Qy,Qz]
 refine takeK (i := 2) (d := some 13) (v := ?va2) rfl rfl (Or.inl ⟨by rfl,?hya2⟩) hX0 ?_
 case hya2 => (intro w hSw; (try dsimp only at hSw); go_simp <;> with_reducible rfl)
 try simp only [Act.put,Qx,Qy,Qz]
 refine takeK (i := 3) (d := some 14) (v := ?va3) rfl rfl (Or.inl ⟨by rfl,?hya3⟩) hX0 ?_
 case hya3 => (intro w hSw; (try dsimp only at hSw); go_simp <;> with_reducible rfl)
 try simp only [Act.put,Qx,Qy,Qz]
 refine takeK (i := 5) (d := some 16) (v := ?va5) rfl rfl (Or.inl ⟨by rfl,?hya5⟩) hX0 ?_
 case hya5 => (intro w hSw; (try dsimp only at hSw); go_simp <;> with_reducible rfl)
 try simp only [Act.put,Qx,Qy,Qz]
 refine takeK (i := 6) (d := some 17) (v := ?va6) rfl rfl (Or.inl ⟨by rfl,?hya6⟩) hX0 ?_
 case hya6 => (intro w hSw; (try dsimp only at hSw); go_simp <;> with_reducible rfl)
 try simp only [Act.put,Qx,Qy,Qz]
 refine takeK (i := 7) (d := some 18) (v := ?va7) rfl rfl (Or.inl ⟨by rfl,?hya7⟩) hX0 ?_
 case hya7 => (intro w hSw; (try dsimp only at hSw); go_simp <;> with_reducible rfl)
 try simp only [Act.put,Qx,Qy,Qz]
 refine takeK (i := 8) (d := some 19) (v := ?va8) rfl rfl (Or.inl ⟨by rfl,?hya8⟩) hX0 ?_
 case hya8 => (intro w hSw; (try dsimp only at hSw); go_simp <;> with_reducible rfl)
 try simp only [Act.put,Qx,Qy,Qz]
 refine takeK (i := 9) (d := some 20) (v := ?va9) rfl rfl (Or.inl ⟨by rfl,?hya9⟩) hX0 ?_
 case hya9 => (intro w hSw; (try dsimp only at hSw); go_simp <;> with_reducible rfl)
 try simp only [Act.put,Qx,Qy,Qz]
 refine takeK (i := 10) (d := some 21) (v := ?va10) rfl rfl (Or.inl ⟨by rfl,?hya10⟩) hX0 ?_
 case hya10 => (intro w hSw; (try dsimp only at hSw); go_simp <;> with_reducible rfl)
 try simp only [Act.put,Qx,Qy,Qz]
 refine takeK (i := 11) (d := some 22) (v := ?va11) rfl rfl (Or.inl ⟨by rfl,?hya11⟩) hX0 ?_
 case hya11 => (intro w hSw; (try dsimp only at hSw); go_simp <;> with_reducible rfl)
 try simp only [Act.put,Qx,Qy,Qz]
 refine takeK (i := 12) (d := some 23) (v := ?va12) rfl rfl (Or.inl ⟨by rfl,?hya12⟩) hX0 ?_
 case hya12 => (intro w hSw; (try dsimp only at hSw); go_simp <;> with_reducible rfl)
 try simp only [Act.put,Qx,Qy,Qz]
 refine wpAnyH_ready (rs := [4]) (by kernel_rfl) (by simp) ?_
 refine (AllReadyH.cons rfl (fun K hK => ?_) AllReadyH.nil)
 rw [if_pos (by rfl)]
 go_simp
 refine Calls.mono (H1.out _) ?_
 rintro e wp0 ⟨rfl,hbp0⟩
 have hXp0 : Reg (w.heap.size + 1) W (w.heap.size + 1) 4 wp0 := Reg.call hX0 hbp0
 go_wp2_with fail
 refine hK.out _ _ hXp0 (fun hHeld => ?_)
 clear hK K
 try simp only [Act.put,Qx,Qy,Qz]
 refine wpAnyH_ready (rs := [13]) (by kernel_rfl) (by simp) ?_
 refine (AllReadyH.cons rfl (fun K hK => ?_) AllReadyH.nil)
 rw [if_pos (by rfl)]
 go_simp
 refine Calls.mono (H2.out _) ?_
 rintro e wp1 ⟨rfl,hbp1⟩
 have hXp1 : Reg (w.heap.size + 1) W (w.heap.size + 1) 4 wp1 := Reg.call hXp0 hbp1
 go_wp2_with fail
 refine hK.out _ _ hXp1 (fun hHeld => ?_)
 clear hK K
 try simp only [Act.put,Qx,Qy,Qz]
 refine takeK (i := 14) (d := some 25) (v := ?vpb14) rfl rfl (Or.inl ⟨by rfl,?hypb14⟩) hXp1 ?_
 case hypb14 => (intro w hSw; (try dsimp only at hSw); go_simp <;> with_reducible rfl)
 try simp only [Act.put,Qx,Qy,Qz]
 refine wpAnyH_ready (rs := [15]) (by kernel_rfl) (by simp) ?_
 refine (AllReadyH.cons rfl (fun K hK => ?_) AllReadyH.nil)
 rw [if_pos (by rfl)]
 have hT' := hXp1.there
 have t0 := hT'.cell 0 (by omega)
 have f0 := (hT' 0 (by omega)).2
 have t1 := hT'.cell 1 (by omega)
 have f1 := (hT' 1 (by omega)).2
 have t2 := hT'.cell 2 (by omega)
 have f2 := (hT' 2 (by omega)).2
 have t3 := hT'.cell 3 (by omega)
 have f3 := (hT' 3 (by omega)).2
 go_simp
 have hs := HB0.out.size
 obtain ⟨s0,s1,s2,s3⟩ := set4_at (a := .int .i64 a1) (b := .int .i64 a2) (c := .int .i64 a3) (d := .int .i64 a4) hT'
 have hXs : Reg (w.heap.size + 1) W (w.heap.size + 1) 4 ((((wp1.setCell ⟨w.heap.size + 1,0,none⟩ (.int .i64 a1)).setCell ⟨w.heap.size + 1,1,none⟩ (.int .i64 a2)).setCell ⟨w.heap.size + 1,2,none⟩ (.int .i64 a3)).setCell ⟨w.heap.size + 1,3,none⟩ (.int .i64 a4)) := (((hXp1.store (Nat.le_refl _) 0 _).store (Nat.le_refl _) 1 _).store (Nat.le_refl _) 2 _).store (Nat.le_refl _) 3 _
 generalize hwS : ((((wp1.setCell ⟨w.heap.size + 1,0,none⟩ (.int .i64 a1)).setCell ⟨w.heap.size + 1,1,none⟩ (.int .i64 a2)).setCell ⟨w.heap.size + 1,2,none⟩ (.int .i64 a3)).setCell ⟨w.heap.size + 1,3,none⟩ (.int .i64 a4)) = wS at *
 refine hK.out _ _ hXs (fun hHeld => ?_)
 clear hK K hwS t0 t1 t2 t3 f0 f1 f2 f3
 try simp only [Act.put,Qx,Qy,Qz]
 refine wpAnyH_done (by kernel_rfl) ?_ _
 refine NoPanic.normal ?_
 go_wp2_with fail
 exact bodyPost_ret (v := .agg #[.int .i64 a1, .int .i64 a2, .int .i64 a3, .int .i64 a4]) (by simp [results,Tryz.results57,go_sem,s0,s1,s2,s3]) rfl ⟨rfl,HB0.out.trans (hXs.bel.mono (Nat.le_succ _))⟩
theorem centres_any (z x y : Int) (w : World) (hr : refB z x y = true) : Calls Tryz.prog 49 #[refV z x y] w fun e w' => e = .returned (ctrV z x y) ∧ Below w.heap.size w w' := by
 unfold ctrV
 obtain ⟨⟨x0,x1⟩,y0,y1⟩ := ref_bdB hr
 have p0 : pixB z (x * 8) (y * 8) = true := by have := pix_of_refB hr 0 0 (by omega) (by omega); simpa using this
 have p1 : pixB z (x * 8 + 7) (y * 8 + 7) = true := pix_of_refB hr 7 7 (by omega) (by omega)
 have ex : x * 8 + 8 - 1 = x * 8 + 7 := by omega
 have ey : y * 8 + 8 - 1 = y * 8 + 7 := by omega
 have H1 : Hid (∀ W',Calls Tryz.prog 27 #[.int .i64 z, .int .i64 (x * 8), .int .i64 (y * 8)] W' fun e w' => e = .returned (.agg #[.int .i64 0, .int .i64 (centI z (x * 8)), .int .i64 (centI z (y * 8))]) ∧ Below W'.heap.size W' w') := fun W' => by have h := impl_CentreOf_any z (x * 8) (y * 8) W'; rw [centV,if_pos p0] at h; exact h
 have H2 : Hid (∀ W',Calls Tryz.prog 27 #[.int .i64 z, .int .i64 (x * 8 + 7), .int .i64 (y * 8 + 7)] W' fun e w' => e = .returned (.agg #[.int .i64 0, .int .i64 (centI z (x * 8 + 7)), .int .i64 (centI z (y * 8 + 7))]) ∧ Below W'.heap.size W' w') := fun W' => by have h := impl_CentreOf_any z (x * 8 + 7) (y * 8 + 7) W'; rw [centV,if_pos p1] at h; exact h
 generalize centI z (x * 8) = a1 at *
 generalize centI z (y * 8) = a2 at *
 generalize centI z (x * 8 + 7) = a3 at *
 generalize centI z (y * 8 + 7) = a4 at *
 have fld : ∀ (a b : Int) w,(Instr.field 69 (.agg #[.int .i64 0, .int .i64 a, .int .i64 b]) 1).run Tryz.prog w = .ok (.agg #[.int .i64 a, .int .i64 b]) w := fun _ _ _ => by kernel_rfl
 have xx0 : IntKind.i64.wrap (x * 8) = x * 8 := IntWalk.i64_in _ (by omega)
 have yy0 : IntKind.i64.wrap (y * 8) = y * 8 := IntWalk.i64_in _ (by omega)
 have xx1 : IntKind.i64.wrap (x * 8 + 8) = x * 8 + 8 := IntWalk.i64_in _ (by omega)
 have yy1 : IntKind.i64.wrap (y * 8 + 8) = y * 8 + 8 := IntWalk.i64_in _ (by omega)
 have xx2 : IntKind.i64.wrap (x * 8 + 7) = x * 8 + 7 := IntWalk.i64_in _ (by omega)
 have yy2 : IntKind.i64.wrap (y * 8 + 7) = y * 8 + 7 := IntWalk.i64_in _ (by omega)
 clear p0 p1 hr
 go_enter Tryz.func49,Tryz.ntmps49
 go_wp2_with fail
 generalize hW : ((w.alloc _).alloc _ : World) = W
 have HB0 : Hid (Below w.heap.size w W) := by show Below _ _ _; subst hW; (repeat (first|exact Qr _ _|assumption|refine Qd ?_|refine Qa ?_ _|refine Qt ?_|refine Qs ?_ _|refine Qo ?_ ?_ _ _))
 have HT : Hid (There W (w.heap.size + 1) 4) := by
  show There _ _ _
  subst hW
  have := there4 (w.alloc (.cells #[.int .i64 z, .int .i64 x, .int .i64 y] 26)) (.int .i64 0) (.int .i64 0) (.int .i64 0) (.int .i64 0) 93
  simpa using this
 have c0 : ∀ W',Below W.heap.size W W' → W'.cell? ⟨w.heap.size,0,none⟩ = some (.int .i64 z) := fun W' h => by rw [h.cell (by subst hW; simp <;> omega)]; subst hW; simp [go_sem]
 have c1 : ∀ W',Below W.heap.size W W' → W'.cell? ⟨w.heap.size,1,none⟩ = some (.int .i64 x) := fun W' h => by rw [h.cell (by subst hW; simp <;> omega)]; subst hW; simp [go_sem]
 have c2 : ∀ W',Below W.heap.size W W' → W'.cell? ⟨w.heap.size,2,none⟩ = some (.int .i64 y) := fun W' h => by rw [h.cell (by subst hW; simp <;> omega)]; subst hW; simp [go_sem]
 have hl : w.heap.size + 1 < W.heap.size := by subst hW; simp
 clear hW
 have k0 := c0 W (Below.refl _ _)
 have k1 := c1 W (Below.refl _ _)
 have k2 := c2 W (Below.refl _ _)
 clear c0 c1 c2
 have hreg : Reg (w.heap.size + 1) W (w.heap.size + 1) 4 W := Reg.start (Nat.le_of_lt hl) HT.out
 have d0 : ∀ W',Reg (w.heap.size + 1) W (w.heap.size + 1) 4 W' → W'.cell? ⟨w.heap.size,0,none⟩ = some (.int .i64 z) := fun W' h => (h.bel.cell (p := ⟨w.heap.size,0,none⟩) (by simp <;> omega)).trans k0
 have d1 : ∀ W',Reg (w.heap.size + 1) W (w.heap.size + 1) 4 W' → W'.cell? ⟨w.heap.size,1,none⟩ = some (.int .i64 x) := fun W' h => (h.bel.cell (p := ⟨w.heap.size,1,none⟩) (by simp <;> omega)).trans k1
 have d2 : ∀ W',Reg (w.heap.size + 1) W (w.heap.size + 1) 4 W' → W'.cell? ⟨w.heap.size,2,none⟩ = some (.int .i64 y) := fun W' h => (h.bel.cell (p := ⟨w.heap.size,2,none⟩) (by simp <;> omega)).trans k2
 go_wp2_with fail
 go_region
 go_wp2_with fail
 refine wp_region_noPanic ?_
 refine wp_region_held_drew (S := fun W' => Reg (w.heap.size + 1) W (w.heap.size + 1) 4 W') (by kernel_rfl) (by first | exact hreg | exact Reg.drew hreg | exact Reg.drew (Reg.drew hreg)) (fun hHeld => ?_)
 have hX0 : Reg (w.heap.size + 1) W (w.heap.size + 1) 4 (W.drew.drew) := hHeld
 refine takeK (i := 0) (d := some 11) (v := ?va0) rfl rfl (Or.inl ⟨by rfl,?hya0⟩) hX0 ?_
 case hya0 => (intro w hSw; (try dsimp only at hSw); go_simp <;> with_reducible rfl)
 try simp only [Act.put,Qx,Qy,Qz]
 refine takeK (i := 1) (d := some 12) (v := ?va1) rfl rfl (Or.inl ⟨by rfl,?hya1⟩) hX0 ?_
 case hya1 => (intro w hSw; (try dsimp only at hSw); go_simp <;> with_reducible rfl)
 try simp only [Act.put,Qx,Qy,Qz]
 refine takeK (i := 2) (d := some 13) (v := ?va2) rfl rfl (Or.inl ⟨by rfl,?hya2⟩) hX0 ?_
 case hya2 => (intro w hSw; (try dsimp only at hSw); go_simp <;> with_reducible rfl)
 try simp only [Act.put,Qx,Qy,Qz]
 refine takeK (i := 3) (d := some 14) (v := ?va3) rfl rfl (Or.inl ⟨by rfl,?hya3⟩) hX0 ?_
 case hya3 => (intro w hSw; (try dsimp only at hSw); go_simp <;> with_reducible rfl)
 try simp only [Act.put,Qx,Qy,Qz]
 refine takeK (i := 6) (d := some 17) (v := ?va6) rfl rfl (Or.inl ⟨by rfl,?hya6⟩) hX0 ?_
 case hya6 => (intro w hSw; (try dsimp only at hSw); go_simp <;> with_reducible rfl)
 try simp only [Act.put,Qx,Qy,Qz]
 refine takeK (i := 7) (d := some 18) (v := ?va7) rfl rfl (Or.inl ⟨by rfl,?hya7⟩) hX0 ?_
 case hya7 => (intro w hSw; (try dsimp only at hSw); go_simp <;> with_reducible rfl)
 try simp only [Act.put,Qx,Qy,Qz]
 refine takeK (i := 8) (d := some 19) (v := ?va8) rfl rfl (Or.inl ⟨by rfl,?hya8⟩) hX0 ?_
 case hya8 => (intro w hSw; (try dsimp only at hSw); go_simp <;> with_reducible rfl)
 try simp only [Act.put,Qx,Qy,Qz]
 refine takeK (i := 9) (d := some 20) (v := ?va9) rfl rfl (Or.inl ⟨by rfl,?hya9⟩) hX0 ?_
 case hya9 => (intro w hSw; (try dsimp only at hSw); go_simp <;> with_reducible rfl)
 try simp only [Act.put,Qx,Qy,Qz]
 refine takeK (i := 10) (d := some 21) (v := ?va10) rfl rfl (Or.inl ⟨by rfl,?hya10⟩) hX0 ?_
 case hya10 => (intro w hSw; (try dsimp only at hSw); go_simp <;> with_reducible rfl)
 try simp only [Act.put,Qx,Qy,Qz]
 refine takeK (i := 11) (d := some 22) (v := ?va11) rfl rfl (Or.inl ⟨by rfl,?hya11⟩) hX0 ?_
 case hya11 => (intro w hSw; (try dsimp only at hSw); go_simp <;> with_reducible rfl)
 try simp only [Act.put,Qx,Qy,Qz]
 refine takeK (i := 12) (d := some 23) (v := ?va12) rfl rfl (Or.inl ⟨by rfl,?hya12⟩) hX0 ?_
 case hya12 => (intro w hSw; (try dsimp only at hSw); go_simp <;> with_reducible rfl)
 try simp only [Act.put,Qx,Qy,Qz]
 refine takeK (i := 13) (d := some 24) (v := ?va13) rfl rfl (Or.inl ⟨by rfl,?hya13⟩) hX0 ?_
 case hya13 => (intro w hSw; (try dsimp only at hSw); go_simp <;> with_reducible rfl)
 try simp only [Act.put,Qx,Qy,Qz]
 refine wpAnyH_ready (rs := [4]) (by kernel_rfl) (by simp) ?_
 refine (AllReadyH.cons rfl (fun K hK => ?_) AllReadyH.nil)
 rw [if_pos (by rfl)]
 go_simp
 refine Calls.mono (H1.out _) ?_
 rintro e wp0 ⟨rfl,hbp0⟩
 have hXp0 : Reg (w.heap.size + 1) W (w.heap.size + 1) 4 wp0 := Reg.call hX0 hbp0
 go_wp2_with fail
 refine hK.out _ _ hXp0 (fun hHeld => ?_)
 clear hK K
 try simp only [Act.put,Qx,Qy,Qz]
 refine takeK (i := 5) (d := some 16) (v := ?vp05) rfl rfl (Or.inl ⟨by rfl,?hyp05⟩) hXp0 ?_
 case hyp05 => (intro w hSw; (try dsimp only at hSw); go_simp <;> with_reducible rfl)
 try simp only [Act.put,Qx,Qy,Qz]
 refine wpAnyH_ready (rs := [14]) (by kernel_rfl) (by simp) ?_
 refine (AllReadyH.cons rfl (fun K hK => ?_) AllReadyH.nil)
 rw [if_pos (by rfl)]
 go_simp
 refine Calls.mono (H2.out _) ?_
 rintro e wp1 ⟨rfl,hbp1⟩
 have hXp1 : Reg (w.heap.size + 1) W (w.heap.size + 1) 4 wp1 := Reg.call hXp0 hbp1
 go_wp2_with fail
 refine hK.out _ _ hXp1 (fun hHeld => ?_)
 clear hK K
 try simp only [Act.put,Qx,Qy,Qz]
 refine takeK (i := 15) (d := some 26) (v := ?vp115) rfl rfl (Or.inl ⟨by rfl,?hyp115⟩) hXp1 ?_
 case hyp115 => (intro w hSw; (try dsimp only at hSw); go_simp <;> with_reducible rfl)
 try simp only [Act.put,Qx,Qy,Qz]
 refine takeK (i := 16) (d := some 27) (v := ?vpb16) rfl rfl (Or.inl ⟨by rfl,?hypb16⟩) hXp1 ?_
 case hypb16 => (intro w hSw; (try dsimp only at hSw); go_simp <;> with_reducible rfl)
 try simp only [Act.put,Qx,Qy,Qz]
 refine wpAnyH_ready (rs := [17]) (by kernel_rfl) (by simp) ?_
 refine (AllReadyH.cons rfl (fun K hK => ?_) AllReadyH.nil)
 rw [if_pos (by rfl)]
 have hT' := hXp1.there
 have t0 := hT'.cell 0 (by omega)
 have f0 := (hT' 0 (by omega)).2
 have t1 := hT'.cell 1 (by omega)
 have f1 := (hT' 1 (by omega)).2
 have t2 := hT'.cell 2 (by omega)
 have f2 := (hT' 2 (by omega)).2
 have t3 := hT'.cell 3 (by omega)
 have f3 := (hT' 3 (by omega)).2
 go_simp
 have hs := HB0.out.size
 obtain ⟨s0,s1,s2,s3⟩ := set4_at (a := .int .i64 a1) (b := .int .i64 a2) (c := .int .i64 a3) (d := .int .i64 a4) hT'
 have hXs : Reg (w.heap.size + 1) W (w.heap.size + 1) 4 ((((wp1.setCell ⟨w.heap.size + 1,0,none⟩ (.int .i64 a1)).setCell ⟨w.heap.size + 1,1,none⟩ (.int .i64 a2)).setCell ⟨w.heap.size + 1,2,none⟩ (.int .i64 a3)).setCell ⟨w.heap.size + 1,3,none⟩ (.int .i64 a4)) := (((hXp1.store (Nat.le_refl _) 0 _).store (Nat.le_refl _) 1 _).store (Nat.le_refl _) 2 _).store (Nat.le_refl _) 3 _
 generalize hwS : ((((wp1.setCell ⟨w.heap.size + 1,0,none⟩ (.int .i64 a1)).setCell ⟨w.heap.size + 1,1,none⟩ (.int .i64 a2)).setCell ⟨w.heap.size + 1,2,none⟩ (.int .i64 a3)).setCell ⟨w.heap.size + 1,3,none⟩ (.int .i64 a4)) = wS at *
 refine hK.out _ _ hXs (fun hHeld => ?_)
 clear hK K hwS t0 t1 t2 t3 f0 f1 f2 f3
 try simp only [Act.put,Qx,Qy,Qz]
 refine wpAnyH_done (by kernel_rfl) ?_ _
 refine NoPanic.normal ?_
 go_wp2_with fail
 exact bodyPost_ret (v := .agg #[.int .i64 a1, .int .i64 a2, .int .i64 a3, .int .i64 a4]) (by simp [results,Tryz.results49,go_sem,s0,s1,s2,s3]) rfl ⟨rfl,HB0.out.trans (hXs.bel.mono (Nat.le_succ _))⟩
def rb1 (C wi z : Int) (D : List (Int × Int)) : Int := zI C (mnTo (px D) D.length - reachI wi z)
def rb2 (C wi z : Int) (D : List (Int × Int)) : Int := zI C (mnTo (py D) D.length - reachI wi z)
def rb3 (C wi z : Int) (D : List (Int × Int)) : Int := zI C (mxTo (px D) D.length + reachI wi z)
def rb4 (C wi z : Int) (D : List (Int × Int)) : Int := zI C (mxTo (py D) D.length + reachI wi z)
abbrev rbV (C wi z : Int) (D : List (Int × Int)) : Value := .agg #[.int .i64 C, .int .i64 (rb1 C wi z D), .int .i64 (rb2 C wi z D), .int .i64 (rb3 C wi z D), .int .i64 (rb4 C wi z D)]
theorem rbV_no {C wi z : Int} {D : List (Int × Int)} (h : C ≠ 0) : rbV C wi z D = .agg #[.int .i64 C, .int .i64 0, .int .i64 0, .int .i64 0, .int .i64 0] := by
 simp [rbV,rb1,rb2,rb3,rb4,zI,h]
abbrev dblR (R : List (Int × Int)) : List (Int × Int) := dblL (px R) (py R) R.length
theorem resRB (T : Array Value) (Wf : World) (r : Nat) (v0 v1 v2 v3 v4 : Value) (hT : T[4]?.getD undef = .pointer (some ⟨r,0,none⟩)) (h0 : Wf.cell? ⟨r,0,none⟩ = some v0) (h1 : Wf.cell? ⟨r,1,none⟩ = some v1) (h2 : Wf.cell? ⟨r,2,none⟩ = some v2) (h3 : Wf.cell? ⟨r,3,none⟩ = some v3) (h4 : Wf.cell? ⟨r,4,none⟩ = some v4) :
  (results Tryz.f48 T).run Tryz.prog Wf = .ok (.agg #[v0,v1,v2,v3,v4]) Wf := by
 simp [results,Tryz.results48,go_sem,hT,h0,h1,h2,h3,h4]
theorem impl_ReachBox_any {off : Nat} (id la ki wi z : Int) (b n cap : Nat) (X Y : Nat → Int) (lab : ByteArray) (pr : Int) (L : List Nat) (w : World) (hp : PtsAt w b off n X Y) (hbl : b < w.heap.size) (hn : n ≤ 1048576) (hcap : n ≤ cap) (hl : lab.size ≤ 1048576)
  (hL : 3 ≤ (snapL X Y z n).length → Thin (px (snapL X Y z n)) (py (snapL X Y z n)) (gridI z) 0 ((snapL X Y z n).length - 1) L) (C : Int) (hC : C = simpC z (featC id la ki wi n X Y lab pr)) :
  Calls Tryz.prog 48 #[.agg #[.int .i64 id, .int .i64 la, .int .i64 ki, .int .i64 wi, .slice (some ⟨b,off,none⟩) n cap, .string lab, .int .i64 pr], .int .i64 z] w fun e w' => e = .returned (rbV C wi z (dblR (simpR C ki z n X Y L))) ∧ Below w.heap.size w w' := by
 have HP : Hid (PtsAt w b off n X Y) := hp
 have HL := (show Hid _ from hL)
 have HC : Hid (C = simpC z (featC id la ki wi n X Y lab pr)) := hC
 clear hp hL hC
 by_cases hC0 : C = 0
 ·subst hC0
  have hz : zoomB z = true := by
   have := HC.out
   unfold simpC at this
   split at this
   ·assumption
   ·omega
  have hfc : featC id la ki wi n X Y lab pr = 0 := by
   have := HC.out
   unfold simpC at this
   rw [if_pos hz] at this
   exact this.symm
  obtain ⟨hkn,hR12,hall⟩ := simpR_facts hfc hz HL.out
  have hwr := (featC_rng hfc).2.2.1
  have hR0 : 0 < (simpR 0 ki z n X Y L).length := by rcases hkn with ⟨_,h⟩ | ⟨_,h⟩ | ⟨_,h⟩ <;> omega
  have Hs : Hid (∀ W,PtsAt W b off n X Y → b < W.heap.size → Calls Tryz.prog 26 #[.agg #[.int .i64 id, .int .i64 la, .int .i64 ki, .int .i64 wi, .slice (some ⟨b,off,none⟩) n cap, .string lab, .int .i64 pr], .int .i64 z] W fun e w' => ∃ g cg,e = .returned (.agg #[.int .i64 0, .int .i64 id, .int .i64 la, .int .i64 ki, .int .i64 wi, .slice (some ⟨g,0,none⟩) (simpR 0 ki z n X Y L).length cg, .string lab, .int .i64 pr]) ∧ g < w'.heap.size ∧ (simpR 0 ki z n X Y L).length ≤ cg ∧ PtsAt w' g 0 (simpR 0 ki z n X Y L).length (px (simpR 0 ki z n X Y L)) (py (simpR 0 ki z n X Y L)) ∧ Below W.heap.size W w') := fun W h1 h2 => simple_ok id la ki wi z b n cap X Y lab pr L W h1 h2 hn hcap hl HL.out HC.out hR0
  have HAL : Hid (allW (simpR 0 ki z n X Y L)) := hall
  generalize simpR 0 ki z n X Y L = R at *
  clear hfc hall hkn HC HL
  have Hb : Hid (∀ (g cg : Nat) (w : World),PtsAt w g 0 R.length (px R) (py R) → g < w.heap.size → Calls Tryz.prog 90 #[.agg #[.int .i64 id, .int .i64 la, .int .i64 ki, .int .i64 wi, .slice (some ⟨g,0,none⟩) R.length cg, .string lab, .int .i64 pr], .int .i64 z] w fun e w' => e = .returned (.agg #[.int .i64 (mnTo (px (dblR R)) (dblR R).length - reachI wi z), .int .i64 (mnTo (py (dblR R)) (dblR R).length - reachI wi z), .int .i64 (mxTo (px (dblR R)) (dblR R).length + reachI wi z), .int .i64 (mxTo (py (dblR R)) (dblR R).length + reachI wi z)]) ∧ Below w.heap.size w w') := fun g cg w h1 h2 => boxAsItIs_any id la ki wi z g R.length cg (px R) (py R) lab pr w h1 h2 hR0 (by omega) (fun i _ => HAL.out.at i) hwr hz
  have HV : Hid (rbV 0 wi z (dblR R) = .agg #[.int .i64 0, .int .i64 (mnTo (px (dblR R)) (dblR R).length - reachI wi z), .int .i64 (mnTo (py (dblR R)) (dblR R).length - reachI wi z), .int .i64 (mxTo (px (dblR R)) (dblR R).length + reachI wi z), .int .i64 (mxTo (py (dblR R)) (dblR R).length + reachI wi z)]) := by
   show rbV _ _ _ _ = _
   simp [rbV,rb1,rb2,rb3,rb4,zI]
  generalize mnTo (px (dblR R)) (dblR R).length - reachI wi z = a1 at *
  generalize mnTo (py (dblR R)) (dblR R).length - reachI wi z = a2 at *
  generalize mxTo (px (dblR R)) (dblR R).length + reachI wi z = a3 at *
  generalize mxTo (py (dblR R)) (dblR R).length + reachI wi z = a4 at *
  rw [HV.out]
  clear HV
  generalize R.length = N at *
  go_enter Tryz.func48,Tryz.ntmps48
  go_wp2_with fail
  generalize hW : ((w.alloc _).alloc _ : World) = W
  have hB0 : Below w.heap.size w W := by subst hW; (repeat (first|exact Qr _ _|assumption|refine Qd ?_|refine Qa ?_ _|refine Qt ?_|refine Qs ?_ _|refine Qo ?_ ?_ _ _))
  have HT : Hid (There W (w.heap.size + 1) 5) := by
   show There _ _ _
   subst hW
   have := there5 (w.alloc (.cells #[.int .i64 id, .int .i64 la, .int .i64 ki, .int .i64 wi, .slice (some ⟨b,off,none⟩) n cap, .string lab, .int .i64 pr] 39)) (.int .i64 0) (.int .i64 0) (.int .i64 0) (.int .i64 0) (.int .i64 0) 95
   simpa using this
  have hsW : w.heap.size + 1 < W.heap.size := by subst hW; simp
  clear hW
  refine (Hs.out W (HP.out.below hB0 hbl) (Nat.lt_of_lt_of_le hbl hB0.size)).mono ?_
  rintro e w1 ⟨g,cg,rfl,hgl,hcg,hPg,hb1⟩
  have HPg : Hid (PtsAt w1 g 0 N (px R) (py R)) := hPg
  have HB1 : Hid (Below w.heap.size w w1) := bl_then hB0 hb1
  have HT1 : Hid (There w1 (w.heap.size + 1) 5) := HT.out.below hb1
  have hs1 : w.heap.size + 1 < w1.heap.size := Nat.lt_of_lt_of_le hsW hb1.size
  clear hPg hB0 hb1 HT Hs
  go_wp2_with fail
  generalize hV : (w1.alloc _ : World) = V
  have hbV : Below w1.heap.size w1 V := by subst hV; (repeat (first|exact Qr _ _|assumption|refine Qd ?_|refine Qa ?_ _|refine Qt ?_|refine Qs ?_ _|refine Qo ?_ ?_ _ _))
  clear hV
  refine (Hb.out g cg V (HPg.out.below hbV hgl) (Nat.lt_of_lt_of_le hgl hbV.size)).mono ?_
  rintro e w2 ⟨rfl,hb2⟩
  have hb12 := bl_then hbV hb2
  have hT' := HT1.out.below hb12
  have HT2 : Hid (There w2 (w.heap.size + 1) 5) := hT'
  have t0 := hT'.cell 0 (by omega)
  have t1 := hT'.cell 1 (by omega)
  have t2 := hT'.cell 2 (by omega)
  have t3 := hT'.cell 3 (by omega)
  have t4 := hT'.cell 4 (by omega)
  have z0 := (hT' 0 (by omega)).2
  have z1 := (hT' 1 (by omega)).2
  have z2 := (hT' 2 (by omega)).2
  have z3 := (hT' 3 (by omega)).2
  have z4 := (hT' 4 (by omega)).2
  have HB2 : Hid (Below w.heap.size w w2) := bl_then HB1.out hb12
  have hs2 : w.heap.size + 1 < w2.heap.size := Nat.lt_of_lt_of_le hs1 hb12.size
  clear hT' hb12 hb2 hbV
  go_wp2_with fail
  obtain ⟨s0,s1,s2,s3,s4⟩ := set5_at (a := .int .i64 0) (b := .int .i64 a1) (c := .int .i64 a2) (d := .int .i64 a3) (e := .int .i64 a4) HT2.out
  refine bodyPost_ret (v := .agg #[.int .i64 0, .int .i64 a1, .int .i64 a2, .int .i64 a3, .int .i64 a4]) (by simp [results,Tryz.results48,go_sem,s0,s1,s2,s3,s4]) rfl ⟨rfl,?_⟩
  have HB := HB2.out
  (repeat (first|exact Qr _ _|assumption|refine Qd ?_|refine Qa ?_ _|refine Qt ?_|refine Qs ?_ _|refine Qo ?_ ?_ _ _))
 ·rw [rbV_no hC0]
  have hcb : (C != 0) = true := by simpa using hC0
  go_enter Tryz.func48,Tryz.ntmps48
  go_wp2_with fail
  generalize hW : ((w.alloc _).alloc _ : World) = W
  have hB0 : Below w.heap.size w W := by subst hW; (repeat (first|exact Qr _ _|assumption|refine Qd ?_|refine Qa ?_ _|refine Qt ?_|refine Qs ?_ _|refine Qo ?_ ?_ _ _))
  have HT : Hid (There W (w.heap.size + 1) 5) := by
   show There _ _ _
   subst hW
   have := there5 (w.alloc (.cells #[.int .i64 id, .int .i64 la, .int .i64 ki, .int .i64 wi, .slice (some ⟨b,off,none⟩) n cap, .string lab, .int .i64 pr] 39)) (.int .i64 0) (.int .i64 0) (.int .i64 0) (.int .i64 0) (.int .i64 0) 95
   simpa using this
  have hsW : w.heap.size + 1 < W.heap.size := by subst hW; simp
  clear hW
  refine (simple_no id la ki wi z b n cap X Y lab pr L W (HP.out.below hB0 hbl) (Nat.lt_of_lt_of_le hbl hB0.size) hn hcap hl HL.out C HC.out hC0).mono ?_
  rintro e w1 ⟨a1,c1,rfl,hb1⟩
  have hT' := HT.out.below hb1
  have HT2 : Hid (There w1 (w.heap.size + 1) 5) := hT'
  have t0 := hT'.cell 0 (by omega)
  have t1 := hT'.cell 1 (by omega)
  have t2 := hT'.cell 2 (by omega)
  have t3 := hT'.cell 3 (by omega)
  have t4 := hT'.cell 4 (by omega)
  have z0 := (hT' 0 (by omega)).2
  have z1 := (hT' 1 (by omega)).2
  have z2 := (hT' 2 (by omega)).2
  have z3 := (hT' 3 (by omega)).2
  have z4 := (hT' 4 (by omega)).2
  have HB2 : Hid (Below w.heap.size w w1) := bl_then hB0 hb1
  have hs2 : w.heap.size + 1 < w1.heap.size := Nat.lt_of_lt_of_le hsW hb1.size
  clear hT' hb1 hB0 HC HL
  go_wp2_with fail
  obtain ⟨s0,s1,s2,s3,s4⟩ := set5_at (a := .int .i64 C) (b := .int .i64 0) (c := .int .i64 0) (d := .int .i64 0) (e := .int .i64 0) HT2.out
  have hbl1 := fun (o : Obj) (V : World) => bl_alloc (Below.refl V.heap.size V) o
  refine bodyPost_ret (resRB _ _ (w.heap.size + 1) _ _ _ _ _ rfl (bl_cell (hbl1 _ _) s0) (bl_cell (hbl1 _ _) s1) (bl_cell (hbl1 _ _) s2) (bl_cell (hbl1 _ _) s3) (bl_cell (hbl1 _ _) s4)) rfl ⟨rfl,?_⟩
  have hle : w.heap.size ≤ w.heap.size + 1 := Nat.le_succ _
  exact (((((HB2.out.setCell (p := ⟨w.heap.size + 1,0,none⟩) hle _).setCell (p := ⟨w.heap.size + 1,1,none⟩) hle _).setCell (p := ⟨w.heap.size + 1,2,none⟩) hle _).setCell (p := ⟨w.heap.size + 1,3,none⟩) hle _).setCell (p := ⟨w.heap.size + 1,4,none⟩) hle _).alloc (by simp; omega) _
end Go.Proofs.YtfkonhagjahgnaaGreat
