/- Texts. -/
import Derived.Test.YtiephlohemphjaaGreatVTickViewer4
set_option linter.unusedSimpArgs false
set_option linter.unusedVariables false
set_option maxRecDepth 100000
set_option maxHeartbeats 32000000
namespace Go.Proofs.YtiephlohemphjaaGreat
open Go.RowKit
theorem l1Side_a (px py ax ay bx by' : Int) (w : World) (hp : okP px py = true) (ha : okP ax ay = true) (hb : okP bx by' = true) (h1 : py < ay) (h2 : py < by') :
  Calls Tryz.prog 230 #[.agg #[.int .i64 px, .int .i64 py], .agg #[.int .i64 ax, .int .i64 ay], .agg #[.int .i64 bx, .int .i64 by']] w fun e w' => e = .returned (.bool (sideB px py ax ay bx by')) ∧ Below w.heap.size w w' := by
 have HP : Hid (okP px py = true) := hp
 have HA : Hid (okP ax ay = true) := ha
 have HB : Hid (okP bx by' = true) := hb
 clear hp ha hb
 have HE : Hid (sideB px py ax ay bx by' = false) := by
  show _ = _
  simp [sideB,h1,h2]
 go_enter Tryz.func230,Tryz.ntmps230
 go_wp2
 go_ret
 exact ⟨ret_bool HE.out.symm,by (repeat (first|exact Qr _ _|assumption|refine Qd ?_|refine Qa ?_ _|refine Qt ?_|refine Qs ?_ _|refine Qo ?_ ?_ _ _))⟩
theorem l1Side_b (px py ax ay bx by' : Int) (w : World) (hp : okP px py = true) (ha : okP ax ay = true) (hb : okP bx by' = true) (h1 : ¬ py < ay) (h2 : ¬ py < by') :
  Calls Tryz.prog 230 #[.agg #[.int .i64 px, .int .i64 py], .agg #[.int .i64 ax, .int .i64 ay], .agg #[.int .i64 bx, .int .i64 by']] w fun e w' => e = .returned (.bool (sideB px py ax ay bx by')) ∧ Below w.heap.size w w' := by
 have HP : Hid (okP px py = true) := hp
 have HA : Hid (okP ax ay = true) := ha
 have HB : Hid (okP bx by' = true) := hb
 clear hp ha hb
 have HE : Hid (sideB px py ax ay bx by' = false) := by
  show _ = _
  simp [sideB,h1,h2]
 go_enter Tryz.func230,Tryz.ntmps230
 go_wp2
 go_ret
 exact ⟨ret_bool HE.out.symm,by (repeat (first|exact Qr _ _|assumption|refine Qd ?_|refine Qa ?_ _|refine Qt ?_|refine Qs ?_ _|refine Qo ?_ ?_ _ _))⟩
theorem l1Side_c (px py ax ay bx by' : Int) (w : World) (hp : okP px py = true) (ha : okP ax ay = true) (hb : okP bx by' = true) (h1 : ¬ py < ay) (h2 : py < by') :
  Calls Tryz.prog 230 #[.agg #[.int .i64 px, .int .i64 py], .agg #[.int .i64 ax, .int .i64 ay], .agg #[.int .i64 bx, .int .i64 by']] w fun e w' => e = .returned (.bool (sideB px py ax ay bx by')) ∧ Below w.heap.size w w' := by
 have HP : Hid (okP px py = true) := hp
 have HA : Hid (okP ax ay = true) := ha
 have HB : Hid (okP bx by' = true) := hb
 clear hp ha hb
 have h3 : ay < by' := by omega
 have HE : Hid (sideB px py ax ay bx by' = decide (0 < crossI ax ay bx by' px py)) := by
  show _ = _
  simp [sideB,h1,h2,h3]
 go_enter Tryz.func230,Tryz.ntmps230
 go_wp2_with fail
 generalize hW : (((w.alloc _).alloc _).alloc _ : World) = W
 have hB0 : Below w.heap.size w W := by subst hW; exact Qb
 have c00 : ∀ W',Below W.heap.size W W' → W'.cell? ⟨w.heap.size,0,none⟩ = some (.int .i64 px) := fun W' h => by
  rw [h.cell (by subst hW; simp <;> omega)]; subst hW; simp [go_sem]
 have c01 : ∀ W',Below W.heap.size W W' → W'.cell? ⟨w.heap.size,1,none⟩ = some (.int .i64 py) := fun W' h => by
  rw [h.cell (by subst hW; simp <;> omega)]; subst hW; simp [go_sem]
 have c10 : ∀ W',Below W.heap.size W W' → W'.cell? ⟨w.heap.size + 1,0,none⟩ = some (.int .i64 ax) := fun W' h => by
  rw [h.cell (by subst hW; simp <;> omega)]; subst hW; simp [go_sem]
 have c11 : ∀ W',Below W.heap.size W W' → W'.cell? ⟨w.heap.size + 1,1,none⟩ = some (.int .i64 ay) := fun W' h => by
  rw [h.cell (by subst hW; simp <;> omega)]; subst hW; simp [go_sem]
 have c20 : ∀ W',Below W.heap.size W W' → W'.cell? ⟨w.heap.size + 1 + 1,0,none⟩ = some (.int .i64 bx) := fun W' h => by
  rw [h.cell (by subst hW; simp <;> omega)]; subst hW; simp [go_sem]
 have c21 : ∀ W',Below W.heap.size W W' → W'.cell? ⟨w.heap.size + 1 + 1,1,none⟩ = some (.int .i64 by') := fun W' h => by
  rw [h.cell (by subst hW; simp <;> omega)]; subst hW; simp [go_sem]
 clear hW
 have HB0 : Hid (Below w.heap.size w W) := hB0
 clear hB0
 have hr : Below W.heap.size W W := Below.refl _ _
 go_wp2_with (go_at_call 232; refine (l1Cross_any _ _ _ _ _ _ _ HA.out HB.out HP.out).mono ?_; rintro e w' ⟨rfl,hb⟩; have hbn : Below W.heap.size W w' := (by exact Qb))
 go_ret
 exact ⟨ret_bool HE.out.symm,by have HB1 := HB0.out; exact Qb⟩
theorem l1Side_d (px py ax ay bx by' : Int) (w : World) (hp : okP px py = true) (ha : okP ax ay = true) (hb : okP bx by' = true) (h1 : py < ay) (h2 : ¬ py < by') :
  Calls Tryz.prog 230 #[.agg #[.int .i64 px, .int .i64 py], .agg #[.int .i64 ax, .int .i64 ay], .agg #[.int .i64 bx, .int .i64 by']] w fun e w' => e = .returned (.bool (sideB px py ax ay bx by')) ∧ Below w.heap.size w w' := by
 have HP : Hid (okP px py = true) := hp
 have HA : Hid (okP ax ay = true) := ha
 have HB : Hid (okP bx by' = true) := hb
 clear hp ha hb
 have h3 : ¬ ay < by' := by omega
 have HE : Hid (sideB px py ax ay bx by' = decide (crossI ax ay bx by' px py < 0)) := by
  show _ = _
  simp [sideB,h1,h2,h3]
 go_enter Tryz.func230,Tryz.ntmps230
 go_wp2_with fail
 generalize hW : (((w.alloc _).alloc _).alloc _ : World) = W
 have hB0 : Below w.heap.size w W := by subst hW; exact Qb
 have c00 : ∀ W',Below W.heap.size W W' → W'.cell? ⟨w.heap.size,0,none⟩ = some (.int .i64 px) := fun W' h => by
  rw [h.cell (by subst hW; simp <;> omega)]; subst hW; simp [go_sem]
 have c01 : ∀ W',Below W.heap.size W W' → W'.cell? ⟨w.heap.size,1,none⟩ = some (.int .i64 py) := fun W' h => by
  rw [h.cell (by subst hW; simp <;> omega)]; subst hW; simp [go_sem]
 have c10 : ∀ W',Below W.heap.size W W' → W'.cell? ⟨w.heap.size + 1,0,none⟩ = some (.int .i64 ax) := fun W' h => by
  rw [h.cell (by subst hW; simp <;> omega)]; subst hW; simp [go_sem]
 have c11 : ∀ W',Below W.heap.size W W' → W'.cell? ⟨w.heap.size + 1,1,none⟩ = some (.int .i64 ay) := fun W' h => by
  rw [h.cell (by subst hW; simp <;> omega)]; subst hW; simp [go_sem]
 have c20 : ∀ W',Below W.heap.size W W' → W'.cell? ⟨w.heap.size + 1 + 1,0,none⟩ = some (.int .i64 bx) := fun W' h => by
  rw [h.cell (by subst hW; simp <;> omega)]; subst hW; simp [go_sem]
 have c21 : ∀ W',Below W.heap.size W W' → W'.cell? ⟨w.heap.size + 1 + 1,1,none⟩ = some (.int .i64 by') := fun W' h => by
  rw [h.cell (by subst hW; simp <;> omega)]; subst hW; simp [go_sem]
 clear hW
 have HB0 : Hid (Below w.heap.size w W) := hB0
 clear hB0
 have hr : Below W.heap.size W W := Below.refl _ _
 go_wp2_with (go_at_call 232; refine (l1Cross_any _ _ _ _ _ _ _ HA.out HB.out HP.out).mono ?_; rintro e w' ⟨rfl,hb⟩; have hbn : Below W.heap.size W w' := (by exact Qb))
 go_ret
 exact ⟨ret_bool HE.out.symm,by have HB1 := HB0.out; exact Qb⟩
theorem l1Side_any (px py ax ay bx by' : Int) (w : World) (hp : okP px py = true) (ha : okP ax ay = true) (hb : okP bx by' = true) :
  Calls Tryz.prog 230 #[.agg #[.int .i64 px, .int .i64 py], .agg #[.int .i64 ax, .int .i64 ay], .agg #[.int .i64 bx, .int .i64 by']] w fun e w' => e = .returned (.bool (sideB px py ax ay bx by')) ∧ Below w.heap.size w w' := by
 by_cases h1 : py < ay <;> by_cases h2 : py < by'
 ·exact l1Side_a _ _ _ _ _ _ _ hp ha hb h1 h2
 ·exact l1Side_d _ _ _ _ _ _ _ hp ha hb h1 h2
 ·exact l1Side_c _ _ _ _ _ _ _ hp ha hb h1 h2
 ·exact l1Side_b _ _ _ _ _ _ _ hp ha hb h1 h2
theorem isCrossed_up (px py ax ay bx by' : Int) (w : World) (hp : okP px py = true) (ha : okP ax ay = true) (hb : okP bx by' = true) (h : ay ≤ by') (h1 : ay ≤ py) (h2 : py < by') :
  Calls Tryz.prog 273 #[.agg #[.int .i64 px, .int .i64 py], .agg #[.int .i64 ax, .int .i64 ay], .agg #[.int .i64 bx, .int .i64 by']] w fun e w' => e = .returned (.bool (sideB px py ax ay bx by')) ∧ Below w.heap.size w w' := by
 have HP : Hid (okP px py = true) := hp
 have HA : Hid (okP ax ay = true) := ha
 have HB : Hid (okP bx by' = true) := hb
 clear hp ha hb
 have HE : Hid (sideB px py ax ay bx by' = decide (0 < crossI ax ay bx by' px py)) := by
  show _ = _
  rw [side_up h]
  simp [h1,h2]
 have h' : ¬ by' < ay := by omega
 go_enter Tryz.func273,Tryz.ntmps273
 go_wp2
 generalize hW : (((w.alloc _).alloc _).alloc _ : World) = W
 have hB0 : Below w.heap.size w W := by subst hW; exact Qb
 have c00 : ∀ W',Below W.heap.size W W' → W'.cell? ⟨w.heap.size,0,none⟩ = some (.int .i64 px) := fun W' h => by
  rw [h.cell (by subst hW; simp <;> omega)]; subst hW; simp [go_sem]
 have c01 : ∀ W',Below W.heap.size W W' → W'.cell? ⟨w.heap.size,1,none⟩ = some (.int .i64 py) := fun W' h => by
  rw [h.cell (by subst hW; simp <;> omega)]; subst hW; simp [go_sem]
 have c10 : ∀ W',Below W.heap.size W W' → W'.cell? ⟨w.heap.size + 1,0,none⟩ = some (.int .i64 ax) := fun W' h => by
  rw [h.cell (by subst hW; simp <;> omega)]; subst hW; simp [go_sem]
 have c11 : ∀ W',Below W.heap.size W W' → W'.cell? ⟨w.heap.size + 1,1,none⟩ = some (.int .i64 ay) := fun W' h => by
  rw [h.cell (by subst hW; simp <;> omega)]; subst hW; simp [go_sem]
 have c20 : ∀ W',Below W.heap.size W W' → W'.cell? ⟨w.heap.size + 1 + 1,0,none⟩ = some (.int .i64 bx) := fun W' h => by
  rw [h.cell (by subst hW; simp <;> omega)]; subst hW; simp [go_sem]
 have c21 : ∀ W',Below W.heap.size W W' → W'.cell? ⟨w.heap.size + 1 + 1,1,none⟩ = some (.int .i64 by') := fun W' h => by
  rw [h.cell (by subst hW; simp <;> omega)]; subst hW; simp [go_sem]
 clear hW
 have HB0 : Hid (Below w.heap.size w W) := hB0
 clear hB0
 go_cut [7,8] (fun t s wc => ∃ b d : Nat,t = .pointer (some ⟨b,0,none⟩) ∧ s = .pointer (some ⟨d,0,none⟩) ∧ b ≠ d ∧ Below W.heap.size W wc ∧ W.heap.size ≤ b ∧ W.heap.size ≤ d ∧ wc.cell? ⟨b,0,none⟩ = some (.int .i64 ax) ∧ wc.cell? ⟨b,1,none⟩ = some (.int .i64 ay) ∧ wc.cell? ⟨d,0,none⟩ = some (.int .i64 bx) ∧ wc.cell? ⟨d,1,none⟩ = some (.int .i64 by') ∧ wc.frozen? ⟨b,0,none⟩ = false ∧ wc.frozen? ⟨b,1,none⟩ = false ∧ wc.frozen? ⟨d,0,none⟩ = false ∧ wc.frozen? ⟨d,1,none⟩ = false)
 case first =>
  go_region_held3 (fun W' => Below W.heap.size W W') ((repeat (first|exact Qr _ _|assumption|refine Qd ?_|refine Qa ?_ _|refine Qt ?_|refine Qs ?_ _|refine Qo ?_ ?_ _ _))) (fail)
  all_goals
   go_wp2_with fail
   go_meet
   case rel =>
    refine ⟨_,_,rfl,rfl,by first | omega | (simp; done) | (simp; omega),by assumption,by first | omega | (simp; done) | (simp; omega),by first | omega | (simp; done) | (simp; omega),?_,?_,?_,?_,?_,?_,?_,?_⟩ <;> (go_simp; done)
 case rest =>
  obtain ⟨b1,d1,rfl,rfl,hne,hB1,hb1,hd1,x1,x2,x3,x4,f1,f2,f3,f4⟩ := hcut
  have hne' : d1 ≠ b1 := fun h => hne h.symm
  go_wp2_with (go_at_call 276; refine (turnOf_any _ _ _ _ _ _ _ HA.out HB.out HP.out).mono ?_; rintro e w' ⟨rfl,hbz⟩)
  go_ret
  exact ⟨ret_bool HE.out.symm,bl_then HB0.out (by exact Qb)⟩
theorem isCrossed_up1 (px py ax ay bx by' : Int) (w : World) (hp : okP px py = true) (ha : okP ax ay = true) (hb : okP bx by' = true) (h : ay ≤ by') (h1 : ¬ ay ≤ py) :
  Calls Tryz.prog 273 #[.agg #[.int .i64 px, .int .i64 py], .agg #[.int .i64 ax, .int .i64 ay], .agg #[.int .i64 bx, .int .i64 by']] w fun e w' => e = .returned (.bool (sideB px py ax ay bx by')) ∧ Below w.heap.size w w' := by
 have HP : Hid (okP px py = true) := hp
 have HA : Hid (okP ax ay = true) := ha
 have HB : Hid (okP bx by' = true) := hb
 clear hp ha hb
 have HE : Hid (sideB px py ax ay bx by' = false) := by
  show _ = _
  rw [side_up h]
  simp [h1]
 have h' : ¬ by' < ay := by omega
 have h1' : decide (ay ≤ py) = false := by simpa using h1
 go_enter Tryz.func273,Tryz.ntmps273
 go_wp2
 generalize hW : (((w.alloc _).alloc _).alloc _ : World) = W
 have hB0 : Below w.heap.size w W := by subst hW; exact Qb
 have c00 : ∀ W',Below W.heap.size W W' → W'.cell? ⟨w.heap.size,0,none⟩ = some (.int .i64 px) := fun W' h => by
  rw [h.cell (by subst hW; simp <;> omega)]; subst hW; simp [go_sem]
 have c01 : ∀ W',Below W.heap.size W W' → W'.cell? ⟨w.heap.size,1,none⟩ = some (.int .i64 py) := fun W' h => by
  rw [h.cell (by subst hW; simp <;> omega)]; subst hW; simp [go_sem]
 have c10 : ∀ W',Below W.heap.size W W' → W'.cell? ⟨w.heap.size + 1,0,none⟩ = some (.int .i64 ax) := fun W' h => by
  rw [h.cell (by subst hW; simp <;> omega)]; subst hW; simp [go_sem]
 have c11 : ∀ W',Below W.heap.size W W' → W'.cell? ⟨w.heap.size + 1,1,none⟩ = some (.int .i64 ay) := fun W' h => by
  rw [h.cell (by subst hW; simp <;> omega)]; subst hW; simp [go_sem]
 have c20 : ∀ W',Below W.heap.size W W' → W'.cell? ⟨w.heap.size + 1 + 1,0,none⟩ = some (.int .i64 bx) := fun W' h => by
  rw [h.cell (by subst hW; simp <;> omega)]; subst hW; simp [go_sem]
 have c21 : ∀ W',Below W.heap.size W W' → W'.cell? ⟨w.heap.size + 1 + 1,1,none⟩ = some (.int .i64 by') := fun W' h => by
  rw [h.cell (by subst hW; simp <;> omega)]; subst hW; simp [go_sem]
 clear hW
 have HB0 : Hid (Below w.heap.size w W) := hB0
 clear hB0
 go_cut [7,8] (fun t s wc => ∃ b d : Nat,t = .pointer (some ⟨b,0,none⟩) ∧ s = .pointer (some ⟨d,0,none⟩) ∧ b ≠ d ∧ Below W.heap.size W wc ∧ W.heap.size ≤ b ∧ W.heap.size ≤ d ∧ wc.cell? ⟨b,0,none⟩ = some (.int .i64 ax) ∧ wc.cell? ⟨b,1,none⟩ = some (.int .i64 ay) ∧ wc.cell? ⟨d,0,none⟩ = some (.int .i64 bx) ∧ wc.cell? ⟨d,1,none⟩ = some (.int .i64 by') ∧ wc.frozen? ⟨b,0,none⟩ = false ∧ wc.frozen? ⟨b,1,none⟩ = false ∧ wc.frozen? ⟨d,0,none⟩ = false ∧ wc.frozen? ⟨d,1,none⟩ = false)
 case first =>
  go_region_held3 (fun W' => Below W.heap.size W W') ((repeat (first|exact Qr _ _|assumption|refine Qd ?_|refine Qa ?_ _|refine Qt ?_|refine Qs ?_ _|refine Qo ?_ ?_ _ _))) (fail)
  all_goals
   go_wp2_with fail
   go_meet
   case rel =>
    refine ⟨_,_,rfl,rfl,by first | omega | (simp; done) | (simp; omega),by assumption,by first | omega | (simp; done) | (simp; omega),by first | omega | (simp; done) | (simp; omega),?_,?_,?_,?_,?_,?_,?_,?_⟩ <;> (go_simp; done)
 case rest =>
  obtain ⟨b1,d1,rfl,rfl,hne,hB1,hb1,hd1,x1,x2,x3,x4,f1,f2,f3,f4⟩ := hcut
  have hne' : d1 ≠ b1 := fun h => hne h.symm
  go_wp2
  go_ret
  exact ⟨ret_bool HE.out.symm,bl_then HB0.out (by exact Qb)⟩
theorem isCrossed_up2 (px py ax ay bx by' : Int) (w : World) (hp : okP px py = true) (ha : okP ax ay = true) (hb : okP bx by' = true) (h : ay ≤ by') (h1 : ay ≤ py) (h2 : ¬ py < by') :
  Calls Tryz.prog 273 #[.agg #[.int .i64 px, .int .i64 py], .agg #[.int .i64 ax, .int .i64 ay], .agg #[.int .i64 bx, .int .i64 by']] w fun e w' => e = .returned (.bool (sideB px py ax ay bx by')) ∧ Below w.heap.size w w' := by
 have HP : Hid (okP px py = true) := hp
 have HA : Hid (okP ax ay = true) := ha
 have HB : Hid (okP bx by' = true) := hb
 clear hp ha hb
 have HE : Hid (sideB px py ax ay bx by' = false) := by
  show _ = _
  rw [side_up h]
  simp [h1,h2]
 have h' : ¬ by' < ay := by omega
 have h2' : decide (py < by') = false := by simpa using h2
 go_enter Tryz.func273,Tryz.ntmps273
 go_wp2
 generalize hW : (((w.alloc _).alloc _).alloc _ : World) = W
 have hB0 : Below w.heap.size w W := by subst hW; exact Qb
 have c00 : ∀ W',Below W.heap.size W W' → W'.cell? ⟨w.heap.size,0,none⟩ = some (.int .i64 px) := fun W' h => by
  rw [h.cell (by subst hW; simp <;> omega)]; subst hW; simp [go_sem]
 have c01 : ∀ W',Below W.heap.size W W' → W'.cell? ⟨w.heap.size,1,none⟩ = some (.int .i64 py) := fun W' h => by
  rw [h.cell (by subst hW; simp <;> omega)]; subst hW; simp [go_sem]
 have c10 : ∀ W',Below W.heap.size W W' → W'.cell? ⟨w.heap.size + 1,0,none⟩ = some (.int .i64 ax) := fun W' h => by
  rw [h.cell (by subst hW; simp <;> omega)]; subst hW; simp [go_sem]
 have c11 : ∀ W',Below W.heap.size W W' → W'.cell? ⟨w.heap.size + 1,1,none⟩ = some (.int .i64 ay) := fun W' h => by
  rw [h.cell (by subst hW; simp <;> omega)]; subst hW; simp [go_sem]
 have c20 : ∀ W',Below W.heap.size W W' → W'.cell? ⟨w.heap.size + 1 + 1,0,none⟩ = some (.int .i64 bx) := fun W' h => by
  rw [h.cell (by subst hW; simp <;> omega)]; subst hW; simp [go_sem]
 have c21 : ∀ W',Below W.heap.size W W' → W'.cell? ⟨w.heap.size + 1 + 1,1,none⟩ = some (.int .i64 by') := fun W' h => by
  rw [h.cell (by subst hW; simp <;> omega)]; subst hW; simp [go_sem]
 clear hW
 have HB0 : Hid (Below w.heap.size w W) := hB0
 clear hB0
 go_cut [7,8] (fun t s wc => ∃ b d : Nat,t = .pointer (some ⟨b,0,none⟩) ∧ s = .pointer (some ⟨d,0,none⟩) ∧ b ≠ d ∧ Below W.heap.size W wc ∧ W.heap.size ≤ b ∧ W.heap.size ≤ d ∧ wc.cell? ⟨b,0,none⟩ = some (.int .i64 ax) ∧ wc.cell? ⟨b,1,none⟩ = some (.int .i64 ay) ∧ wc.cell? ⟨d,0,none⟩ = some (.int .i64 bx) ∧ wc.cell? ⟨d,1,none⟩ = some (.int .i64 by') ∧ wc.frozen? ⟨b,0,none⟩ = false ∧ wc.frozen? ⟨b,1,none⟩ = false ∧ wc.frozen? ⟨d,0,none⟩ = false ∧ wc.frozen? ⟨d,1,none⟩ = false)
 case first =>
  go_region_held3 (fun W' => Below W.heap.size W W') ((repeat (first|exact Qr _ _|assumption|refine Qd ?_|refine Qa ?_ _|refine Qt ?_|refine Qs ?_ _|refine Qo ?_ ?_ _ _))) (fail)
  all_goals
   go_wp2_with fail
   go_meet
   case rel =>
    refine ⟨_,_,rfl,rfl,by first | omega | (simp; done) | (simp; omega),by assumption,by first | omega | (simp; done) | (simp; omega),by first | omega | (simp; done) | (simp; omega),?_,?_,?_,?_,?_,?_,?_,?_⟩ <;> (go_simp; done)
 case rest =>
  obtain ⟨b1,d1,rfl,rfl,hne,hB1,hb1,hd1,x1,x2,x3,x4,f1,f2,f3,f4⟩ := hcut
  have hne' : d1 ≠ b1 := fun h => hne h.symm
  go_wp2
  go_ret
  exact ⟨ret_bool HE.out.symm,bl_then HB0.out (by exact Qb)⟩
def pixI (z : Int) : Int := if z = 0 then 8 else if z = 1 then 16 else if z = 2 then 32 else 64
def pixV (z : Int) : Value := if zoomB z = true then .agg #[.int .i64 0, .int .i64 (pixI z)] else .agg #[.int .i64 3, .int .i64 0]
def pixB (z x y : Int) : Bool := zoomB z && (inB x 0 (pixI z - 1) && inB y 0 (pixI z - 1))
def centI (z x : Int) : Int := (2 * x + 1) * unitI z
def centV (z x y : Int) : Value := if pixB z x y = true then .agg #[.int .i64 0, .int .i64 (centI z x), .int .i64 (centI z y)] else .agg #[.int .i64 3, .int .i64 0, .int .i64 0]
theorem pixB_zoom {z x y : Int} (h : pixB z x y = true) : zoomB z = true := by
 simp [pixB] at h
 exact h.1
theorem pixB_in {z x y : Int} (h : pixB z x y = true) : (0 ≤ x ∧ x ≤ pixI z - 1) ∧ (0 ≤ y ∧ y ≤ pixI z - 1) := by
 simp [pixB,inB] at h
 exact h.2
theorem pixI_bd {z : Int} (h : zoomB z = true) : 8 ≤ pixI z ∧ pixI z ≤ 64 := by
 rcases zoomB_cases h with rfl | rfl | rfl | rfl <;> decide
theorem cent_ok {z x y : Int} (h : pixB z x y = true) : okP (centI z x) (centI z y) = true := by
 have hz := pixB_zoom h
 have hb := pixB_in h
 rw [okP_iff]
 unfold centI
 rcases zoomB_cases hz with rfl | rfl | rfl | rfl
 all_goals
  simp only [show unitI 0 = 128 from rfl,show unitI 1 = 64 from rfl,show unitI 2 = 32 from rfl,show unitI 3 = 16 from rfl,show pixI 0 = 8 from rfl,show pixI 1 = 16 from rfl,show pixI 2 = 32 from rfl,show pixI 3 = 64 from rfl] at *
  omega
theorem impl_PixelCount_any (z : Int) (w : World) : Calls Tryz.prog 142 #[.int .i64 z] w fun e w' => e = .returned (pixV z) ∧ Below w.heap.size w w' := by
 cases h : zoomB z
 ·go_enter Tryz.func142,Tryz.ntmps142
  go_wp2_with (go_at_call 102; refine (isZoom_any _ _).mono ?_; rintro e w' ⟨rfl,rfl⟩)
  exact bodyPost_ret (v := .agg #[.int .i64 3, .int .i64 0]) (by simp [results,Tryz.results142,go_sem]) rfl ⟨by simp [pixV,h],by (repeat (first|exact Qr _ _|assumption|refine Qd ?_|refine Qa ?_ _|refine Qt ?_|refine Qs ?_ _|refine Qo ?_ ?_ _ _))⟩
 ·rcases zoomB_cases h with rfl | rfl | rfl | rfl
  all_goals
   go_enter Tryz.func142,Tryz.ntmps142
   go_wp2_with (go_at_call 102; refine (isZoom_any _ _).mono ?_; rintro e w' ⟨rfl,rfl⟩)
   first
    | exact bodyPost_ret (v := .agg #[.int .i64 0, .int .i64 8]) (by simp [results,Tryz.results142,go_sem]; done) rfl ⟨rfl,by (repeat (first|exact Qr _ _|assumption|refine Qd ?_|refine Qa ?_ _|refine Qt ?_|refine Qs ?_ _|refine Qo ?_ ?_ _ _))⟩
    | exact bodyPost_ret (v := .agg #[.int .i64 0, .int .i64 16]) (by simp [results,Tryz.results142,go_sem]; done) rfl ⟨rfl,by (repeat (first|exact Qr _ _|assumption|refine Qd ?_|refine Qa ?_ _|refine Qt ?_|refine Qs ?_ _|refine Qo ?_ ?_ _ _))⟩
    | exact bodyPost_ret (v := .agg #[.int .i64 0, .int .i64 32]) (by simp [results,Tryz.results142,go_sem]; done) rfl ⟨rfl,by (repeat (first|exact Qr _ _|assumption|refine Qd ?_|refine Qa ?_ _|refine Qt ?_|refine Qs ?_ _|refine Qo ?_ ?_ _ _))⟩
    | exact bodyPost_ret (v := .agg #[.int .i64 0, .int .i64 64]) (by simp [results,Tryz.results142,go_sem]; done) rfl ⟨rfl,by (repeat (first|exact Qr _ _|assumption|refine Qd ?_|refine Qa ?_ _|refine Qt ?_|refine Qs ?_ _|refine Qo ?_ ?_ _ _))⟩
theorem l4Count_any (z : Int) (w : World) (h : zoomB z = true) : Calls Tryz.prog 87 #[.int .i64 z] w fun e w' => e = .returned (.int .i64 (pixI z)) ∧ w = w' := by
 rcases zoomB_cases h with rfl | rfl | rfl | rfl
 all_goals
  go_enter Tryz.func87,Tryz.ntmps87
  go_wp2
  go_ret
  exact ⟨rfl,rfl⟩
theorem isPixel_any (z x y : Int) (w : World) : Calls Tryz.prog 116 #[.int .i64 z, .int .i64 x, .int .i64 y] w fun e w' => e = .returned (.bool (pixB z x y)) ∧ Below w.heap.size w w' := by
 have s1 := fun w => impl_PixelCount_any z w
 cases h : zoomB z
 ·have hv : pixV z = .agg #[.int .i64 3, .int .i64 0] := by simp [pixV,h]
  simp only [hv] at s1
  have i1 : ∀ w,(Instr.field 181 (.agg #[.int .i64 3, .int .i64 0]) 1).run Tryz.prog w = .ok (.int .i64 0) w := fun _ => by kernel_rfl
  have hx : inB x 0 (-1) = false := by simp [inB]; omega
  have hp : Hid (pixB z x y = false) := by show _ = _; simp [pixB,h]
  go_enter Tryz.func116,Tryz.ntmps116
  go_wp2_with (first
   | (go_at_call 142; refine (s1 _).mono ?_; rintro e w1 ⟨rfl,hb1⟩)
   | (go_at_call 36; refine (isWithin_any _ _ _ _).mono ?_; rintro e w' ⟨rfl,rfl⟩))
  all_goals (go_ret; exact ⟨ret_bool (by rw [hp.out]),by (repeat (first|exact Qr _ _|assumption|refine Qd ?_|refine Qa ?_ _|refine Qt ?_|refine Qs ?_ _|refine Qo ?_ ?_ _ _))⟩)
 ·have hv : pixV z = .agg #[.int .i64 0, .int .i64 (pixI z)] := by simp [pixV,h]
  simp only [hv] at s1
  have hp : Hid (pixB z x y = (inB x 0 (pixI z - 1) && inB y 0 (pixI z - 1))) := by show _ = _; simp [pixB,h]
  obtain ⟨b1,b2⟩ := pixI_bd h
  generalize pixI z = u at *
  have i1 : ∀ w,(Instr.field 181 (.agg #[.int .i64 0, .int .i64 u]) 1).run Tryz.prog w = .ok (.int .i64 u) w := fun _ => by kernel_rfl
  cases hx : inB x 0 (u - 1) <;> cases hy : inB y 0 (u - 1)
  all_goals
   go_enter Tryz.func116,Tryz.ntmps116
   go_wp2_with (first
    | (go_at_call 142; refine (s1 _).mono ?_; rintro e w1 ⟨rfl,hb1⟩)
    | (go_at_call 36; refine (isWithin_any _ _ _ _).mono ?_; rintro e w' ⟨rfl,rfl⟩))
   all_goals (go_ret; exact ⟨ret_bool (by rw [hp.out,hx,hy]; rfl),by (repeat (first|exact Qr _ _|assumption|refine Qd ?_|refine Qa ?_ _|refine Qt ?_|refine Qs ?_ _|refine Qo ?_ ?_ _ _))⟩)
theorem l4Centre_any (z x y : Int) (w : World) (h : pixB z x y = true) : Calls Tryz.prog 201 #[.int .i64 z, .int .i64 x, .int .i64 y] w fun e w' => e = .returned (.agg #[.int .i64 (centI z x), .int .i64 (centI z y)]) ∧ Below w.heap.size w w' := by
 have hz := pixB_zoom h
 have hb := pixB_in h
 have s1 := fun w => l3Unit_any z w hz
 clear h
 unfold centI
 rcases zoomB_cases hz with rfl | rfl | rfl | rfl
 all_goals
  simp only [show unitI 0 = 128 from rfl,show unitI 1 = 64 from rfl,show unitI 2 = 32 from rfl,show unitI 3 = 16 from rfl,show pixI 0 = 8 from rfl,show pixI 1 = 16 from rfl,show pixI 2 = 32 from rfl,show pixI 3 = 64 from rfl] at *
  obtain ⟨⟨x0,x1⟩,y0,y1⟩ := hb
  go_enter Tryz.func201,Tryz.ntmps201
  go_wp2_with (go_at_call 229; refine (s1 _).mono ?_; rintro e w1 ⟨rfl,rfl⟩)
  exact bodyPost_ret (v := .agg #[.int .i64 _, .int .i64 _]) (by simp [results,Tryz.results201,go_sem]) rfl ⟨rfl,by (repeat (first|exact Qr _ _|assumption|refine Qd ?_|refine Qa ?_ _|refine Qt ?_|refine Qs ?_ _|refine Qo ?_ ?_ _ _))⟩
theorem isSize_any (s : Int) (w : World) : Calls Tryz.prog 120 #[.int .i64 s] w fun e w' => e = .returned (.bool (inB s 1 10)) ∧ w' = w := by
 go_enter Tryz.func120,Tryz.ntmps120
 go_wp2_with (go_at_call 36; refine (isWithin_any _ _ _ _).mono ?_; rintro e w' ⟨rfl,rfl⟩)
 go_ret
 exact ⟨rfl,rfl⟩
def timC (now : Int) : Int := if inB now 0 9000 = true then 0 else 3
theorem timC_in {now : Int} (h : timC now = 0) : 0 ≤ now ∧ now ≤ 9000 := by
 unfold timC at h
 cases hb : inB now 0 9000
 ·simp [hb] at h
 ·simpa [inB] using hb
theorem timeFault_any (now : Int) (w : World) : Calls Tryz.prog 77 #[.int .i64 now] w fun e w' => e = .returned (.int .i64 (timC now)) ∧ Below w.heap.size w w' := by
 cases h : inB now 0 9000
 all_goals
  have hk : Hid (timC now = if inB now 0 9000 = true then 0 else 3) := rfl
  rw [h] at hk
  go_enter Tryz.func77,Tryz.ntmps77
  go_wp2_with (go_at_call 36; refine (isWithin_any _ _ _ _).mono ?_; rintro e w' ⟨rfl,rfl⟩)
  go_ret
  exact ⟨ret_int (by rw [hk.out]; rfl),by (repeat (first|exact Qr _ _|assumption|refine Qd ?_|refine Qa ?_ _|refine Qt ?_|refine Qs ?_ _|refine Qo ?_ ?_ _ _))⟩
end Go.Proofs.YtiephlohemphjaaGreat
