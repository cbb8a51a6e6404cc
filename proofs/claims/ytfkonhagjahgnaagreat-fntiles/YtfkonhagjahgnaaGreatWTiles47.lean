/- Texts. -/
import Derived.Test.YtfkonhagjahgnaaGreatWTiles46
set_option linter.unusedSimpArgs false
set_option linter.unusedVariables false
set_option maxRecDepth 100000
set_option maxHeartbeats 32000000
namespace Go.Proofs.YtfkonhagjahgnaaGreat
open Go.RowKit
noncomputable def btC (z x y : Int) (n : Nat) (G : Nat → Feat) : Int := if refB z x y = true then featsC n G else 3
theorem impl_BuildTile_ref (z x y : Int) (v : Value) (va : Option Addr) (vn vc : Nat) (hv : v = .slice va vn vc) (w : World) (hr : refB z x y = false) :
  Calls Tryz.prog 6 #[v,refV z x y] w fun e w' => e = .returned (.agg #[.int .i64 3, .int .i64 0, .int .i64 0, .int .i64 0, .slice none 0 0]) ∧ Below w.heap.size w w' := by
 subst hv
 have HRF : Hid (∀ W',Calls Tryz.prog 17 #[.agg #[.int .i64 z, .int .i64 x, .int .i64 y]] W' fun e w' => e = .returned (.int .i64 3) ∧ Below W'.heap.size W' w') := fun W' => by
  have h := refFault_any z x y W'
  have h0 : refC z x y = 3 := by
   rcases refC_cases z x y with ⟨_,h⟩ | ⟨h,_⟩
   ·rw [hr] at h; cases h
   ·exact h
  rw [h0] at h
  exact h
 clear hr
 go_enter Tryz.func6,Tryz.ntmps6
 go_wp2_with fail
 generalize hW : (((w.alloc _).alloc _).alloc _ : World) = W
 have HB0 : Hid (Below w.heap.size w W) := by show Below _ _ _; subst hW; (repeat (first|exact Qr _ _|assumption|refine Qd ?_|refine Qa ?_ _|refine Qt ?_|refine Qs ?_ _|refine Qo ?_ ?_ _ _))
 have hlW : W.heap.size = w.heap.size + 3 := by subst hW; simp
 have HT : Hid (There W (w.heap.size + 1) 5) := by
  show There _ _ _
  subst hW
  have := (there5b (w.alloc (.cells #[.int .i64 z, .int .i64 x, .int .i64 y] 26)) (.int .i64 0) (.int .i64 0) (.int .i64 0) (.int .i64 0) (.slice none 0 0) 32).below (bl_alloc (Below.refl _ _) (.cells #[.int .i64 z, .int .i64 x, .int .i64 y, .slice none 0 0] 51))
  simpa using this
 have HTP : Hid (There W (w.heap.size + 1 + 1) 4) := by
  show There _ _ _
  subst hW
  have := there4 ((w.alloc (.cells #[.int .i64 z, .int .i64 x, .int .i64 y] 26)).alloc (.cells #[.int .i64 0, .int .i64 0, .int .i64 0, .int .i64 0, .slice none 0 0] 32)) (.int .i64 z) (.int .i64 x) (.int .i64 y) (.slice none 0 0) 51
  simpa using this
 have HSh : Hid (ShAt W (w.heap.size + 1 + 1) z x y (.slice none 0 0)) := by
  show ShAt _ _ _ _ _ _
  subst hW
  refine ⟨?_,?_,?_,?_⟩ <;> simp [go_sem]
 clear hW
 have s0 := HSh.out.1
 refine Calls.mono (HRF.out _) ?_
 rintro e w1 ⟨rfl,hb1⟩
 have hT1 := HT.out.below hb1
 have HT1 : Hid (There w1 (w.heap.size + 1) 5) := hT1
 have HB1 : Hid (Below w.heap.size w w1) := bl_then HB0.out hb1
 have t0 := hT1.cell 0 (by omega)
 have t1 := hT1.cell 1 (by omega)
 have t2 := hT1.cell 2 (by omega)
 have t3 := hT1.cell 3 (by omega)
 have t4 := hT1.cell 4 (by omega)
 have f0 := (hT1 0 (by omega)).2
 have f1 := (hT1 1 (by omega)).2
 have f2 := (hT1 2 (by omega)).2
 have f3 := (hT1 3 (by omega)).2
 have f4 := (hT1 4 (by omega)).2
 clear hb1 s0 hT1
 go_wp2_with fail
 obtain ⟨q0,q1,q2,q3,q4⟩ := set5_at (a := .int .i64 3) (b := .int .i64 0) (c := .int .i64 0) (d := .int .i64 0) (e := .slice none 0 0) HT1.out
 have hle : w.heap.size ≤ w.heap.size + 1 := Nat.le_succ _
 exact bodyPost_ret (v := .agg #[.int .i64 3, .int .i64 0, .int .i64 0, .int .i64 0, .slice none 0 0]) (by simp [results,Tryz.results6,go_sem,q0,q1,q2,q3,q4]) rfl ⟨rfl,((((HB1.out.setCell hle _).setCell hle _).setCell hle _).setCell hle _).setCell hle _⟩
theorem impl_BuildTile_fts (z x y : Int) (b n cap : Nat) (G : Nat → Feat) (w : World) (hg : FsAt w b 0 n G) (hbl : b < w.heap.size) (hs : SmallFs n G) (hcap : n ≤ cap) (hf : featsC n G ≠ 0) (hr : refB z x y = true) :
  Calls Tryz.prog 6 #[.slice (some ⟨b,0,none⟩) n cap,refV z x y] w fun e w' => e = .returned (.agg #[.int .i64 (featsC n G), .int .i64 0, .int .i64 0, .int .i64 0, .slice none 0 0]) ∧ Below w.heap.size w w' := by
 have hm : srtM n G = 0 := if_neg hf
 have HSO : Hid (∀ W,Below w.heap.size w W → Calls Tryz.prog 18 #[.slice (some ⟨b,0,none⟩) n cap] W fun e w' => ∃ a c,e = .returned (.agg #[.int .i64 (featsC n G), .slice a 0 c]) ∧ Below W.heap.size W w') := fun W hW => (impl_SortFeatures_cap b n cap G W (hg.below hW hbl) (Nat.lt_of_lt_of_le hbl hW.size) hs hcap).mono fun e w' ⟨a,c,T,h1,h2,h3,h4⟩ => ⟨a,c,by rw [h1,hm],h4⟩
 have HRF : Hid (∀ W',Calls Tryz.prog 17 #[.agg #[.int .i64 z, .int .i64 x, .int .i64 y]] W' fun e w' => e = .returned (.int .i64 0) ∧ Below W'.heap.size W' w') := fun W' => by
  have h := refFault_any z x y W'
  have h0 : refC z x y = 0 := by
   rcases refC_cases z x y with ⟨h,_⟩ | ⟨_,h⟩
   ·exact h
   ·rw [hr] at h; cases h
  rw [h0] at h
  exact h
 have hcb : (featsC n G == 0) = false := by simpa using hf
 generalize featsC n G = fc at *
 clear hg hs hr hm
 go_enter Tryz.func6,Tryz.ntmps6
 go_wp2_with fail
 generalize hW : (((w.alloc _).alloc _).alloc _ : World) = W
 have HB0 : Hid (Below w.heap.size w W) := by show Below _ _ _; subst hW; (repeat (first|exact Qr _ _|assumption|refine Qd ?_|refine Qa ?_ _|refine Qt ?_|refine Qs ?_ _|refine Qo ?_ ?_ _ _))
 have hlW : W.heap.size = w.heap.size + 3 := by subst hW; simp
 have HT : Hid (There W (w.heap.size + 1) 5) := by
  show There _ _ _
  subst hW
  have := (there5b (w.alloc (.cells #[.int .i64 z, .int .i64 x, .int .i64 y] 26)) (.int .i64 0) (.int .i64 0) (.int .i64 0) (.int .i64 0) (.slice none 0 0) 32).below (bl_alloc (Below.refl _ _) (.cells #[.int .i64 z, .int .i64 x, .int .i64 y, .slice none 0 0] 51))
  simpa using this
 have HTP : Hid (There W (w.heap.size + 1 + 1) 4) := by
  show There _ _ _
  subst hW
  have := there4 ((w.alloc (.cells #[.int .i64 z, .int .i64 x, .int .i64 y] 26)).alloc (.cells #[.int .i64 0, .int .i64 0, .int .i64 0, .int .i64 0, .slice none 0 0] 32)) (.int .i64 z) (.int .i64 x) (.int .i64 y) (.slice none 0 0) 51
  simpa using this
 have HSh : Hid (ShAt W (w.heap.size + 1 + 1) z x y (.slice none 0 0)) := by
  show ShAt _ _ _ _ _ _
  subst hW
  refine ⟨?_,?_,?_,?_⟩ <;> simp [go_sem]
 clear hW
 have s0 := HSh.out.1
 refine Calls.mono (HRF.out _) ?_
 rintro e w1 ⟨rfl,hb1⟩
 have HB1 : Hid (Below w.heap.size w w1) := bl_then HB0.out hb1
 have HT1 : Hid (There w1 (w.heap.size + 1) 5) := HT.out.below hb1
 clear hb1 s0
 go_wp2_with fail
 refine Calls.mono (HSO.out _ HB1.out) ?_
 rintro e w2 ⟨a,c,rfl,hb2⟩
 have hT2 := HT1.out.below (bl_alloc hb2 (.cells #[.int .i64 fc, .slice a 0 c] 54))
 have HT2 : Hid (There (w2.alloc (.cells #[.int .i64 fc, .slice a 0 c] 54)) (w.heap.size + 1) 5) := hT2
 have HB2 : Hid (Below w.heap.size w (w2.alloc (.cells #[.int .i64 fc, .slice a 0 c] 54))) := bl_alloc (bl_then HB1.out hb2) _
 have t0 := hT2.cell 0 (by omega)
 have t1 := hT2.cell 1 (by omega)
 have t2 := hT2.cell 2 (by omega)
 have t3 := hT2.cell 3 (by omega)
 have t4 := hT2.cell 4 (by omega)
 have f0 := (hT2 0 (by omega)).2
 have f1 := (hT2 1 (by omega)).2
 have f2 := (hT2 2 (by omega)).2
 have f3 := (hT2 3 (by omega)).2
 have f4 := (hT2 4 (by omega)).2
 clear hb2 hT2
 go_wp2_with fail
 obtain ⟨q0,q1,q2,q3,q4⟩ := set5_at (a := .int .i64 fc) (b := .int .i64 0) (c := .int .i64 0) (d := .int .i64 0) (e := .slice none 0 0) HT2.out
 have hle : w.heap.size ≤ w.heap.size + 1 := Nat.le_succ _
 exact bodyPost_ret (v := .agg #[.int .i64 fc, .int .i64 0, .int .i64 0, .int .i64 0, .slice none 0 0]) (by simp [results,Tryz.results6,go_sem,q0,q1,q2,q3,q4]) rfl ⟨rfl,((((HB2.out.setCell hle _).setCell hle _).setCell hle _).setCell hle _).setCell hle _⟩
end Go.Proofs.YtfkonhagjahgnaaGreat
