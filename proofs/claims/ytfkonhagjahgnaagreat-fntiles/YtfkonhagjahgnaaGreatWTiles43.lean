/- Texts. -/
import Derived.Test.YtfkonhagjahgnaaGreatWTiles41
import Derived.Test.YtfkonhagjahgnaaGreatWTiles3
import Derived.Deep.RegionHeld3
set_option linter.unusedSimpArgs false
set_option linter.unusedVariables false
set_option maxRecDepth 100000
set_option maxHeartbeats 32000000
namespace Go.Proofs.YtfkonhagjahgnaaGreat
open Go.RowKit
abbrev sheetV (z x y : Int) (v : Value) : Value := .agg #[.int .i64 z, .int .i64 x, .int .i64 y,v]
def rchB (C wi z x y : Int) (D : List (Int × Int)) : Bool := meetB (rb1 C wi z D) (rb2 C wi z D) (rb3 C wi z D) (rb4 C wi z D) (centI z (x * 8)) (centI z (y * 8)) (centI z (x * 8 + 7)) (centI z (y * 8 + 7))
theorem isReachedBy_any {off : Nat} (x y : Int) (s : Value) (sa : Option Addr) (sn sc : Nat) (hs : s = .slice sa sn sc) (id la ki wi z : Int) (b n cap : Nat) (X Y : Nat → Int) (lab : ByteArray) (pr : Int) (L : List Nat) (w : World) (hp : PtsAt w b off n X Y) (hbl : b < w.heap.size) (hn : n ≤ 1048576) (hcap : n ≤ cap) (hl : lab.size ≤ 1048576)
  (hL : 3 ≤ (snapL X Y z n).length → Thin (px (snapL X Y z n)) (py (snapL X Y z n)) (gridI z) 0 ((snapL X Y z n).length - 1) L) (C : Int) (hC : C = simpC z (featC id la ki wi n X Y lab pr)) (hr : refB z x y = true) :
  Calls Tryz.prog 19 #[sheetV z x y s, .agg #[.int .i64 id, .int .i64 la, .int .i64 ki, .int .i64 wi, .slice (some ⟨b,off,none⟩) n cap, .string lab, .int .i64 pr]] w fun e w' => e = .returned (.bool (rchB C wi z x y (dblR (simpR C ki z n X Y L)))) ∧ Below w.heap.size w w' := by
 subst hs
 have HRB : Hid (∀ W',Below w.heap.size w W' → Calls Tryz.prog 48 #[.agg #[.int .i64 id, .int .i64 la, .int .i64 ki, .int .i64 wi, .slice (some ⟨b,off,none⟩) n cap, .string lab, .int .i64 pr], .int .i64 z] W' fun e w' => e = .returned (rbV C wi z (dblR (simpR C ki z n X Y L))) ∧ Below W'.heap.size W' w') := fun W' h =>
  impl_ReachBox_any id la ki wi z b n cap X Y lab pr L W' (hp.below h hbl) (Nat.lt_of_lt_of_le hbl h.size) hn hcap hl hL C hC
 have HCT : Hid (∀ W',Calls Tryz.prog 49 #[refV z x y] W' fun e w' => e = .returned (ctrV z x y) ∧ Below W'.heap.size W' w') := fun W' => centres_any z x y W' hr
 clear hp hL hC hr
 generalize dblR (simpR C ki z n X Y L) = D at *
 unfold rchB
 unfold rbV at HRB
 generalize rb1 C wi z D = r1 at *
 generalize rb2 C wi z D = r2 at *
 generalize rb3 C wi z D = r3 at *
 generalize rb4 C wi z D = r4 at *
 unfold ctrV at HCT
 generalize centI z (x * 8) = a1 at *
 generalize centI z (y * 8) = a2 at *
 generalize centI z (x * 8 + 7) = a3 at *
 generalize centI z (y * 8 + 7) = a4 at *
 have fld : ∀ w,(Instr.field 95 (.agg #[.int .i64 C, .int .i64 r1, .int .i64 r2, .int .i64 r3, .int .i64 r4]) 1).run Tryz.prog w = .ok (.agg #[.int .i64 r1, .int .i64 r2, .int .i64 r3, .int .i64 r4]) w := fun _ => by kernel_rfl
 go_enter Tryz.func19,Tryz.ntmps19
 go_wp2_with fail
 generalize hW : ((w.alloc _).alloc _ : World) = W
 have HB0 : Hid (Below w.heap.size w W) := by show Below _ _ _; subst hW; (repeat (first|exact Qr _ _|assumption|refine Qd ?_|refine Qa ?_ _|refine Qt ?_|refine Qs ?_ _|refine Qo ?_ ?_ _ _))
 have c0 : ∀ W',Below W.heap.size W W' → W'.cell? ⟨w.heap.size,0,none⟩ = some (.int .i64 z) := fun W' h => by rw [h.cell (by subst hW; simp <;> omega)]; subst hW; simp [go_sem]
 have c1 : ∀ W',Below W.heap.size W W' → W'.cell? ⟨w.heap.size,1,none⟩ = some (.int .i64 x) := fun W' h => by rw [h.cell (by subst hW; simp <;> omega)]; subst hW; simp [go_sem]
 have c2 : ∀ W',Below W.heap.size W W' → W'.cell? ⟨w.heap.size,2,none⟩ = some (.int .i64 y) := fun W' h => by rw [h.cell (by subst hW; simp <;> omega)]; subst hW; simp [go_sem]
 have d0 : ∀ W',Below W.heap.size W W' → W'.cell? ⟨w.heap.size + 1,0,none⟩ = some (.int .i64 id) := fun W' h => by rw [h.cell (by subst hW; simp <;> omega)]; subst hW; simp [go_sem]
 have d1 : ∀ W',Below W.heap.size W W' → W'.cell? ⟨w.heap.size + 1,1,none⟩ = some (.int .i64 la) := fun W' h => by rw [h.cell (by subst hW; simp <;> omega)]; subst hW; simp [go_sem]
 have d2 : ∀ W',Below W.heap.size W W' → W'.cell? ⟨w.heap.size + 1,2,none⟩ = some (.int .i64 ki) := fun W' h => by rw [h.cell (by subst hW; simp <;> omega)]; subst hW; simp [go_sem]
 have d3 : ∀ W',Below W.heap.size W W' → W'.cell? ⟨w.heap.size + 1,3,none⟩ = some (.int .i64 wi) := fun W' h => by rw [h.cell (by subst hW; simp <;> omega)]; subst hW; simp [go_sem]
 have d4 : ∀ W',Below W.heap.size W W' → W'.cell? ⟨w.heap.size + 1,4,none⟩ = some (.slice (some ⟨b,off,none⟩) n cap) := fun W' h => by rw [h.cell (by subst hW; simp <;> omega)]; subst hW; simp [go_sem]
 have d5 : ∀ W',Below W.heap.size W W' → W'.cell? ⟨w.heap.size + 1,5,none⟩ = some (.string lab) := fun W' h => by rw [h.cell (by subst hW; simp <;> omega)]; subst hW; simp [go_sem]
 have d6 : ∀ W',Below W.heap.size W W' → W'.cell? ⟨w.heap.size + 1,6,none⟩ = some (.int .i64 pr) := fun W' h => by rw [h.cell (by subst hW; simp <;> omega)]; subst hW; simp [go_sem]
 clear hW
 go_wp2_with fail
 go_region_held3 (fun W' => Below W.heap.size W W') ((repeat (first|exact Qr _ _|assumption|refine Qd ?_|refine Qa ?_ _|refine Qt ?_|refine Qs ?_ _|refine Qo ?_ ?_ _ _)))
  (first
   | (go_at_call 48; refine Calls.mono (HRB.out _ (bl_then HB0.out (by assumption))) ?_; rintro e w1 ⟨rfl,hb1⟩)
   | (go_at_call 49; refine Calls.mono (HCT.out _) ?_; rintro e w2 ⟨rfl,hb2⟩)
   | (go_at_call 47; refine (implDoMeet_any _ _ _ _ _ _ _ _ _).mono ?_; rintro e w3 ⟨rfl,hb3⟩))
 go_wp2
 go_ret
 exact ⟨rfl,bl_then HB0.out (by assumption)⟩
end Go.Proofs.YtfkonhagjahgnaaGreat
