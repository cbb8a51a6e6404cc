/- Texts. -/
import Derived.Test.YtfkonhagjahgnaaGreatWTiles51
import Derived.Test.YtfkonhagjahgnaaGreatWTiles37
import Derived.Test.YtfkonhagjahgnaaGreatWTiles50
import Derived.Test.YtfkonhagjahgnaaGreatWTiles15
import Derived.Test.YtfkonhagjahgnaaGreatWTiles34
import Derived.Test.YtfkonhagjahgnaaGreatWTiles9
import Derived.Test.YtfkonhagjahgnaaGreatWTiles40
import Derived.Deep.RegionHeld3
import Derived.Deep.DeepCutAuto
import Derived.BigQuiet
set_option linter.unusedSimpArgs false
set_option linter.unusedVariables false
set_option maxRecDepth 100000
set_option maxHeartbeats 32000000
namespace Go.Proofs.YtfkonhagjahgnaaGreat
open Go.RowKit
def hasB (I : Nat → Int) (v : Int) : Nat → Bool
 | 0 => false
 | j + 1 => hasB I v j || decide (I j = v)
theorem hasB_congr {I I' : Nat → Int} {v : Int} : ∀ {n : Nat},(∀ j,j < n → I j = I' j) → hasB I v n = hasB I' v n
 | 0,_ => rfl
 | n + 1,h => by unfold hasB; rw [hasB_congr fun j hj => h j (by omega),h n (by omega)]
theorem hasB_of {I : Nat → Int} {v : Int} : ∀ {n i : Nat},i < n → I i = v → hasB I v n = true
 | n + 1,i,hi,h => by
  unfold hasB
  by_cases e : i = n
  ·subst e; simp [h]
  ·rw [hasB_of (by omega) h]; rfl
theorem SrcB.topT {lo base n : Nat} {w : World} {a : Option Addr} {T : Nat → Feat} (h : SrcB lo base w a n T) (hB : base ≤ w.heap.size) : SrcB lo w.heap.size w a n T := by
 rcases h with h | ⟨g,ea,⟨g1,g2⟩,h⟩
 ·exact .inl h
 ·refine .inr ⟨g,ea,⟨g1,by omega⟩,fun i hi => ?_⟩
  obtain ⟨hF,q,o,eq,⟨q1,q2⟩,hp⟩ := h i hi
  exact ⟨hF,q,o,eq,⟨q1,by omega⟩,hp⟩
theorem SrcB.isT {lo base : Nat} {w : World} {a : Option Addr} {n : Nat} {T : Nat → Feat} (h : SrcB lo base w a n T) (hB : base ≤ w.heap.size) : IsFs w a n T := by
 rcases h with h | ⟨g,ea,⟨g1,g2⟩,h⟩
 ·exact .inl h
 ·refine .inr ⟨g,0,ea,by omega,fun i hi => ?_⟩
  obtain ⟨hF,q,o,eq,⟨_,q2⟩,hp⟩ := h i hi
  rw [Nat.zero_add]
  exact ⟨hF, .inr ⟨q,o,eq,by omega,hp⟩⟩
theorem not_cov {z x y : Int} {n : Nat} {G : Nat → Feat} (hc : btC z x y n G = 0) (k : Nat) (hk : k < n) (hno : hasB (fun j => (btG z x y n G j).id) (G k).id (btM z x y n G) = false) (a b : Int) (ha : 0 ≤ a ∧ a ≤ 7) (hb : 0 ≤ b ∧ b ≤ 7) : covT z (centI z (x * 8 + a)) (centI z (y * 8 + b)) (G k) = false := by
 cases h : covT z (centI z (x * 8 + a)) (centI z (y * 8 + b)) (G k)
 ·rfl
 ·obtain ⟨hr,hf⟩ := btC_zero hc
  have hz : zoomB z = true := by simp [refB] at hr; exact hr.1
  obtain ⟨i,hi,e⟩ := chs_has k hk (cov_reach ((featsC_ok hf).2.2 k hk) hz a b ha hb h)
  have hM : btM z x y n G = (chs z x y n G).length := by unfold btM; rw [if_pos hc]
  rw [hM,hasB_of (i := i) hi (by show (G ((chs z x y n G).getD i 0)).id = _; rw [e])] at hno
  cases hno
theorem resDB (T : Array Value) (Wf : World) (r : Nat) (v : Value) (v0 v1 v2 : Value) (hv : T[2]?.getD undef = v) (hT : T[3]?.getD undef = .pointer (some ⟨r,0,none⟩)) (h0 : Wf.cell? ⟨r,0,none⟩ = some v0) (h1 : Wf.cell? ⟨r,1,none⟩ = some v1) (h2 : Wf.cell? ⟨r,2,none⟩ = some v2) :
  (results Tryz.f5 T).run Tryz.prog Wf = .ok (.tuple #[v, .agg #[v0,v1,v2]]) Wf := by
 simp [results,Tryz.results5,go_sem,hv,hT,h0,h1,h2]
theorem there3b (V : World) (a b c : Value) (t : TypeId) : There (V.alloc (.cells #[a,b,c] t)) V.heap.size 3 := fun o ho => by
 have : o = 0 ∨ o = 1 ∨ o = 2 := by omega
 rcases this with rfl | rfl | rfl <;> exact ⟨⟨_,by simp [go_sem]; rfl⟩,by simp [go_sem]⟩
theorem set3_at3 {W : World} {r : Nat} {a b c : Value} (hT : There W r 3) :
  (((W.setCell ⟨r,0,none⟩ a).setCell ⟨r,1,none⟩ b).setCell ⟨r,2,none⟩ c).cell? ⟨r,0,none⟩ = some a ∧ (((W.setCell ⟨r,0,none⟩ a).setCell ⟨r,1,none⟩ b).setCell ⟨r,2,none⟩ c).cell? ⟨r,1,none⟩ = some b ∧ (((W.setCell ⟨r,0,none⟩ a).setCell ⟨r,1,none⟩ b).setCell ⟨r,2,none⟩ c).cell? ⟨r,2,none⟩ = some c := by
 have ne : ∀ i j : Nat,i ≠ j → (⟨r,i,none⟩ : Addr) ≠ ⟨r,j,none⟩ := fun i j hij h => hij (by injection h)
 obtain ⟨u0,h0⟩ := (hT 0 (by omega)).1
 obtain ⟨u1,h1⟩ := (hT 1 (by omega)).1
 obtain ⟨u2,h2⟩ := (hT 2 (by omega)).1
 refine ⟨?_,?_,?_⟩
 ·rw [set1_other (ne 2 0 (by omega)),set1_other (ne 1 0 (by omega))]; exact set1_same h0
 ·rw [set1_other (ne 2 1 (by omega))]; exact set1_same (by rw [set1_other (ne 0 1 (by omega))]; exact h1)
 ·exact set1_same (by rw [set1_other (ne 1 2 (by omega)),set1_other (ne 0 2 (by omega))]; exact h2)
theorem DrawnL.set1 {w : World} {g m c r o : Nat} {G : Nat → Feat} {v : Value} (h : DrawnL w g m c G) (hr : g ≠ r ∧ ∀ i,i < m → ∀ q o,(G i).a = some ⟨q,o,none⟩ → q ≠ r) : DrawnL (w.setCell ⟨r,o,none⟩ v) g m c G := by
 obtain ⟨h1,h2,h3,h4,h5⟩ := h
 have sc : ∀ (b k : Nat) (u : Value),b ≠ r → w.cell? ⟨b,k,none⟩ = some u → (w.setCell ⟨r,o,none⟩ v).cell? ⟨b,k,none⟩ = some u := fun b k u hb hu => by
  rw [set1_other (fun e => hb (by injection e with e; exact e.symm))]; exact hu
 refine ⟨h1,h2,by simpa using h3,fun i hi => ?_,h5⟩
 obtain ⟨⟨c0,c1,c2,c3,c4,c5,c6⟩,hp⟩ := h4 i hi
 refine ⟨⟨sc _ _ _ hr.1 c0,sc _ _ _ hr.1 c1,sc _ _ _ hr.1 c2,sc _ _ _ hr.1 c3,sc _ _ _ hr.1 c4,sc _ _ _ hr.1 c5,sc _ _ _ hr.1 c6⟩,?_⟩
 rcases hp with h0 | ⟨q,o',ea,hl,hpt⟩
 ·exact .inl h0
 ·have hq := hr.2 i hi q o' ea
  exact .inr ⟨q,o',ea,by simpa using hl,fun j hj => ⟨sc _ _ _ hq (hpt j hj).1,sc _ _ _ hq (hpt j hj).2⟩⟩
theorem DrawBuildTile_any (a : Option Addr) (n cap : Nat) (Z : Nat → Int) (w : World) (h : IsBytes w a n Z) (hrng : ∀ i,0 ≤ Z i ∧ Z i ≤ 255) (hn : n ≤ 1048576) (hcap : n ≤ cap) :
  Calls Tryz.prog 5 #[.slice a n cap] w fun e w' => ∃ (g m c : Nat) (G : Nat → Feat) (z x y : Int),e = .returned (.tuple #[.slice (some ⟨g,0,none⟩) m c,refV z x y]) ∧ DrawnL w' g m c G ∧ (∀ i,i < m → (G i).n ≤ (G i).cap) ∧ Below w.heap.size w w' := by
 have HI : Hid (IsBytes w a n Z) := h
 have HR : Hid (∀ i,0 ≤ Z i ∧ Z i ≤ 255) := hrng
 clear h hrng
 go_enter Tryz.func5,Tryz.ntmps5
 go_wp2_with fail
 generalize hW : (w.alloc _ : World) = W
 have hB0 : Below w.heap.size w W := by subst hW; (repeat (first|exact Qr _ _|assumption|refine Qd ?_|refine Qa ?_ _|refine Qt ?_|refine Qs ?_ _|refine Qo ?_ ?_ _ _))
 have hlt : w.heap.size < W.heap.size := by subst hW; simp
 have HT : Hid (There W w.heap.size 3) := by
  show There _ _ _
  subst hW
  exact there3b w _ _ _ _
 clear hW
 have HB0 : Hid (Below w.heap.size w W) := hB0
 have HI1 : Hid (IsBytes W a n Z) := HI.out.below hB0
 clear hB0 HI
 refine (l1Source_ex _ _ _ _).mono ?_
 rintro e w1 ⟨rfl,hw1⟩
 have hS1 : Src a n cap Z W.heap.size 0 w1 := by rw [← hw1]; exact src_start a n cap Z W HI1.out HR.out hn
 have hb1 : Below W.heap.size W w1 := by rw [← hw1]; unfold srcW; (repeat (first|exact Qr _ _|assumption|refine Qd ?_|refine Qa ?_ _|refine Qt ?_|refine Qs ?_ _|refine Qo ?_ ?_ _ _))
 have hsz1 : W.heap.size < w1.heap.size := World.block_lt_of_cell? _ _ hS1.code
 have HS1 : Hid (Src a n cap Z W.heap.size 0 w1) := hS1
 have HK1 : Hid (Keeps W.heap.size W w1) := Keeps.of_below hb1
 clear hw1 hS1 hb1 HI1
 go_wp2_with fail
 refine (l2Wrong_src a n cap Z _ 0 _ HS1.out hcap (by omega)).mono ?_
 rintro e w2 ⟨g,m,c,G,t2,rfl,hL,ht2,hS2,hK2⟩
 have HL2 : Hid (DrawnS w1.heap.size w2 g m c G) := hL
 have HS2 : Hid (Src a n cap Z W.heap.size t2 w2) := hS2
 have HK2 : Hid (Keeps W.heap.size W w2) := HK1.out.trans hK2
 clear hL hS2 hK2
 go_wp2_with fail
 refine (l7Bent_any a n cap Z _ t2 _ HS2.out hcap (by omega)).mono ?_
 rintro e w3 ⟨z,x,y,t3,rfl,ht3,hS3,hK3⟩
 have HL3 : Hid (DrawnS w1.heap.size w3 g m c G) := HL2.out.keeps hK3 hsz1
 have HK3 : Hid (Keeps W.heap.size W w3) := HK2.out.trans hK3
 clear hS3 hK3 HL2 HS2 HK2
 have hT3 := HT.out.keeps HK3.out (by omega)
 have HT3 : Hid (There w3 w.heap.size 3) := hT3
 have t0 := hT3.cell 0 (by omega)
 have t1 := hT3.cell 1 (by omega)
 have t2' := hT3.cell 2 (by omega)
 have f0 := (hT3 0 (by omega)).2
 have f1 := (hT3 1 (by omega)).2
 have f2 := (hT3 2 (by omega)).2
 clear hT3
 go_wp2_with fail
 obtain ⟨y0,y1,y2⟩ := set3_at3 (a := .int .i64 z) (b := .int .i64 x) (c := .int .i64 y) HT3.out
 have hBw : Below w.heap.size w w3 := HB0.out.trans (HK3.out.below (by omega) (by omega))
 have hne : g ≠ w.heap.size ∧ ∀ i,i < m → ∀ q o,(G i).a = some ⟨q,o,none⟩ → q ≠ w.heap.size := ⟨by have := HL3.out.2.1; omega,fun i hi q o e => by have := HL3.out.2.2.1 i hi q o e; omega⟩
 exact bodyPost_ret (resDB _ _ w.heap.size (.slice (some ⟨g,0,none⟩) m c) _ _ _ rfl rfl y0 y1 y2) rfl ⟨g,m,c,G,z,x,y,rfl,((HL3.out.1.set1 hne).set1 hne).set1 hne,HL3.out.2.2.2,((hBw.setCell (Nat.le_refl _) _).setCell (Nat.le_refl _) _).setCell (Nat.le_refl _) _⟩
theorem FnTiles_big (a : Option Addr) (n cap : Nat) (w : World) (hbig : 1048576 < n) : Calls Tryz.prog 3 #[.slice a n cap] w fun e w' => e = .returned (.bool true) ∧ Below w.heap.size w w' := by
 have hn : decide (1048576 < (n : Int)) = true := by simp; omega
 go_enter Tryz.func3,Tryz.ntmps3
 go_wp2_with (go_at_call 4; refine (lwBig_any _ _ _ _).mono ?_; rintro e w' ⟨rfl,rfl⟩)
 go_ret
 exact ⟨rfl,Below.refl _ _⟩
end Go.Proofs.YtfkonhagjahgnaaGreat
