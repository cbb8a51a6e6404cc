/- Texts. -/
import Derived.Test.YtiephlohemphjaaGreatVTickViewer44
set_option linter.unusedSimpArgs false
set_option linter.unusedVariables false
set_option maxRecDepth 100000
set_option maxHeartbeats 32000000
namespace Go.Proofs.YtiephlohemphjaaGreat
open Go.RowKit
theorem kC_m {A : Nat → Kp} {i : Nat} (h : kC A i = 0) : (A i).m = 64 := by
 have h1 := (kC_zero h).1
 have h2 := tC_zero h1
 have h3 : (rtL (A i).z (A i).x (A i).y (A i).fn (A i).F).length = 64 := by unfold rtL; rw [if_pos h2,rasK_len]
 by_cases e : (A i).m = 64
 ·exact e
 ·have := tC_state h2 (sameI_len (by rw [h3]; exact e))
  rw [h1] at this; cases this
theorem KsSm.of_same {w : World} {a : Option Addr} {n : Nat} {K K' R : Nat → Kp} (h : KsSm w a n K R) (hs : ∀ i,i < n → (K i).z = (K' i).z ∧ (K i).x = (K' i).x ∧ (K i).y = (K' i).y ∧ (K i).fn = (K' i).fn ∧ (K i).m = (K' i).m ∧ (K i).I = (K' i).I ∧ ∀ j,j < (K i).fn → ((K i).F j).same ((K' i).F j)) : KsSm w a n K' R := by
 refine h.imp id (fun ⟨g,e,h1,h2⟩ => ⟨g,e,h1,fun i hi => ⟨(h2 i hi).1,?_⟩⟩)
 obtain ⟨⟨a1,a2,a3⟩,b1,b2,⟨c1,c2⟩,d⟩ := (h2 i hi).2
 obtain ⟨e1,e2,e3,e4,e5,e6,e7⟩ := hs i hi
 refine ⟨⟨a1.trans e1,a2.trans e2,a3.trans e3⟩,b1.trans e4,b2.trans e5,⟨by rw [← e4]; exact c1,fun j hj => Feat.same_trans (c2 j (by omega)) (e7 j (by omega))⟩,?_⟩
 rw [← e5, ← e6]; exact d
theorem CaNew.sm {w : World} {B : Nat} {a : Option Addr} {n : Nat} {KL R : Nat → Kp} (h : CaNew w B a n KL R) : KsSm w a n KL R := by
 rcases h with h | ⟨g,M,e,hB,hA,hT,hg,hM,hMn⟩
 ·exact .inl h
 have h0n := upM (M := M) (n := n) (fun j hj => (hM j hj).1) (Nat.zero_le n) (Nat.le_refl _)
 refine .inr ⟨g,e,by omega,fun i hi => ⟨?_,?_⟩⟩
 ·have := hA i hi
  rw [if_pos hi] at this
  exact this
 ·have hin := upM (M := M) (n := n) (fun j hj => (hM j hj).1) (show i + 1 ≤ n by omega) (Nat.le_refl _)
  obtain ⟨_,h1,h2,h3,h4,md,h5,h6,⟨f1,f2,_⟩,h8⟩ := hM i hi
  refine ⟨h1,h2,h3,⟨by rw [← h2] at f1 ⊢; exact f1,fun j hj => (f2 j hj).1⟩,?_⟩
  rcases h8 with h8 | ⟨ib,e1,_,e2,e3,_⟩
  ·exact .inl h8
  ·rw [e1]; exact e3.is (by omega)
theorem CaNew.mid {w w' : World} {B : Nat} {a : Option Addr} {n : Nat} {KL R : Nat → Kp} {l h' : Nat} (h : CaNew w B a n KL R) (hM : MidB l h' w w') (hh : h' ≤ B) : CaNew w' B a n KL R := by
 refine h.imp id (fun ⟨g,M,e,hB,hA,hT,hg,hK,hMn⟩ => ⟨g,M,e,hB,fun j hj => ?_,hM.there hT (.inr (by omega)),hg,fun j hj => ⟨(hK j hj).1,(hK j hj).2.mid hM ?_⟩,Nat.le_trans hMn hM.size⟩)
 ·obtain ⟨q0,q1,q2,q3,q4⟩ := hA j hj
  exact ⟨hM.cell q0 (.inr (by omega)),hM.cell q1 (.inr (by omega)),hM.cell q2 (.inr (by omega)),hM.cell q3 (.inr (by omega)),hM.cell q4 (.inr (by omega))⟩
 ·have := upM (M := M) (n := n) (fun j hj => (hK j hj).1) (Nat.zero_le j) (by omega)
  omega
theorem CaNew.below {w w' : World} {B : Nat} {a : Option Addr} {n : Nat} {KL R : Nat → Kp} (h : CaNew w B a n KL R) (hb : Below w.heap.size w w') : CaNew w' B a n KL R := h.mid (MidB.of_below (lo := 0) (hi := 0) hb) (Nat.zero_le _)
theorem CaNew.small {w : World} {B : Nat} {a : Option Addr} {n : Nat} {KL R : Nat → Kp} (h : CaNew w B a n KL R) (hs : SmallKs n KL) : SmallKs n R := by
 refine ⟨hs.1,fun i hi => ?_⟩
 rcases h with h | ⟨g,M,e,hB,hA,hT,hg,hM,hMn⟩
 ·omega
 obtain ⟨_,h1,h2,h3,h4,md,h5,h6,⟨f1,f2,_⟩,h8⟩ := hM i hi
 have hk := hs.2 i hi
 refine ⟨⟨by rw [h2]; exact hk.1.1,fun j hj => ?_⟩,by rw [h3]; exact hk.2⟩
 rw [h2] at hj
 obtain ⟨_,_,_,_,g5,_,_,g8,_⟩ := (f2 j hj).1
 rw [g5,g8]
 exact hk.1.2 j hj
def CrW (w : World) (B hi : Nat) (a : Option Addr) (n : Nat) (R : Nat → Kp) : Prop := n = 0 ∨ ∃ g M,a = some ⟨g,0,none⟩ ∧ B ≤ g ∧ KsW w g n R M ∧ M n ≤ hi
theorem CaNew.crw {w : World} {B : Nat} {a : Option Addr} {n : Nat} {KL R : Nat → Kp} (h : CaNew w B a n KL R) : CrW w B w.heap.size a n R := by
 refine h.imp id (fun ⟨g,M,e,hB,hA,hT,hg,hM,hMn⟩ => ⟨g,M,e,hB,⟨hT,hg,fun j hj => ⟨(hM j hj).1,?_,?_⟩,hMn⟩,hMn⟩)
 ·have := hA j hj
  rw [if_pos hj] at this
  exact ⟨this.2.2.2.1,this.2.2.2.2⟩
 ·have hin := upM (M := M) (n := n) (fun j hj => (hM j hj).1) (show j + 1 ≤ n by omega) (Nat.le_refl _)
  obtain ⟨_,h1,h2,h3,h4,md,h5,h6,⟨_,_,f3⟩,h8⟩ := hM j hj
  refine ⟨md,h5,h6,by omega,?_,?_⟩
  ·rw [h2]; exact f3
  ·rw [h3]; exact h8.imp id (fun ⟨ib,e1,e2,e3,_,e5⟩ => ⟨ib,e1,e2,e3,e5⟩)
theorem CrW.mid {w w' : World} {B hi : Nat} {a : Option Addr} {n : Nat} {R : Nat → Kp} {l h' : Nat} (h : CrW w B hi a n R) (hM : MidB l h' w w') (hh : h' ≤ B) : CrW w' B hi a n R := h.imp id (fun ⟨g,M,e,hB,hK,hMn⟩ => ⟨g,M,e,hB,hK.mid hM (.inl (by omega)),hMn⟩)
theorem CrW.below {w w' : World} {B hi : Nat} {a : Option Addr} {n : Nat} {R : Nat → Kp} (h : CrW w B hi a n R) (hb : Below w.heap.size w w') : CrW w' B hi a n R := h.mid (MidB.of_below (lo := 0) (hi := 0) hb) (Nat.zero_le _)
theorem markKeptS_zero (a : Option Addr) (c k : Int) (cap : Nat) (w : World) : Calls Tryz.prog 83 #[.slice a 0 cap, .int .i64 k] w fun e w' => e = .returned (.int .i64 k) ∧ w = w' := by
 go_enter Tryz.func83,Tryz.ntmps83
 go_wp2_with fail
 go_loopw [1,5] (fun kk i wr => kk = .int .i64 k ∧ i = .int .i64 0 ∧ w = wr) (fun _ _ _ => 0)
 case atStart => exact ⟨rfl,rfl,rfl⟩
 case round =>
  obtain ⟨rfl,rfl,rfl⟩ := hrel
  go_wp2
  go_ret
  exact ⟨rfl,rfl⟩
theorem heldKeptS_zero (a : Option Addr) (k : Int) (cap : Nat) (w : World) : Calls Tryz.prog 132 #[.slice a 0 cap, .int .i64 k] w fun e w' => e = .returned (.int .i64 k) ∧ w = w' := by
 go_enter Tryz.func132,Tryz.ntmps132
 go_wp2_with fail
 go_loopw [1,5] (fun kk i wr => kk = .int .i64 k ∧ i = .int .i64 0 ∧ w = wr) (fun _ _ _ => 0)
 case atStart => exact ⟨rfl,rfl,rfl⟩
 case round =>
  obtain ⟨rfl,rfl,rfl⟩ := hrel
  go_wp2
  go_ret
  exact ⟨rfl,rfl⟩


end Go.Proofs.YtiephlohemphjaaGreat
