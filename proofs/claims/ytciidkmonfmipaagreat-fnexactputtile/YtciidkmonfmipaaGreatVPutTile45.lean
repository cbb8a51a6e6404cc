/- PutTile: what both sides answer, said over the cache and the tile that came in; sizes and marks of two arguments. -/
import Derived.Test.YtciidkmonfmipaaGreatVPutTile44
import Derived.Test.YtciidkmonfmipaaGreatVPutTile42
namespace Go.Proofs.YtciidkmonfmipaaGreat
open Go.RowKit
set_option linter.unusedSimpArgs false
set_option linter.unusedVariables false
set_option maxRecDepth 100000

/-- The tile that is put, as the answer has it. -/
noncomputable def puT (z x y : Int) (fn : Nat) (F : Nat → Feat) : Kp := ⟨z, x, y, none, fn, 0, F, none, 64, 0, nz (rtL z x y fn F)⟩
noncomputable def puN (s : Int) (n : Nat) (K : Nat → Kp) (z x y : Int) (fn : Nat) (F : Nat → Feat) : Nat := if puC s n K z x y fn F = 0 then putM n K s z x y else 0
noncomputable def puS (s : Int) (n : Nat) (K : Nat → Kp) (z x y : Int) (fn : Nat) (F : Nat → Feat) : Int := if puC s n K z x y fn F = 0 then s else 0
noncomputable def puK (s : Int) (n : Nat) (K : Nat → Kp) (z x y : Int) (fn : Nat) (F : Nat → Feat) : Nat → Kp := putK n K s (puT z x y fn F)
theorem puC_n10 {s : Int} {n : Nat} {K : Nat → Kp} {z x y : Int} {fn : Nat} {F : Nat → Feat} (h : puC s n K z x y fn F = 0) : n ≤ 10 := by
  unfold puC at h
  by_cases h0 : cacheC s n K = 0
  · unfold cacheC at h0
    split at h0
    · rename_i hin
      split at h0
      · cases h0
      · simp [inB] at hin
        omega
    · cases h0
  · rw [if_neg h0] at h; exact absurd h h0
theorem puK_small {s : Int} {n : Nat} {K : Nat → Kp} (z x y : Int) {fn : Nat} {F : Nat → Feat} (h : SmallKs n K) (hf : SmallFs fn F) : SmallKs (puN s n K z x y fn F) (puK s n K z x y fn F) := by
  have hl := lessI_len n K z x y
  unfold puN
  split
  · rename_i hc
    have h10 := puC_n10 hc
    refine ⟨by unfold putM; omega, fun i hi => ?_⟩
    unfold puK putK
    split
    · rename_i hj
      exact h.2 _ (lessI_get (z := z) (x := x) (y := y) hj)
    · exact ⟨hf, by show 64 ≤ _; omega⟩
  · exact ⟨Nat.zero_le _, fun i hi => by omega⟩
theorem OwnKs.puK {w : World} {B b n : Nat} {K A : Nat → Kp} (h : OwnKs w B b n K A) {s z x y : Int} {fn : Nat} {F G : Nat → Feat} (hG : ∀ i, i < fn → (G i).same (F i)) {k0 : Kp} (h0 : k0.z = z ∧ k0.x = x ∧ k0.y = y ∧ k0.fn = fn ∧ k0.F = G ∧ k0.m = 64 ∧ k0.I = nz (rtL z x y fn G)) (i : Nat) :
    (putK n A s k0 i).z = (Go.Proofs.YtciidkmonfmipaaGreat.puK s n K z x y fn F i).z ∧ (putK n A s k0 i).x = (Go.Proofs.YtciidkmonfmipaaGreat.puK s n K z x y fn F i).x ∧ (putK n A s k0 i).y = (Go.Proofs.YtciidkmonfmipaaGreat.puK s n K z x y fn F i).y ∧ (putK n A s k0 i).fn = (Go.Proofs.YtciidkmonfmipaaGreat.puK s n K z x y fn F i).fn ∧ (putK n A s k0 i).m = (Go.Proofs.YtciidkmonfmipaaGreat.puK s n K z x y fn F i).m ∧ (putK n A s k0 i).I = (Go.Proofs.YtciidkmonfmipaaGreat.puK s n K z x y fn F i).I ∧ ∀ j, j < (putK n A s k0 i).fn → ((putK n A s k0 i).F j).same ((Go.Proofs.YtciidkmonfmipaaGreat.puK s n K z x y fn F i).F j) := by
  obtain ⟨e1, e2, e3, e4, e5, e6, e7⟩ := h0
  have eO : putO n A s k0.z k0.x k0.y = putO n K s z x y := by unfold putO; rw [e1, e2, e3, h.lessI]
  have eA : putK n A s k0 i = if i + putO n K s z x y < (Go.Proofs.YtciidkmonfmipaaGreat.lessI n K z x y).length then A ((Go.Proofs.YtciidkmonfmipaaGreat.lessI n K z x y).getD (i + putO n K s z x y) 0) else k0 := by
    unfold putK; rw [eO, e1, e2, e3, h.lessI]
  have eK : Go.Proofs.YtciidkmonfmipaaGreat.puK s n K z x y fn F i = if i + putO n K s z x y < (Go.Proofs.YtciidkmonfmipaaGreat.lessI n K z x y).length then K ((Go.Proofs.YtciidkmonfmipaaGreat.lessI n K z x y).getD (i + putO n K s z x y) 0) else puT z x y fn F := rfl
  rw [eA, eK]
  by_cases hj : i + putO n K s z x y < (Go.Proofs.YtciidkmonfmipaaGreat.lessI n K z x y).length
  · rw [if_pos hj, if_pos hj]
    exact h.sameK (lessI_get hj)
  · rw [if_neg hj, if_neg hj]
    refine ⟨e1, e2, e3, e4, e6, ?_, fun j hj => ?_⟩
    · rw [e7, (rt_same hG).2]; rfl
    · rw [e5]; exact hG j (by omega)
theorem OwnKs.puC {w : World} {B b n : Nat} {K A : Nat → Kp} (h : OwnKs w B b n K A) {s z x y : Int} {fn : Nat} {F G : Nat → Feat} (hG : ∀ i, i < fn → (G i).same (F i)) : Go.Proofs.YtciidkmonfmipaaGreat.puC s n A z x y fn G = Go.Proofs.YtciidkmonfmipaaGreat.puC s n K z x y fn F ∧ putM n A s z x y = putM n K s z x y := by
  refine ⟨?_, ?_⟩
  · unfold Go.Proofs.YtciidkmonfmipaaGreat.puC
    rw [h.cacheC, (rt_same hG).1]
  · unfold putM putO
    rw [h.lessI]
theorem spec_pu (s : Int) (n : Nat) (K : Nat → Kp) (z x y : Int) (fn : Nat) (F : Nat → Feat) (W : World) (C b D fb : Nat) (A : Nat → Kp) (G : Nat → Feat) (hO : OwnKs W C b n K A) (hT : OwnFs W D fb fn F G) (hS : SmallKs n K) (hF : SmallFs fn F) :
    Calls Tryz.prog 8 #[caV s (.slice (some ⟨b, 0, none⟩) n n), tileV z x y (.slice (some ⟨fb, 0, none⟩) fn fn)] W fun e w' => ∃ a c R, e = .returned (crcV (puC s n K z x y fn F) (puS s n K z x y fn F) (.slice a (puN s n K z x y fn F) c)) ∧ (∀ V, MidB 0 W.heap.size w' V → KsSm V a (puN s n K z x y fn F) (puK s n K z x y fn F) R) ∧ Below W.heap.size W w' := by
  have hG : ∀ i, i < fn → (G i).same (F i) := fun i hi => (hT.2.2.2 i hi).1
  have h := spec_PutTile_any s b n n A z x y fb fn fn G (puT z x y fn G) W hO.ko (hO.small hS) hT.2.2.1 hT.2.1 (hT.small hF) ⟨rfl, rfl, rfl, rfl, rfl, rfl, rfl⟩
  obtain ⟨e1, e2⟩ := hO.puC (s := s) (z := z) (x := x) (y := y) hG
  rw [e1, e2] at h
  refine h.mono ?_
  rintro e w' ⟨h1, h2, h3⟩
  by_cases hc : puC s n K z x y fn F = 0
  · obtain ⟨a, c, R, rfl, hK⟩ := h2 hc
    refine ⟨a, c, R, ?_, ?_, h3⟩
    · unfold puS puN; rw [if_pos hc, if_pos hc, hc]
    · unfold puN; rw [if_pos hc]; exact fun V hV => (hK V hV).of_same (fun i hi => hO.puK hG ⟨rfl, rfl, rfl, rfl, rfl, rfl, rfl⟩ i)
  · refine ⟨none, 0, K, ?_, fun V _ => .inl ?_, h3⟩
    · rw [h1 hc]; unfold puS puN; rw [if_neg hc, if_neg hc]
    · unfold puN; rw [if_neg hc]
theorem impl_pu (s : Int) (n : Nat) (K : Nat → Kp) (z x y : Int) (fn : Nat) (F : Nat → Feat) (W : World) (C b D fb : Nat) (A : Nat → Kp) (G : Nat → Feat) (hO : OwnKs W C b n K A) (hT : OwnFs W D fb fn F G) (hS : SmallKs n K) (hF : SmallFs fn F) :
    Calls Tryz.prog 11 #[caV s (.slice (some ⟨b, 0, none⟩) n n), tileV z x y (.slice (some ⟨fb, 0, none⟩) fn fn)] W fun e w' => ∃ a c R, e = .returned (crcV (puC s n K z x y fn F) (puS s n K z x y fn F) (.slice a (puN s n K z x y fn F) c)) ∧ CaNew w' W.heap.size a (puN s n K z x y fn F) (puK s n K z x y fn F) R ∧ Below W.heap.size W w' := by
  have hG : ∀ i, i < fn → (G i).same (F i) := fun i hi => (hT.2.2.2 i hi).1
  have h := impl_PutTile_any s b n n A z x y fb fn fn G W hO.ko (hO.small hS) hO.caps (Nat.le_refl _) hT.2.2.1 hT.2.1 (hT.small hF) (Nat.le_refl _)
  obtain ⟨e1, e2⟩ := hO.puC (s := s) (z := z) (x := x) (y := y) hG
  rw [e1, e2] at h
  refine h.mono ?_
  rintro e w' ⟨h1, h2, h3⟩
  by_cases hc : puC s n K z x y fn F = 0
  · obtain ⟨ia, ic, a, c, R, rfl, hK⟩ := h2 hc
    refine ⟨a, c, R, ?_, ?_, h3⟩
    · unfold puS puN; rw [if_pos hc, if_pos hc, hc]
    · unfold puN; rw [if_pos hc]; exact hK.of_same (fun i hi => hO.puK hG ⟨rfl, rfl, rfl, rfl, rfl, rfl, rfl⟩ i)
  · refine ⟨none, 0, K, ?_, .inl ?_, h3⟩
    · rw [h1 hc]; unfold puS puN; rw [if_neg hc, if_neg hc]
    · unfold puN; rw [if_neg hc]
set_option maxHeartbeats 2000000 in
theorem szTile_le (z x y : Int) (a : Option Addr) (n cap left : Nat) (F : Nat → Feat) (w : World) (hl : left ≤ 1048576) (hf : IsFs w a n F) (hc : CameFs n F) :
    Calls Tryz.prog 7 #[tileV z x y (.slice a n cap), .int .i64 (left : Int)] w fun e w' => (e = .returned (.int .i64 (-1)) ∨ ∃ m : Nat, m ≤ left ∧ SmallFs n F ∧ e = .returned (.int .i64 m)) ∧ Below w.heap.size w w' := by
  have HF : Hid (IsFs w a n F) := hf
  have HC : Hid (CameFs n F) := hc
  clear hf hc
  go_enter Tryz.func7, Tryz.ntmps7
  go_wp2_with fail
  generalize hW : (w.alloc _ : World) = W
  have hB0 : Below w.heap.size w W := by subst hW; (repeat (first | exact Below.refl _ _ | assumption | refine Below.drew ?_ | refine bl_alloc ?_ _ | refine bl_then ?_ (by assumption) | refine Below.setCell ?_ (by first | omega | (simp; done) | (simp; omega)) _ | refine bl_store ?_ ?_ _ _))
  clear hW
  refine (szFeatureS_any a n cap F left _ hl (HF.out.below hB0) HC.out).mono ?_
  rintro e w1 ⟨rfl | ⟨m, hm, hS, rfl⟩, hb1⟩
  · go_wp2
    go_ret
    exact ⟨.inl rfl, by (repeat (first | exact Below.refl _ _ | assumption | refine Below.drew ?_ | refine bl_alloc ?_ _ | refine bl_then ?_ (by assumption) | refine Below.setCell ?_ (by first | omega | (simp; done) | (simp; omega)) _ | refine bl_store ?_ ?_ _ _))⟩
  · have hneg : ¬ ((m : Nat) : Int) < 0 := by omega
    have HS : Hid (SmallFs n F) := hS
    clear hS
    go_wp2
    go_ret
    exact ⟨.inr ⟨m, hm, HS.out, rfl⟩, by (repeat (first | exact Below.refl _ _ | assumption | refine Below.drew ?_ | refine bl_alloc ?_ _ | refine bl_then ?_ (by assumption) | refine Below.setCell ?_ (by first | omega | (simp; done) | (simp; omega)) _ | refine bl_store ?_ ?_ _ _))⟩
set_option maxHeartbeats 2000000 in
theorem markTile_le (z x y : Int) (lo hi b n cap k : Nat) (N C q : Nat → Nat) (w : World) (hO : OwnQ w lo hi b n N C q) (hn : n ≤ 1048576) (hN : ∀ i, i < n → N i ≤ 1048576) (h0 : 0 < k) (hk : k ≤ 2400000000000000000) :
    Calls Tryz.prog 16 #[tileV z x y (.slice (some ⟨b, 0, none⟩) n cap), .int .i64 (k : Int)] w fun e w' => (∃ m : Nat, e = .returned (.int .i64 (m : Int))) ∧ MidB lo hi w w' := by
  have HO : Hid (OwnQ w lo hi b n N C q) := hO
  have HM : Hid (∀ W, OwnQ W lo hi b n N C q → Calls Tryz.prog 39 #[.slice (some ⟨b, 0, none⟩) n cap, .int .i64 (k : Int)] W fun e w' => e = .returned (.int .i64 ((kS N k n : Nat) : Int)) ∧ MidB lo hi W w') := fun W h => (markFs_any lo hi b n cap k N C q W h hn hN h0 (by omega)).mono fun e w' h => ⟨h.1, h.2.2.1⟩
  clear hO hN
  have HE : Hid (∃ m : Nat, ((kS N k n : Nat) : Int) = (m : Int)) := ⟨_, rfl⟩
  generalize ((kS N k n : Nat) : Int) = kk at *
  go_enter Tryz.func16, Tryz.ntmps16
  go_wp2_with fail
  generalize hW : (w.alloc _ : World) = W
  have hB0 : Below w.heap.size w W := by subst hW; (repeat (first | exact Below.refl _ _ | assumption | refine Below.drew ?_ | refine bl_alloc ?_ _ | refine bl_then ?_ (by assumption) | refine Below.setCell ?_ (by first | omega | (simp; done) | (simp; omega)) _ | refine bl_store ?_ ?_ _ _))
  clear hW
  refine (HM.out _ (HO.out.below hB0)).mono ?_
  rintro e w1 ⟨rfl, hM1⟩
  have HM1 : Hid (MidB lo hi w w1) := (MidB.of_below hB0).trans hM1
  clear hM1 hB0
  go_wp2
  go_ret
  exact ⟨HE.out.imp (fun m e => by rw [e]; rfl), HM1.out⟩
end Go.Proofs.YtciidkmonfmipaaGreat
