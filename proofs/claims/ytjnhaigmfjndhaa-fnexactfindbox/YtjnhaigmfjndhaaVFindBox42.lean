/- Quads of the law's own are marked. -/
import Derived.Test.YtjnhaigmfjndhaaVFindBox38
import Derived.Test.YtjnhaigmfjndhaaVFindBox33
namespace Go.Proofs.Ytjnhaigmfjndhaa
open Go.RowKit Go.Shelf
set_option linter.unusedSimpArgs false
set_option linter.unusedVariables false
set_option maxRecDepth 100000

theorem There.any {W : World} {r n : Nat} (h : There W r n) (p o : Nat) (v : Value) : There (W.setCell ⟨p, o, none⟩ v) r n := by
  by_cases e : p = r
  · subst e; exact h.set o v
  · exact h.out' e
/-- What could be written can be written still. -/
def KeepT (w w' : World) : Prop := ∀ r m, There w r m → There w' r m
theorem KeepT.refl (w : World) : KeepT w w := fun _ _ h => h
theorem KeepT.trans {a b c : World} (h : KeepT a b) (k : KeepT b c) : KeepT a c := fun r m t => k r m (h r m t)
theorem KeepT.set {a b : World} (h : KeepT a b) (p o : Nat) (v : Value) : KeepT a (b.setCell ⟨p, o, none⟩ v) := fun r m t => (h r m t).any p o v
set_option maxHeartbeats 2000000 in
theorem markEntryS_any (g n cap k0 : Nat) (w : World) (hT : There w g (n * 5)) (hn : n ≤ 1048576) (hk0 : k0 ≤ 1125899906842624) :
    Calls Try.prog 34 #[.slice (some ⟨g, 0, none⟩) n cap, .int .i64 (k0 : Int)] w fun e w' => e = .returned (.int .i64 ((k0 + 5 * n : Nat) : Int)) ∧ w.grownBy w' (some g) ∧ KeepT w w' := by
  have HT0 : Hid (There w g (n * 5)) := hT
  clear hT
  go_enter Try.func34, Try.ntmps34
  go_wp2_with fail
  go_loopw [1, 5] (fun kk i wr => ∃ j K : Nat, j ≤ n ∧ Hid (K = k0 + 5 * j) ∧ kk = .int .i64 (K : Int) ∧ i = .int .i64 (j : Int) ∧ w.grownBy wr (some g) ∧ KeepT w wr) (fun _ i _ => n - (intOf i).toNat)
  case atStart => exact ⟨0, k0, by omega, rfl, rfl, rfl, grown_refl _ _, KeepT.refl _⟩
  case round =>
    obtain ⟨j, K, hj, HK, rfl, rfl, hG, hKT⟩ := hrel
    by_cases hlt : j < n
    · have hKb : K ≤ 1125899913134080 := by have := HK.out; omega
      have hT' := hKT _ _ HT0.out
      have t0 := hT'.cell (j * 5 + 0) (by omega)
      have t1 := hT'.cell (j * 5 + 1) (by omega)
      have t2 := hT'.cell (j * 5 + 2) (by omega)
      have t3 := hT'.cell (j * 5 + 3) (by omega)
      have t4 := hT'.cell (j * 5 + 4) (by omega)
      have y0 := (hT' (j * 5 + 0) (by omega)).2
      have y1 := (hT' (j * 5 + 1) (by omega)).2
      have y2 := (hT' (j * 5 + 2) (by omega)).2
      have y3 := (hT' (j * 5 + 3) (by omega)).2
      have y4 := (hT' (j * 5 + 4) (by omega)).2
      simp only [Nat.add_zero] at t0 y0
      have HG : Hid (w.grownBy wr (some g)) := hG
      have HKT : Hid (KeepT w wr) := hKT
      clear hT' hG hKT
      have hi : (j : Int) < (n : Int) := by omega
      have hi0 : (0 : Int) ≤ (j : Int) := by omega
      go_wp2
      go_roundw
      case rel => exact ⟨j + 1, K + 5, by omega, by have := HK.out; show _ = _; omega, by go_num, by go_num, grown_set (grown_set (grown_set (grown_set (grown_set HG.out _ _) _ _) _ _) _ _) _ _, ((((HKT.out.set _ _ _).set _ _ _).set _ _ _).set _ _ _).set _ _ _⟩
      case measure => simp [intOf]; omega
    · go_wp2
      go_ret
      have hjn : j = n := by omega
      subst hjn
      exact ⟨ret_int (by have := HK.out; omega), hG, hKT⟩
/-- Quads all of whose blocks lie from lo to hi. -/
def MidQ (w : World) (lo hi b n : Nat) (Q : Nat → Qd) (A : Nat → Option Addr) : Prop :=
  (lo ≤ b ∧ b < hi) ∧ There w b (n * 7) ∧ ∀ i, i < n → w.cell? ⟨b, i * 7 + 6, none⟩ = some (.slice (A i) (Q i).en (Q i).en) ∧ ∃ g, A i = some ⟨g, 0, none⟩ ∧ g ≠ b ∧ lo ≤ g ∧ g < hi ∧ There w g ((Q i).en * 5)
theorem OwnQs.mid {w : World} {B b n : Nat} {Q : Nat → Qd} {A : Nat → Option Addr} (h : OwnQs w B b n Q A) (hT : There w b (n * 7)) : MidQ w B w.heap.size b n Q A :=
  ⟨⟨h.1, h.2.1⟩, hT, fun i hi => by
    obtain ⟨hq, g, e1, e2, e3, e4, _, e6⟩ := h.2.2 i hi
    exact ⟨hq.2.2.2.2.2.2, g, e1, e2, e3, e4, e6⟩⟩
theorem MidQ.below {w w' : World} {lo hi b n : Nat} {Q : Nat → Qd} {A : Nat → Option Addr} (h : MidQ w lo hi b n Q A) (hb : Below w.heap.size w w') : MidQ w' lo hi b n Q A :=
  ⟨h.1, h.2.1.below hb, fun i hi => by
    obtain ⟨hc, g, e1, e2, e3, e4, e5⟩ := h.2.2 i hi
    exact ⟨bl_cell hb hc, g, e1, e2, e3, e4, e5.below hb⟩⟩
theorem MidQ.set {w : World} {lo hi b n j t : Nat} {Q : Nat → Qd} {A : Nat → Option Addr} (h : MidQ w lo hi b n Q A) (ht : t < 6) (v : Value) : MidQ (w.setCell ⟨b, j * 7 + t, none⟩ v) lo hi b n Q A :=
  ⟨h.1, h.2.1.any _ _ _, fun i hi => by
    obtain ⟨hc, g, e1, e2, e3, e4, e5⟩ := h.2.2 i hi
    exact ⟨by rw [World.cell?_setCell_other]; exact hc; simp <;> omega, g, e1, e2, e3, e4, e5.any _ _ _⟩⟩
set_option maxHeartbeats 4000000 in
theorem markQuadS_any (lo hi b n : Nat) (Q : Nat → Qd) (A : Nat → Option Addr) (w : World) (hM : MidQ w lo hi b n Q A) (hn : n ≤ 1048576) (hen : ∀ i, i < n → (Q i).en ≤ 1048576) (hall : (allE Q n).length ≤ 1048576) :
    Calls Try.prog 12 #[.slice (some ⟨b, 0, none⟩) n n, .int .i64 1] w fun e w' => ∃ K : Nat, e = .returned (.int .i64 (K : Int)) ∧ MidB lo hi w w' := by
  obtain ⟨h1, h2⟩ := hM.1
  have HM0 : Hid (MidQ w lo hi b n Q A) := hM
  have HE : Hid (∀ i, i < n → (Q i).en ≤ 1048576) := hen
  have HA : Hid ((allE Q n).length ≤ 1048576) := hall
  clear hM hen hall
  go_enter Try.func12, Try.ntmps12
  go_wp2_with fail
  go_loopw [1, 5] (fun kk i wr => ∃ j K : Nat, j ≤ n ∧ Hid (K = 1 + 6 * j + 5 * (allE Q j).length) ∧ kk = .int .i64 (K : Int) ∧ i = .int .i64 (j : Int) ∧ MidB lo hi w wr ∧ MidQ wr lo hi b n Q A) (fun _ i _ => n - (intOf i).toNat)
  case atStart => exact ⟨0, 1, by omega, rfl, rfl, rfl, MidB.refl _ _ _, HM0.out⟩
  case round =>
    obtain ⟨j, K, hj, HK, rfl, rfl, hMB, hMQ⟩ := hrel
    by_cases hlt : j < n
    · have hle := allE_le Q (Nat.le_of_lt hlt)
      have hKb : K ≤ 1125899906842000 := by have := HK.out; have := HA.out; omega
      have hT' := hMQ.2.1
      have t0 := hT'.cell (j * 7 + 0) (by omega)
      have t1 := hT'.cell (j * 7 + 1) (by omega)
      have t2 := hT'.cell (j * 7 + 2) (by omega)
      have t3 := hT'.cell (j * 7 + 3) (by omega)
      have t4 := hT'.cell (j * 7 + 4) (by omega)
      have t5 := hT'.cell (j * 7 + 5) (by omega)
      have y0 := (hT' (j * 7 + 0) (by omega)).2
      have y1 := (hT' (j * 7 + 1) (by omega)).2
      have y2 := (hT' (j * 7 + 2) (by omega)).2
      have y3 := (hT' (j * 7 + 3) (by omega)).2
      have y4 := (hT' (j * 7 + 4) (by omega)).2
      have y5 := (hT' (j * 7 + 5) (by omega)).2
      simp only [Nat.add_zero] at t0 y0
      have HMB : Hid (MidB lo hi w wr) := hMB
      obtain ⟨hc6', g, e1, e2, e3, e4, e5⟩ := hMQ.2.2 j hlt
      rw [e1] at hc6'
      have HMQ : Hid (MidQ wr lo hi b n Q A) := hMQ
      have hnk := HE.out j hlt
      clear hT' hMB hMQ
      have hi' : (j : Int) < (n : Int) := by omega
      have hi0 : (0 : Int) ≤ (j : Int) := by omega
      go_wp2_with fail
      generalize hX : ((((((wr.setCell _ _).setCell _ _).setCell _ _).setCell _ _).setCell _ _).setCell _ _ : World) = X
      have HX : Hid (MidQ X lo hi b n Q A) := by show MidQ _ _ _ _ _ _ _; rw [← hX]; exact (((((HMQ.out.set (t := 0) (by omega) _).set (t := 1) (by omega) _).set (t := 2) (by omega) _).set (t := 3) (by omega) _).set (t := 4) (by omega) _).set (t := 5) (by omega) _
      have HXB : Hid (MidB lo hi w X) := by show MidB _ _ _ _; rw [← hX]; exact (((((HMB.out.set h1 h2 _ _).set h1 h2 _ _).set h1 h2 _ _).set h1 h2 _ _).set h1 h2 _ _).set h1 h2 _ _
      have hTg : There X g ((Q j).en * 5) := by rw [← hX]; exact (((((e5.any _ _ _).any _ _ _).any _ _ _).any _ _ _).any _ _ _).any _ _ _
      have eK : (K : Int) + 1 + 1 + 1 + 1 + 1 + 1 = ((K + 6 : Nat) : Int) := by omega
      rw [eK]
      clear hX t0 t1 t2 t3 t4 t5 y0 y1 y2 y3 y4 y5 hc6' HMQ HMB
      refine (markEntryS_any g (Q j).en (Q j).en (K + 6) X hTg hnk (by omega)).mono ?_
      rintro e w2 ⟨rfl, hG, hKT⟩
      have HQ2 : Hid (MidQ w2 lo hi b n Q A) := ⟨HX.out.1, hKT _ _ HX.out.2.1, fun i hi => by
        obtain ⟨hc, g', a1, a2, a3, a4, a5⟩ := HX.out.2.2 i hi
        exact ⟨gr_cell hG hc (fun h => e2 h.symm), g', a1, a2, a3, a4, hKT _ _ a5⟩⟩
      have HB2 : Hid (MidB lo hi w w2) := HXB.out.trans (MidB.of_grown hG e3 e4)
      have hE := allE_succ_length Q j
      have HK2 : Hid (K + 6 + 5 * (Q j).en = 1 + 6 * (j + 1) + 5 * (allE Q (j + 1)).length) := by show _ = _; rw [hE]; have := HK.out; omega
      generalize K + 6 + 5 * (Q j).en = K2 at *
      clear hG hKT HX HXB hE HK
      go_wp2
      go_roundw
      case rel => exact ⟨j + 1, K2, by omega, HK2.out, rfl, by go_num, HB2.out, HQ2.out⟩
      case measure => simp [intOf]; omega
    · go_wp2
      go_ret
      exact ⟨_, rfl, hMB⟩
end Go.Proofs.Ytjnhaigmfjndhaa
