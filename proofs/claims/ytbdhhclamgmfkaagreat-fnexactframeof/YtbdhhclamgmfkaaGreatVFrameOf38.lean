/- Several texts in one. -/
import Derived.Test.YtbdhhclamgmfkaaGreatVFrameOf30
import Derived.Test.YtbdhhclamgmfkaaGreatVFrameOf35
import Derived.Test.YtbdhhclamgmfkaaGreatVFrameOf31
import Derived.Test.YtbdhhclamgmfkaaGreatVFrameOf37
import Derived.Test.YtbdhhclamgmfkaaGreatVFrameOf21
import Derived.BigQuiet

/- The kids of a ref: the model. -/

namespace Go.Proofs.YtbdhhclamgmfkaaGreat
open Go.RowKit
set_option linter.unusedSimpArgs false
set_option linter.unusedVariables false
set_option maxRecDepth 100000

end Go.Proofs.YtbdhhclamgmfkaaGreat
/- VisibleRefs: the model, and the law's steps. -/

namespace Go.Proofs.YtbdhhclamgmfkaaGreat
open Go.RowKit
set_option linter.unusedSimpArgs false
set_option linter.unusedVariables false
set_option maxRecDepth 100000

theorem l9Refs_any {z x y wd ht : Int} (b : Nat) (w : World) (hA : CamAt w b z x y wd ht) (hr : camB z x y wd ht = true) : Calls Tryz.prog 51 #[.pointer (some ⟨b, 0, none⟩)] w fun e w' => ∃ v, e = .returned v ∧ RowT w.heap.size w' v (visM z x y wd ht) (visR z x y wd) ∧ Below w.heap.size w w' := by
  have e2 : visM z x y wd ht = visN y ht * visN x wd := by unfold visM; rw [if_pos hr]
  have hin := camB_in hr
  have nx := visN_bd (x := x) hin.1.1
  have ny := visN_bd (x := y) hin.1.2
  rw [e2]
  exact l9Refs_ok b w hA hr rfl rfl rfl rfl rfl rfl ⟨⟨nx.1, nx.2.1⟩, by omega⟩ ⟨⟨ny.1, ny.2.1⟩, by omega⟩ rfl
end Go.Proofs.YtbdhhclamgmfkaaGreat
/- Whether a ref is among those that are seen: the program and the model. -/

namespace Go.Proofs.YtbdhhclamgmfkaaGreat
open Go.RowKit
set_option linter.unusedSimpArgs false
set_option linter.unusedVariables false
set_option maxRecDepth 100000

/-- Whether one of the first n refs is this one. -/
def hasR (R : Rfs) (z x y : Int) : Nat → Bool
  | 0 => false
  | n + 1 => hasR R z x y n || ((R.z n == z) && ((R.x n == x) && (R.y n == y)))
theorem hasR_no {R : Rfs} {z x y : Int} : ∀ {n : Nat}, (∀ i, i < n → ((R.z i == z) && ((R.x i == x) && (R.y i == y))) = false) → hasR R z x y n = false
  | 0, _ => rfl
  | n + 1, h => by rw [hasR, hasR_no (fun i hi => h i (by omega)), h n (by omega)]; rfl
theorem hasR_yes {R : Rfs} {z x y : Int} : ∀ {n i : Nat}, i < n → ((R.z i == z) && ((R.x i == x) && (R.y i == y))) = true → hasR R z x y n = true
  | n + 1, i, hi, h => by
    rw [hasR]
    by_cases e : i = n
    · subst e; rw [h]; simp
    · rw [hasR_yes (n := n) (by omega) h]; rfl
set_option maxHeartbeats 4000000 in
theorem indexR_any (a : Option Addr) (n cap : Nat) (R : Rfs) (z x y : Int) (w : World) (hp : IsRs w a n R) (hn : n ≤ 1048576) :
    Calls Tryz.prog 143 #[.slice a n cap, refV z x y] w fun e w' => (∃ k : Int, e = .returned (.int .i64 k) ∧ decide (0 ≤ k) = hasR R z x y n) ∧ Below w.heap.size w w' := by
  have HP : Hid (IsRs w a n R) := hp
  clear hp
  go_enter Tryz.func143, Tryz.ntmps143
  go_wp2_with fail
  generalize hW : (w.alloc _ : World) = W
  have HB0 : Hid (Below w.heap.size w W) := by show Below _ _ _; subst hW; (repeat (first | exact Below.refl _ _ | assumption | refine Below.drew ?_ | refine bl_alloc ?_ _ | refine bl_then ?_ (by assumption) | refine Below.setCell ?_ (by first | omega | (simp; done) | (simp; omega)) _ | refine bl_store ?_ ?_ _ _))
  have HV : Hid (RefA W w.heap.size z x y) := by show RefA _ _ _ _ _; subst hW; exact ⟨by simp [go_sem], by simp [go_sem], by simp [go_sem]⟩
  clear hW
  go_loopw [8] (fun i wr => ∃ k : Nat, k ≤ n ∧ i = .int .i64 (k : Int) ∧ (∀ j, j < k → ((R.z j == z) && ((R.x j == x) && (R.y j == y))) = false) ∧ Below W.heap.size W wr) (fun i _ => n - (intOf i).toNat)
  case atStart => exact ⟨0, by omega, rfl, fun j hj => absurd hj (Nat.not_lt_zero _), Below.refl _ _⟩
  case round =>
    obtain ⟨k, hk, rfl, hno, hB⟩ := hrel
    have HN : Hid (∀ j, j < k → ((R.z j == z) && ((R.x j == x) && (R.y j == y))) = false) := hno
    have HB : Hid (Below W.heap.size W wr) := hB
    obtain ⟨p0, p1, p2⟩ := HV.out.below hB
    by_cases hlt : k < n
    · rcases HP.out with h0 | ⟨b, off, rfl, hb, hpt⟩
      · omega
      obtain ⟨q0, q1, q2⟩ := (hpt.below (bl_then HB0.out hB) hb) k hlt
      have hi : (k : Int) < (n : Int) := by omega
      have hi0 : (0 : Int) ≤ (k : Int) := by omega
      have heq := fun w => eql_ref z x y (R.z k) (R.x k) (R.y k) w
      rw [same_ref] at heq
      clear hno hB hpt
      cases hE : ((R.z k == z) && ((R.x k == x) && (R.y k == y)))
      · rw [hE] at heq
        have HN2 : Hid (∀ j, j < k + 1 → ((R.z j == z) && ((R.x j == x) && (R.y j == y))) = false) := fun j hj => by
          by_cases e : j = k
          · rw [e]; exact hE
          · exact HN.out j (by omega)
        clear hE
        generalize R.z k = rz at *
        generalize R.x k = rx at *
        generalize R.y k = ry at *
        go_wp2_with fail
        go_quiet (fail)
        go_wp2_with fail
        exact ⟨⟨k + 1, by omega, by simp, HN2.out, below_drewN HB.out _⟩, by simp [intOf]; omega⟩
      · rw [hE] at heq
        have HY : Hid (hasR R z x y n = true) := hasR_yes hlt hE
        clear hE
        generalize R.z k = rz at *
        generalize R.x k = rx at *
        generalize R.y k = ry at *
        go_wp2_with fail
        go_quiet (fail)
        go_wp2
        go_ret
        exact ⟨⟨(k : Int), rfl, by rw [HY.out]; simp⟩, below_drewN (bl_then HB0.out HB.out) _⟩
    · obtain rfl : n = k := by omega
      have HY : Hid (hasR R z x y n = false) := hasR_no HN.out
      go_wp2
      go_ret
      exact ⟨⟨-1, rfl, by rw [HY.out]; simp⟩, bl_then HB0.out HB.out⟩
theorem containsR_any (a : Option Addr) (n cap : Nat) (R : Rfs) (z x y : Int) (w : World) (hp : IsRs w a n R) (hn : n ≤ 1048576) :
    Calls Tryz.prog 120 #[.slice a n cap, refV z x y] w fun e w' => e = .returned (.bool (hasR R z x y n)) ∧ Below w.heap.size w w' := by
  have HI : Hid (∀ W, Below w.heap.size w W → Calls Tryz.prog 143 #[.slice a n cap, refV z x y] W fun e w' => (∃ k : Int, e = .returned (.int .i64 k) ∧ decide (0 ≤ k) = hasR R z x y n) ∧ Below W.heap.size W w') := fun W h => indexR_any a n cap R z x y W (hp.below h) hn
  clear hp
  generalize hasR R z x y n = B at *
  go_enter Tryz.func120, Tryz.ntmps120
  go_wp2_with fail
  generalize hW : (w.alloc _ : World) = W
  have HB0 : Below w.heap.size w W := by subst hW; (repeat (first | exact Below.refl _ _ | assumption | refine Below.drew ?_ | refine bl_alloc ?_ _ | refine bl_then ?_ (by assumption) | refine Below.setCell ?_ (by first | omega | (simp; done) | (simp; omega)) _ | refine bl_store ?_ ?_ _ _))
  clear hW
  refine (HI.out _ HB0).mono ?_
  rintro e w1 ⟨⟨k, rfl, hk⟩, hb1⟩
  have HK : Hid (decide (0 ≤ k) = B) := hk
  clear hk
  go_wp2
  go_ret
  exact ⟨ret_bool HK.out, bl_then HB0 hb1⟩
set_option maxHeartbeats 4000000 in
theorem l9Seen_any (b n : Nat) (R : Rfs) (z x y : Int) (w : World) (hn : n ≤ 1048576)
    (hL : ∀ W, Below w.heap.size w W → Calls Tryz.prog 51 #[.pointer (some ⟨b, 0, none⟩)] W fun e w' => ∃ v, e = .returned v ∧ RowT W.heap.size w' v n R ∧ Below W.heap.size W w') :
    Calls Tryz.prog 49 #[.pointer (some ⟨b, 0, none⟩), refV z x y] w fun e w' => e = .returned (.bool (hasR R z x y n)) ∧ Below w.heap.size w w' := by
  have HL : Hid (∀ W, Below w.heap.size w W → Calls Tryz.prog 51 #[.pointer (some ⟨b, 0, none⟩)] W fun e w' => ∃ v, e = .returned v ∧ RowT W.heap.size w' v n R ∧ Below W.heap.size W w') := hL
  clear hL
  go_enter Tryz.func49, Tryz.ntmps49
  go_wp2_with fail
  generalize hW : (w.alloc _ : World) = W
  have HB0 : Hid (Below w.heap.size w W) := by show Below _ _ _; subst hW; (repeat (first | exact Below.refl _ _ | assumption | refine Below.drew ?_ | refine bl_alloc ?_ _ | refine bl_then ?_ (by assumption) | refine Below.setCell ?_ (by first | omega | (simp; done) | (simp; omega)) _ | refine bl_store ?_ ?_ _ _))
  have HV : Hid (RefA W w.heap.size z x y) := by show RefA _ _ _ _ _; subst hW; exact ⟨by simp [go_sem], by simp [go_sem], by simp [go_sem]⟩
  clear hW
  refine (HL.out _ HB0.out).mono ?_
  rintro e w1 ⟨v, rfl, hO, hb1⟩
  obtain ⟨a0, cap0, hv, hc0, hcase⟩ := hO.own
  subst hv
  have HP : Hid (IsRs w1 a0 n R) := by
    rcases hcase with h | ⟨g, ha, h1, h2, h3, _⟩
    · exact .inl h
    · exact .inr ⟨g, 0, ha, h2, h3⟩
  have HV1 : Hid (RefA w1 w.heap.size z x y) := HV.out.below hb1
  have HB1 : Hid (Below w.heap.size w w1) := bl_then HB0.out hb1
  clear hcase hO hb1 HV HB0 HL
  go_wp2_with fail
  go_loopw [6] (fun i wr => ∃ k : Nat, k ≤ n ∧ i = .int .i64 (k : Int) ∧ (∀ j, j < k → ((R.z j == z) && ((R.x j == x) && (R.y j == y))) = false) ∧ Below w1.heap.size w1 wr) (fun i _ => n - (intOf i).toNat)
  case atStart => exact ⟨0, by omega, rfl, fun j hj => absurd hj (Nat.not_lt_zero _), Below.refl _ _⟩
  case round =>
    obtain ⟨k, hk, rfl, hno, hB⟩ := hrel
    have HN : Hid (∀ j, j < k → ((R.z j == z) && ((R.x j == x) && (R.y j == y))) = false) := hno
    have HB : Hid (Below w1.heap.size w1 wr) := hB
    obtain ⟨p0, p1, p2⟩ := HV1.out.below hB
    by_cases hlt : k < n
    · rcases HP.out with h0 | ⟨g, off, rfl, hb, hpt⟩
      · omega
      obtain ⟨q0, q1, q2⟩ := (hpt.below hB hb) k hlt
      have hi : (k : Int) < (n : Int) := by omega
      have hi0 : (0 : Int) ≤ (k : Int) := by omega
      have heq := fun w => eql_ref (R.z k) (R.x k) (R.y k) z x y w
      clear hno hB hpt
      cases hE : ((R.z k == z) && ((R.x k == x) && (R.y k == y)))
      · rw [hE] at heq
        have HN2 : Hid (∀ j, j < k + 1 → ((R.z j == z) && ((R.x j == x) && (R.y j == y))) = false) := fun j hj => by
          by_cases e : j = k
          · rw [e]; exact hE
          · exact HN.out j (by omega)
        clear hE
        generalize R.z k = rz at *
        generalize R.x k = rx at *
        generalize R.y k = ry at *
        go_wp2_with fail
        go_quiet (fail)
        go_wp2_with fail
        exact ⟨⟨k + 1, by omega, by simp, HN2.out, below_drewN HB.out _⟩, by simp [intOf]; omega⟩
      · rw [hE] at heq
        have HY : Hid (hasR R z x y n = true) := hasR_yes hlt hE
        clear hE
        generalize R.z k = rz at *
        generalize R.x k = rx at *
        generalize R.y k = ry at *
        go_wp2_with fail
        go_quiet (fail)
        go_wp2
        go_ret
        exact ⟨ret_bool (by rw [HY.out]), below_drewN (bl_then HB1.out HB.out) _⟩
    · obtain rfl : n = k := by omega
      have HY : Hid (hasR R z x y n = false) := hasR_no HN.out
      go_wp2
      go_ret
      exact ⟨ret_bool (by rw [HY.out]), bl_then HB1.out HB.out⟩
end Go.Proofs.YtbdhhclamgmfkaaGreat
/- IsSeen: the program and the model, and the law's steps. -/

namespace Go.Proofs.YtbdhhclamgmfkaaGreat
open Go.RowKit
set_option linter.unusedSimpArgs false
set_option linter.unusedVariables false
set_option maxRecDepth 100000

/-- Whether a ref is seen. -/
def seenB (z x y wd ht rz rx ry : Int) : Bool := hasR (visR z x y wd) rz rx ry (visM z x y wd ht)
set_option maxHeartbeats 4000000 in
theorem impl_IsSeen_any (z x y wd ht rz rx ry : Int) (w : World) : Calls Tryz.prog 94 #[camV z x y wd ht, refV rz rx ry] w fun e w' => e = .returned (.bool (seenB z x y wd ht rz rx ry)) ∧ Below w.heap.size w w' := by
  have sV : ∀ w, Calls Tryz.prog 61 #[camV z x y wd ht] w fun e w' => ∃ a cap, e = .returned (.agg #[.int .i64 (camC z x y wd ht), .slice a (visM z x y wd ht) cap]) ∧ IsRs w' a (visM z x y wd ht) (visR z x y wd) ∧ Below w.heap.size w w' := fun w => (impl_VisibleRefs_any z x y wd ht w).mono fun e w' ⟨v, h1, h2, h3⟩ => by
    obtain ⟨a, cap, rfl, _, hI⟩ := h2.pts
    exact ⟨a, cap, h1, hI, h3⟩
  have hm : visM z x y wd ht ≤ 1048576 := by have := visM_le z x y wd ht; omega
  have HC : Hid (∀ a cap w, IsRs w a (visM z x y wd ht) (visR z x y wd) → Calls Tryz.prog 120 #[.slice a (visM z x y wd ht) cap, refV rz rx ry] w fun e w' => e = .returned (.bool (seenB z x y wd ht rz rx ry)) ∧ Below w.heap.size w w') := fun a cap w h => containsR_any a _ cap _ rz rx ry w h hm
  clear hm
  generalize seenB z x y wd ht rz rx ry = B at *
  generalize visM z x y wd ht = m at *
  generalize visR z x y wd = R at *
  generalize camC z x y wd ht = c at *
  have i1 : ∀ (a : Option Addr) (cap : Nat) w, (Instr.field 33 (.agg #[.int .i64 c, .slice a m cap]) 1).run Tryz.prog w = .ok (.slice a m cap) w := fun _ _ _ => by kernel_rfl
  go_enter Tryz.func94, Tryz.ntmps94
  go_wp2_with fail
  generalize hW : ((w.alloc _).alloc _ : World) = W
  have HB0 : Hid (Below w.heap.size w W) := by show Below _ _ _; subst hW; (repeat (first | exact Below.refl _ _ | assumption | refine Below.drew ?_ | refine bl_alloc ?_ _ | refine bl_then ?_ (by assumption) | refine Below.setCell ?_ (by first | omega | (simp; done) | (simp; omega)) _ | refine bl_store ?_ ?_ _ _))
  have c00 : ∀ W', Below W.heap.size W W' → W'.cell? ⟨w.heap.size, 0, none⟩ = some (.int .i64 z) := fun W' h => by
    rw [h.cell (by subst hW; simp <;> omega)]; subst hW; simp [go_sem]
  have c01 : ∀ W', Below W.heap.size W W' → W'.cell? ⟨w.heap.size, 1, none⟩ = some (.int .i64 x) := fun W' h => by
    rw [h.cell (by subst hW; simp <;> omega)]; subst hW; simp [go_sem]
  have c02 : ∀ W', Below W.heap.size W W' → W'.cell? ⟨w.heap.size, 2, none⟩ = some (.int .i64 y) := fun W' h => by
    rw [h.cell (by subst hW; simp <;> omega)]; subst hW; simp [go_sem]
  have c03 : ∀ W', Below W.heap.size W W' → W'.cell? ⟨w.heap.size, 3, none⟩ = some (.int .i64 wd) := fun W' h => by
    rw [h.cell (by subst hW; simp <;> omega)]; subst hW; simp [go_sem]
  have c04 : ∀ W', Below W.heap.size W W' → W'.cell? ⟨w.heap.size, 4, none⟩ = some (.int .i64 ht) := fun W' h => by
    rw [h.cell (by subst hW; simp <;> omega)]; subst hW; simp [go_sem]
  have c10 : ∀ W', Below W.heap.size W W' → W'.cell? ⟨w.heap.size + 1, 0, none⟩ = some (.int .i64 rz) := fun W' h => by
    rw [h.cell (by subst hW; simp <;> omega)]; subst hW; simp [go_sem]
  have c11 : ∀ W', Below W.heap.size W W' → W'.cell? ⟨w.heap.size + 1, 1, none⟩ = some (.int .i64 rx) := fun W' h => by
    rw [h.cell (by subst hW; simp <;> omega)]; subst hW; simp [go_sem]
  have c12 : ∀ W', Below W.heap.size W W' → W'.cell? ⟨w.heap.size + 1, 2, none⟩ = some (.int .i64 ry) := fun W' h => by
    rw [h.cell (by subst hW; simp <;> omega)]; subst hW; simp [go_sem]
  clear hW
  have hr : Below W.heap.size W W := Below.refl _ _
  go_region_held3 (fun W' => Below W.heap.size W W') ((repeat (first | exact Below.refl _ _ | assumption | refine Below.drew ?_ | refine bl_alloc ?_ _ | refine bl_then ?_ (by assumption) | refine Below.setCell ?_ (by first | omega | (simp; done) | (simp; omega)) _ | refine bl_store ?_ ?_ _ _)))
    (first
      | (go_at_call 61; refine (sV _).mono ?_; rintro e w1 ⟨a, cap, rfl, hI, hb⟩; have HI : Hid (IsRs w1 a m R) := hI; clear hI)
      | (go_at_call 120; refine (HC.out _ _ _ HI.out).mono ?_; rintro e w2 ⟨rfl, hb⟩)
      | fail)
  go_wp2
  go_ret
  exact ⟨rfl, bl_then HB0.out (by assumption)⟩
end Go.Proofs.YtbdhhclamgmfkaaGreat
