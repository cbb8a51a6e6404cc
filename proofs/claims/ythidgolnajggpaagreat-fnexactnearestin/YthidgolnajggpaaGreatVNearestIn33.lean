/- Several texts in one. -/
import Derived.WalkKit
import Derived.Test.YthidgolnajggpaaGreatVNearestIn31
import Derived.Test.YthidgolnajggpaaGreatVNearestIn32
import Derived.Test.YthidgolnajggpaaGreatVNearestIn23
import Derived.BigQuiet

/- The first place where something is so. -/

namespace Go.Proofs.YthidgolnajggpaaGreat
/-- The first place below n where it is so; -1 where it is nowhere. -/
def firstI (G : Nat → Bool) : Nat → Int
  | 0 => -1
  | n + 1 => if 0 ≤ firstI G n then firstI G n else if G n = true then (n : Int) else -1
theorem firstI_no {G : Nat → Bool} : ∀ {n : Nat}, (∀ i, i < n → G i = false) → firstI G n = -1
  | 0, _ => rfl
  | n + 1, h => by rw [firstI, firstI_no (fun i hi => h i (by omega)), h n (by omega)]; rfl
theorem firstI_yes {G : Nat → Bool} : ∀ {n i : Nat}, i < n → G i = true → (∀ j, j < i → G j = false) → firstI G n = (i : Int)
  | n + 1, i, hi, h, hn => by
    rw [firstI]
    by_cases e : i = n
    · subst e; rw [firstI_no hn, h]; rfl
    · rw [firstI_yes (n := n) (by omega) h hn, if_pos (by omega)]
theorem firstI_or (G : Nat → Bool) (n : Nat) : (firstI G n = -1 ∧ ∀ i, i < n → G i = false) ∨ ∃ i, i < n ∧ G i = true ∧ firstI G n = (i : Int) ∧ ∀ j, j < i → G j = false := by
  induction n with
  | zero => exact .inl ⟨rfl, fun i hi => absurd hi (Nat.not_lt_zero _)⟩
  | succ n ih =>
    rcases ih with ⟨h1, h2⟩ | ⟨i, hi, hg, hf, hn⟩
    · cases hG : G n
      · refine .inl ⟨by rw [firstI, h1, hG]; rfl, fun i hi => ?_⟩
        by_cases e : i = n
        · rw [e]; exact hG
        · exact h2 i (by omega)
      · exact .inr ⟨n, by omega, hG, by rw [firstI, h1, hG]; rfl, h2⟩
    · exact .inr ⟨i, by omega, hg, by rw [firstI, hf, if_pos (by omega)], hn⟩
end Go.Proofs.YthidgolnajggpaaGreat
/- Two lists of numbers compared by the model; where in a cache a ref is. -/

namespace Go.Proofs.YthidgolnajggpaaGreat
open Go.RowKit
set_option linter.unusedSimpArgs false
set_option linter.unusedVariables false
set_option maxRecDepth 100000

/-- Two lists of numbers are the same. -/
def sameI (n m : Nat) (I J : Nat → Int) : Bool := decide (n = m) && decide (∀ i, i < n → I i = J i)
theorem sameI_len {n m : Nat} {I J : Nat → Int} (h : n ≠ m) : sameI n m I J = false := by simp [sameI, h]
theorem sameI_yes {n : Nat} {I J : Nat → Int} (h : ∀ i, i < n → I i = J i) : sameI n n I J = true := by simp [sameI]; exact h
theorem sameI_no {n m k : Nat} {I J : Nat → Int} (hk : k < n) (h : I k ≠ J k) : sameI n m I J = false := by
  unfold sameI
  rw [decide_eq_false (p := ∀ i, i < n → I i = J i) (fun h' => h (h' k hk))]; simp
set_option maxHeartbeats 4000000 in
theorem l11Same_any (a a' : Option Addr) (n m cap cap' : Nat) (I J : Nat → Int) (w : World) (hp : IsNs w a n I) (hq : IsNs w a' m J) (hn : n ≤ 1048576) :
    Calls Tryz.prog 58 #[.slice a n cap, .slice a' m cap'] w fun e w' => e = .returned (.bool (sameI n m I J)) ∧ Below w.heap.size w w' := by
  have HP : Hid (IsNs w a n I) := hp
  have HQ : Hid (IsNs w a' m J) := hq
  clear hp hq
  by_cases hnm : n = m
  · subst hnm
    go_enter Tryz.func58, Tryz.ntmps58
    go_wp2_with fail
    go_loopw [5] (fun i wr => ∃ k : Nat, k ≤ n ∧ i = .int .i64 (k : Int) ∧ (∀ j, j < k → I j = J j) ∧ Below w.heap.size w wr) (fun i _ => n - (intOf i).toNat)
    case atStart => exact ⟨0, by omega, rfl, fun j hj => absurd hj (Nat.not_lt_zero _), Below.refl _ _⟩
    case round =>
      obtain ⟨k, hk, rfl, hno, hB⟩ := hrel
      have HN : Hid (∀ j, j < k → I j = J j) := hno
      have HB : Hid (Below w.heap.size w wr) := hB
      by_cases hlt : k < n
      · rcases HP.out with h0 | ⟨b, off, rfl, hb, hpt⟩
        · omega
        rcases HQ.out with h0 | ⟨b', off', rfl, hb', hpt'⟩
        · omega
        have q0 : wr.cell? ⟨b, off + k, none⟩ = some (.int .i64 (I k)) := (hB.cell (p := ⟨b, off + k, none⟩) hb).trans (hpt k hlt)
        have q1 : wr.cell? ⟨b', off' + k, none⟩ = some (.int .i64 (J k)) := (hB.cell (p := ⟨b', off' + k, none⟩) hb').trans (hpt' k hlt)
        have hi : (k : Int) < (n : Int) := by omega
        have hi0 : (0 : Int) ≤ (k : Int) := by omega
        clear hno hB hpt hpt'
        by_cases hE : I k = J k
        · have HN2 : Hid (∀ j, j < k + 1 → I j = J j) := fun j hj => by
            by_cases e : j = k
            · rw [e]; exact hE
            · exact HN.out j (by omega)
          rw [hE] at q0
          clear hE
          generalize J k = v at *
          go_wp2_with fail
          go_quiet (fail)
          go_wp2_with fail
          exact ⟨⟨k + 1, by omega, by simp, HN2.out, below_drewN HB.out _⟩, by simp [intOf]; omega⟩
        · have HY : Hid (sameI n n I J = false) := sameI_no hlt hE
          generalize I k = u at *
          generalize J k = v at *
          have hcb : (u == v) = false := by simpa using hE
          go_wp2_with fail
          go_quiet (fail)
          go_wp2
          go_ret
          exact ⟨ret_bool HY.out.symm, below_drewN HB.out _⟩
      · obtain rfl : n = k := by omega
        have HY : Hid (sameI n n I J = true) := sameI_yes HN.out
        go_wp2
        go_ret
        exact ⟨ret_bool HY.out.symm, HB.out⟩
  · have HY : Hid (sameI n m I J = false) := sameI_len hnm
    have hne : ((n : Int) == (m : Int)) = false := by simp; omega
    have hne2 : ¬ ((n : Int) = (m : Int)) := by omega
    go_enter Tryz.func58, Tryz.ntmps58
    go_wp2
    go_ret
    exact ⟨ret_bool HY.out.symm, Below.refl _ _⟩
/-- A kept tile is of a ref. -/
def isK (e : Kp) (z x y : Int) : Bool := (e.z == z) && ((e.x == x) && (e.y == y))
/-- Where in a cache a ref is. -/
def atK (n : Nat) (K : Nat → Kp) (z x y : Int) : Int := firstI (fun i => isK (K i) z x y) n
/-- Three cells: a ref. -/
def RK (w : World) (p : Nat) (z x y : Int) : Prop := w.cell? ⟨p, 0, none⟩ = some (.int .i64 z) ∧ w.cell? ⟨p, 1, none⟩ = some (.int .i64 x) ∧ w.cell? ⟨p, 2, none⟩ = some (.int .i64 y)
theorem RK.below {w w' : World} {p : Nat} {z x y : Int} (h : RK w p z x y) (hb : Below w.heap.size w w') : RK w' p z x y :=
  have hl := World.block_lt_of_cell? _ _ h.1
  ⟨(hb.cell (p := ⟨p, 0, none⟩) hl).trans h.1, (hb.cell (p := ⟨p, 1, none⟩) hl).trans h.2.1, (hb.cell (p := ⟨p, 2, none⟩) hl).trans h.2.2⟩
/-- Two cells: a cache. -/
def CaA (w : World) (q : Nat) (s : Int) (v : Value) : Prop := w.cell? ⟨q, 0, none⟩ = some (.int .i64 s) ∧ w.cell? ⟨q, 1, none⟩ = some v
theorem CaA.below {w w' : World} {q : Nat} {s : Int} {v : Value} (h : CaA w q s v) (hb : Below w.heap.size w w') : CaA w' q s v :=
  have hl := World.block_lt_of_cell? _ _ h.1
  ⟨(hb.cell (p := ⟨q, 0, none⟩) hl).trans h.1, (hb.cell (p := ⟨q, 1, none⟩) hl).trans h.2⟩
set_option maxHeartbeats 4000000 in
theorem l11At_any (q : Nat) (s : Int) (a : Option Addr) (n cap : Nat) (K : Nat → Kp) (z x y : Int) (w : World) (hc : CaA w q s (.slice a n cap)) (hp : IsKs w a n K) (hn : n ≤ 1048576) :
    Calls Tryz.prog 50 #[.pointer (some ⟨q, 0, none⟩), refV z x y] w fun e w' => e = .returned (.int .i64 (atK n K z x y)) ∧ Below w.heap.size w w' := by
  have HP : Hid (IsKs w a n K) := hp
  have HC : Hid (CaA w q s (.slice a n cap)) := hc
  clear hp hc
  go_enter Tryz.func50, Tryz.ntmps50
  go_wp2_with fail
  generalize hW : (w.alloc _ : World) = W
  have HB0 : Hid (Below w.heap.size w W) := by show Below _ _ _; subst hW; (repeat (first | exact Below.refl _ _ | assumption | refine Below.drew ?_ | refine bl_alloc ?_ _ | refine bl_then ?_ (by assumption) | refine Below.setCell ?_ (by first | omega | (simp; done) | (simp; omega)) _ | refine bl_store ?_ ?_ _ _))
  have HR : Hid (RK W w.heap.size z x y) := by show RK _ _ _ _ _; subst hW; exact ⟨by simp [go_sem], by simp [go_sem], by simp [go_sem]⟩
  clear hW
  go_loopw [5] (fun i wr => ∃ k : Nat, k ≤ n ∧ i = .int .i64 (k : Int) ∧ (∀ j, j < k → isK (K j) z x y = false) ∧ Below W.heap.size W wr) (fun i _ => n - (intOf i).toNat)
  case atStart => exact ⟨0, by omega, rfl, fun j hj => absurd hj (Nat.not_lt_zero _), Below.refl _ _⟩
  case round =>
    obtain ⟨k, hk, rfl, hno, hB⟩ := hrel
    have HN : Hid (∀ j, j < k → isK (K j) z x y = false) := hno
    have HB : Hid (Below W.heap.size W wr) := hB
    obtain ⟨m0, m1⟩ := HC.out.below (bl_then HB0.out hB)
    by_cases hlt : k < n
    · rcases HP.out with h0 | ⟨b, off, rfl, hb, hpt⟩
      · omega
      obtain ⟨q0, q1, q2, q3, q4⟩ := ((hpt.below (bl_then HB0.out hB) hb) k hlt).1
      obtain ⟨p0, p1, p2⟩ := HR.out.below hB
      have hi : (k : Int) < (n : Int) := by omega
      have hi0 : (0 : Int) ≤ (k : Int) := by omega
      have heq := fun w => eql_ref (K k).z (K k).x (K k).y z x y w
      clear hno hB hpt
      have hE0 : ((K k).z == z && ((K k).x == x && (K k).y == y)) = isK (K k) z x y := rfl
      simp only [hE0] at heq
      clear hE0
      cases hE : isK (K k) z x y
      · simp only [hE] at heq
        have HN2 : Hid (∀ j, j < k + 1 → isK (K j) z x y = false) := fun j hj => by
          by_cases e : j = k
          · rw [e]; exact hE
          · exact HN.out j (by omega)
        clear hE
        generalize (K k).z = rz at *
        generalize (K k).x = rx at *
        generalize (K k).y = ry at *
        go_wp2_with fail
        go_quiet (fail)
        go_wp2_with fail
        exact ⟨⟨k + 1, by omega, by simp, HN2.out, below_drewN HB.out _⟩, by simp [intOf]; omega⟩
      · simp only [hE] at heq
        have HY : Hid (atK n K z x y = (k : Int)) := firstI_yes (G := fun i => isK (K i) z x y) hlt hE HN.out
        clear hE
        generalize (K k).z = rz at *
        generalize (K k).x = rx at *
        generalize (K k).y = ry at *
        go_wp2_with fail
        go_quiet (fail)
        go_wp2
        go_ret
        exact ⟨ret_int HY.out.symm, below_drewN (bl_then HB0.out HB.out) _⟩
    · obtain rfl : n = k := by omega
      have HY : Hid (atK n K z x y = -1) := firstI_no (G := fun i => isK (K i) z x y) HN.out
      go_wp2
      go_ret
      exact ⟨ret_int HY.out.symm, bl_then HB0.out HB.out⟩
end Go.Proofs.YthidgolnajggpaaGreat
