/- Several texts in one. -/
import Derived.Test.YtciidkmonfmipaaGreatVTakeTile24
import Derived.Test.YtciidkmonfmipaaGreatVTakeTile25
import Derived.Test.YtciidkmonfmipaaGreatVTakeTile18
import Derived.BigQuiet

/- Two lists of numbers compared by the model; where in a cache a ref is. -/

namespace Go.Proofs.YtciidkmonfmipaaGreat
open Go.RowKit
set_option linter.unusedSimpArgs false
set_option linter.unusedVariables false
set_option maxRecDepth 100000

/-- Two lists of numbers are the same. -/
def sameI (n m : Nat) (I J : Nat → Int) : Bool := decide (n = m) && decide (∀ i, i < n → I i = J i)
theorem sameI_len {n m : Nat} {I J : Nat → Int} (h : n ≠ m) : sameI n m I J = false := by simp [sameI, h]
theorem sameI_yes {n : Nat} {I J : Nat → Int} (h : ∀ i, i < n → I i = J i) : sameI n n I J = true := by simp [sameI]; exact h
theorem sameI_no {n m k : Nat} {I J : Nat → Int} (hk : k < n) (h : I k ≠ J k) : sameI n m I J = false := by
  unfold sameI
  rw [decide_eq_false (p := ∀ i, i < n → I i = J i) (fun h' => h (h' k hk))]; simp
set_option maxHeartbeats 4000000 in
theorem l11Same_any (a a' : Option Addr) (n m cap cap' : Nat) (I J : Nat → Int) (w : World) (hp : IsNs w a n I) (hq : IsNs w a' m J) (hn : n ≤ 1048576) :
    Calls Tryz.prog 50 #[.slice a n cap, .slice a' m cap'] w fun e w' => e = .returned (.bool (sameI n m I J)) ∧ Below w.heap.size w w' := by
  have HP : Hid (IsNs w a n I) := hp
  have HQ : Hid (IsNs w a' m J) := hq
  clear hp hq
  by_cases hnm : n = m
  · subst hnm
    go_enter Tryz.func50, Tryz.ntmps50
    go_wp2_with fail
    go_loopw [5] (fun i wr => ∃ k : Nat, k ≤ n ∧ i = .int .i64 (k : Int) ∧ (∀ j, j < k → I j = J j) ∧ Below w.heap.size w wr) (fun i _ => n - (intOf i).toNat)
    case atStart => exact ⟨0, by omega, rfl, fun j hj => absurd hj (Nat.not_lt_zero _), Below.refl _ _⟩
    case round =>
      obtain ⟨k, hk, rfl, hno, hB⟩ := hrel
      have HN : Hid (∀ j, j < k → I j = J j) := hno
      have HB : Hid (Below w.heap.size w wr) := hB
      by_cases hlt : k < n
      · rcases HP.out with h0 | ⟨b, off, rfl, hb, hpt⟩
        · omega
        rcases HQ.out with h0 | ⟨b', off', rfl, hb', hpt'⟩
        · omega
        have q0 : wr.cell? ⟨b, off + k, none⟩ = some (.int .i64 (I k)) := (hB.cell (p := ⟨b, off + k, none⟩) hb).trans (hpt k hlt)
        have q1 : wr.cell? ⟨b', off' + k, none⟩ = some (.int .i64 (J k)) := (hB.cell (p := ⟨b', off' + k, none⟩) hb').trans (hpt' k hlt)
        have hi : (k : Int) < (n : Int) := by omega
        have hi0 : (0 : Int) ≤ (k : Int) := by omega
        clear hno hB hpt hpt'
        by_cases hE : I k = J k
        · have HN2 : Hid (∀ j, j < k + 1 → I j = J j) := fun j hj => by
            by_cases e : j = k
            · rw [e]; exact hE
            · exact HN.out j (by omega)
          rw [hE] at q0
          clear hE
          generalize J k = v at *
          go_wp2_with fail
          go_quiet (fail)
          go_wp2_with fail
          exact ⟨⟨k + 1, by omega, by simp, HN2.out, below_drewN HB.out _⟩, by simp [intOf]; omega⟩
        · have HY : Hid (sameI n n I J = false) := sameI_no hlt hE
          generalize I k = u at *
          generalize J k = v at *
          have hcb : (u == v) = false := by simpa using hE
          go_wp2_with fail
          go_quiet (fail)
          go_wp2
          go_ret
          exact ⟨ret_bool HY.out.symm, below_drewN HB.out _⟩
      · obtain rfl : n = k := by omega
        have HY : Hid (sameI n n I J = true) := sameI_yes HN.out
        go_wp2
        go_ret
        exact ⟨ret_bool HY.out.symm, HB.out⟩
  · have HY : Hid (sameI n m I J = false) := sameI_len hnm
    have hne : ((n : Int) == (m : Int)) = false := by simp; omega
    have hne2 : ¬ ((n : Int) = (m : Int)) := by omega
    go_enter Tryz.func50, Tryz.ntmps50
    go_wp2
    go_ret
    exact ⟨ret_bool HY.out.symm, Below.refl _ _⟩
/-- A kept tile is of a ref. -/
def isK (e : Kp) (z x y : Int) : Bool := (e.z == z) && ((e.x == x) && (e.y == y))
/-- Where in a cache a ref is. -/
def atK (n : Nat) (K : Nat → Kp) (z x y : Int) : Int := firstI (fun i => isK (K i) z x y) n
/-- Three cells: a ref. -/
def RK (w : World) (p : Nat) (z x y : Int) : Prop := w.cell? ⟨p, 0, none⟩ = some (.int .i64 z) ∧ w.cell? ⟨p, 1, none⟩ = some (.int .i64 x) ∧ w.cell? ⟨p, 2, none⟩ = some (.int .i64 y)
theorem RK.below {w w' : World} {p : Nat} {z x y : Int} (h : RK w p z x y) (hb : Below w.heap.size w w') : RK w' p z x y :=
  have hl := World.block_lt_of_cell? _ _ h.1
  ⟨(hb.cell (p := ⟨p, 0, none⟩) hl).trans h.1, (hb.cell (p := ⟨p, 1, none⟩) hl).trans h.2.1, (hb.cell (p := ⟨p, 2, none⟩) hl).trans h.2.2⟩
/-- Two cells: a cache. -/
def CaA (w : World) (q : Nat) (s : Int) (v : Value) : Prop := w.cell? ⟨q, 0, none⟩ = some (.int .i64 s) ∧ w.cell? ⟨q, 1, none⟩ = some v
theorem CaA.below {w w' : World} {q : Nat} {s : Int} {v : Value} (h : CaA w q s v) (hb : Below w.heap.size w w') : CaA w' q s v :=
  have hl := World.block_lt_of_cell? _ _ h.1
  ⟨(hb.cell (p := ⟨q, 0, none⟩) hl).trans h.1, (hb.cell (p := ⟨q, 1, none⟩) hl).trans h.2⟩
set_option maxHeartbeats 4000000 in
theorem l11At_any (q : Nat) (s : Int) (a : Option Addr) (n cap : Nat) (K : Nat → Kp) (z x y : Int) (w : World) (hc : CaA w q s (.slice a n cap)) (hp : IsKs w a n K) (hn : n ≤ 1048576) :
    Calls Tryz.prog 41 #[.pointer (some ⟨q, 0, none⟩), refV z x y] w fun e w' => e = .returned (.int .i64 (atK n K z x y)) ∧ Below w.heap.size w w' := by
  have HP : Hid (IsKs w a n K) := hp
  have HC : Hid (CaA w q s (.slice a n cap)) := hc
  clear hp hc
  go_enter Tryz.func41, Tryz.ntmps41
  go_wp2_with fail
  generalize hW : (w.alloc _ : World) = W
  have HB0 : Hid (Below w.heap.size w W) := by show Below _ _ _; subst hW; (repeat (first | exact Below.refl _ _ | assumption | refine Below.drew ?_ | refine bl_alloc ?_ _ | refine bl_then ?_ (by assumption) | refine Below.setCell ?_ (by first | omega | (simp; done) | (simp; omega)) _ | refine bl_store ?_ ?_ _ _))
  have HR : Hid (RK W w.heap.size z x y) := by show RK _ _ _ _ _; subst hW; exact ⟨by simp [go_sem], by simp [go_sem], by simp [go_sem]⟩
  clear hW
  go_loopw [5] (fun i wr => ∃ k : Nat, k ≤ n ∧ i = .int .i64 (k : Int) ∧ (∀ j, j < k → isK (K j) z x y = false) ∧ Below W.heap.size W wr) (fun i _ => n - (intOf i).toNat)
  case atStart => exact ⟨0, by omega, rfl, fun j hj => absurd hj (Nat.not_lt_zero _), Below.refl _ _⟩
  case round =>
    obtain ⟨k, hk, rfl, hno, hB⟩ := hrel
    have HN : Hid (∀ j, j < k → isK (K j) z x y = false) := hno
    have HB : Hid (Below W.heap.size W wr) := hB
    obtain ⟨m0, m1⟩ := HC.out.below (bl_then HB0.out hB)
    by_cases hlt : k < n
    · rcases HP.out with h0 | ⟨b, off, rfl, hb, hpt⟩
      · omega
      obtain ⟨q0, q1, q2, q3, q4⟩ := ((hpt.below (bl_then HB0.out hB) hb) k hlt).1
      obtain ⟨p0, p1, p2⟩ := HR.out.below hB
      have hi : (k : Int) < (n : Int) := by omega
      have hi0 : (0 : Int) ≤ (k : Int) := by omega
      have heq := fun w => eql_ref (K k).z (K k).x (K k).y z x y w
      clear hno hB hpt
      have hE0 : ((K k).z == z && ((K k).x == x && (K k).y == y)) = isK (K k) z x y := rfl
      simp only [hE0] at heq
      clear hE0
      cases hE : isK (K k) z x y
      · simp only [hE] at heq
        have HN2 : Hid (∀ j, j < k + 1 → isK (K j) z x y = false) := fun j hj => by
          by_cases e : j = k
          · rw [e]; exact hE
          · exact HN.out j (by omega)
        clear hE
        generalize (K k).z = rz at *
        generalize (K k).x = rx at *
        generalize (K k).y = ry at *
        go_wp2_with fail
        go_quiet (fail)
        go_wp2_with fail
        exact ⟨⟨k + 1, by omega, by simp, HN2.out, below_drewN HB.out _⟩, by simp [intOf]; omega⟩
      · simp only [hE] at heq
        have HY : Hid (atK n K z x y = (k : Int)) := firstI_yes (G := fun i => isK (K i) z x y) hlt hE HN.out
        clear hE
        generalize (K k).z = rz at *
        generalize (K k).x = rx at *
        generalize (K k).y = ry at *
        go_wp2_with fail
        go_quiet (fail)
        go_wp2
        go_ret
        exact ⟨ret_int HY.out.symm, below_drewN (bl_then HB0.out HB.out) _⟩
    · obtain rfl : n = k := by omega
      have HY : Hid (atK n K z x y = -1) := firstI_no (G := fun i => isK (K i) z x y) HN.out
      go_wp2
      go_ret
      exact ⟨ret_int HY.out.symm, bl_then HB0.out HB.out⟩
end Go.Proofs.YtciidkmonfmipaaGreat
/- The fault of a cache: the model. -/

namespace Go.Proofs.YtciidkmonfmipaaGreat
open Go.RowKit
set_option linter.unusedSimpArgs false
set_option linter.unusedVariables false
set_option maxRecDepth 100000

/-- The code of a kept tile by itself. -/
noncomputable def tC (k : Kp) : Int := if rtC k.z k.x k.y k.fn k.F = 0 then (if sameI k.m (rtL k.z k.x k.y k.fn k.F).length k.I (nz (rtL k.z k.x k.y k.fn k.F)) = true then 0 else 8) else rtC k.z k.x k.y k.fn k.F
/-- The code of one behind those ahead of it. -/
noncomputable def kC (K : Nat → Kp) (i : Nat) : Int := if tC (K i) = 0 then (if 0 ≤ atK i K (K i).z (K i).x (K i).y then 6 else 0) else tC (K i)
/-- What is not right of a cache. -/
noncomputable def cacheC (s : Int) (n : Nat) (K : Nat → Kp) : Int := if inB s 1 10 = true then (if s < (n : Int) then 2 else scanC (kC K) 0 n) else 3
theorem tC_ras {k : Kp} (h : rtC k.z k.x k.y k.fn k.F ≠ 0) : tC k = rtC k.z k.x k.y k.fn k.F := by unfold tC; rw [if_neg h]
theorem tC_state {k : Kp} (h : rtC k.z k.x k.y k.fn k.F = 0) (h2 : sameI k.m (rtL k.z k.x k.y k.fn k.F).length k.I (nz (rtL k.z k.x k.y k.fn k.F)) = false) : tC k = 8 := by unfold tC; rw [if_pos h, h2]; rfl
theorem tC_ok {k : Kp} (h : rtC k.z k.x k.y k.fn k.F = 0) (h2 : sameI k.m (rtL k.z k.x k.y k.fn k.F).length k.I (nz (rtL k.z k.x k.y k.fn k.F)) = true) : tC k = 0 := by unfold tC; rw [if_pos h, h2]; rfl
theorem kC_bad {K : Nat → Kp} {i : Nat} (h : tC (K i) ≠ 0) : kC K i = tC (K i) := by unfold kC; rw [if_neg h]
theorem kC_ok {K : Nat → Kp} {i : Nat} (h : tC (K i) = 0) (h2 : atK i K (K i).z (K i).x (K i).y = -1) : kC K i = 0 := by unfold kC; rw [if_pos h, h2]; rfl
theorem kC_taken {K : Nat → Kp} {i : Nat} (h : tC (K i) = 0) (h2 : 0 ≤ atK i K (K i).z (K i).x (K i).y) : kC K i = 6 := by unfold kC; rw [if_pos h, if_pos h2]
theorem isK_self (e : Kp) : isK e e.z e.x e.y = true := by simp [isK]
theorem atK_self {n k : Nat} {K : Nat → Kp} (hk : k < n) : (atK k K (K k).z (K k).x (K k).y = -1 ∧ atK n K (K k).z (K k).x (K k).y = (k : Int)) ∨ (0 ≤ atK k K (K k).z (K k).x (K k).y ∧ ∃ i : Nat, i < k ∧ atK n K (K k).z (K k).x (K k).y = (i : Int)) := by
  unfold atK
  rcases firstI_or (fun i => isK (K i) (K k).z (K k).x (K k).y) k with ⟨h1, h2⟩ | ⟨i, hi, hg, hf, hn⟩
  · exact .inl ⟨h1, firstI_yes hk (isK_self _) h2⟩
  · exact .inr ⟨by rw [hf]; omega, i, hi, firstI_yes (by omega) hg hn⟩
/-- Kept tiles whose features lie from the start of a block. -/
def KoAt (w : World) (b n : Nat) (A : Nat → Kp) : Prop := b < w.heap.size ∧ ∀ i, i < n → KpAt w b (i * 5) (A i) ∧ (∃ fb, (A i).fa = some ⟨fb, 0, none⟩ ∧ fb < w.heap.size ∧ FsAt w fb 0 (A i).fn (A i).F) ∧ IsNs w (A i).ia (A i).m (A i).I
theorem KoAt.below {w w' : World} {b n : Nat} {A : Nat → Kp} (h : KoAt w b n A) (hb : Below w.heap.size w w') : KoAt w' b n A :=
  ⟨Nat.lt_of_lt_of_le h.1 hb.size, fun i hi => by
    obtain ⟨h1, ⟨fb, e1, e2, e3⟩, h3⟩ := h.2 i hi
    exact ⟨h1.below hb h.1, ⟨fb, e1, Nat.lt_of_lt_of_le e2 hb.size, e3.below hb e2⟩, h3.below hb⟩⟩
theorem KoAt.is {w : World} {b n : Nat} {A : Nat → Kp} (h : KoAt w b n A) : IsKs w (some ⟨b, 0, none⟩) n A :=
  .inr ⟨b, 0, rfl, h.1, fun i hi => by
    obtain ⟨h1, ⟨fb, e1, e2, e3⟩, h3⟩ := h.2 i hi
    exact ⟨by rw [Nat.zero_add]; exact h1, .inr ⟨fb, 0, e1, e2, e3⟩, h3⟩⟩
theorem OwnKs.ko {w : World} {B b n : Nat} {K A : Nat → Kp} (h : OwnKs w B b n K A) : KoAt w b n A :=
  ⟨h.2.1, fun i hi => by
    obtain ⟨h1, h2⟩ := h.2.2 i hi
    have h3 := h2.is.2
    obtain ⟨_, ⟨fb, e1, e2, e3, ho⟩, _⟩ := h2
    exact ⟨h1, ⟨fb, e1, ho.2.1, by rw [e2]; exact ho.2.2.1⟩, h3⟩⟩
set_option maxHeartbeats 8000000 in
theorem l11Fault_any (q : Nat) (s : Int) (b n cap : Nat) (A : Nat → Kp) (w : World) (hc : CaA w q s (.slice (some ⟨b, 0, none⟩) n cap)) (ha : KoAt w b n A) (hs : SmallKs n A) :
    Calls Tryz.prog 26 #[.pointer (some ⟨q, 0, none⟩)] w fun e w' => e = .returned (.int .i64 (cacheC s n A)) ∧ Below w.heap.size w w' := by
  have HA : Hid (KoAt w b n A) := ha
  have HC : Hid (CaA w q s (.slice (some ⟨b, 0, none⟩) n cap)) := hc
  have HS : Hid (SmallKs n A) := hs
  have hn : n ≤ 1048576 := hs.1
  obtain ⟨p0, p1⟩ := hc
  clear ha hs
  cases hin : inB s 1 10
  · have hz : Hid (cacheC s n A = 3) := by show _ = _; unfold cacheC; rw [hin]; rfl
    go_enter Tryz.func26, Tryz.ntmps26
    go_wp2_with (go_at_call 49; refine (l1In_any _ _ _ _).mono ?_; rintro e w' ⟨rfl, h'⟩; subst w')
    go_ret
    exact ⟨ret_int hz.out.symm, by (repeat (first | exact Below.refl _ _ | assumption | refine Below.drew ?_ | refine bl_alloc ?_ _ | refine bl_then ?_ (by assumption) | refine Below.setCell ?_ (by first | omega | (simp; done) | (simp; omega)) _ | refine bl_store ?_ ?_ _ _))⟩
  by_cases hsn : s < (n : Int)
  · have hz : Hid (cacheC s n A = 2) := by show _ = _; unfold cacheC; rw [if_pos hin, if_pos hsn]
    have hw : IntKind.i64.wrap (n : Int) = (n : Int) := IntWalk.i64_in _ (by omega)
    go_enter Tryz.func26, Tryz.ntmps26
    go_wp2_with (go_at_call 49; refine (l1In_any _ _ _ _).mono ?_; rintro e w' ⟨rfl, h'⟩; subst w')
    go_quiet (fail)
    go_wp2
    go_ret
    exact ⟨ret_int hz.out.symm, below_drewN (Below.refl _ _) _⟩
  · have hz : Hid (cacheC s n A = scanC (kC A) 0 n) := by show _ = _; unfold cacheC; rw [if_pos hin, if_neg hsn]
    have hw : IntKind.i64.wrap (n : Int) = (n : Int) := IntWalk.i64_in _ (by omega)
    go_enter Tryz.func26, Tryz.ntmps26
    go_wp2_with (go_at_call 49; refine (l1In_any _ _ _ _).mono ?_; rintro e w' ⟨rfl, h'⟩; subst w')
    go_quiet (fail)
    go_wp2_with fail
    go_loopw [3] (fun v wr => ∃ k : Nat, k ≤ n ∧ v = .int .i64 k ∧ (∀ j, j < k → kC A j = 0) ∧ Below w.heap.size w wr) (fun v _ => n - (intOf v).toNat)
    case atStart => exact ⟨0, by omega, rfl, by omega, below_drewN (Below.refl _ _) _⟩
    case round =>
      obtain ⟨k, hk, rfl, hA, hB⟩ := hrel
      have HB : Hid (Below w.heap.size w wr) := hB
      have HZ : Hid (∀ j, j < k → kC A j = 0) := hA
      obtain ⟨m0, m1⟩ := HC.out.below hB
      clear p0 p1 hA
      by_cases hlt : k < n
      · have HLT : Hid (k < n) := hlt
        have first : Hid (∀ c, kC A k = c → c ≠ 0 → cacheC s n A = c) := fun c hc h0 => by
          rw [hz.out, scan_first (kC A) n 0 k (fun j _ hj => HZ.out j hj) (by omega) (by have := HLT.out; omega) (by rw [hc]; exact h0), hc]
        have HOK : Hid (kC A k = 0 → ∀ j, j < k + 1 → kC A j = 0) := fun h0 j hj => by
          by_cases e : j = k
          · rw [e]; exact h0
          · exact HZ.out j (by omega)
        have HR : Hid (KoAt wr b n A) := HA.out.below hB
        obtain ⟨⟨q0, q1, q2, q3, q4⟩, ⟨fb, ef, hfl, hft⟩, hids⟩ := HR.out.2 k hlt
        rw [ef] at q3
        have HL8 : Hid (Calls Tryz.prog 27 #[.pointer (some ⟨b, k * 5, none⟩)] wr fun e w' => e = .returned (.int .i64 (rtC (A k).z (A k).x (A k).y (A k).fn (A k).F)) ∧ Below wr.heap.size wr w') :=
          l8Tile_off b (k * 5) _ _ _ fb (A k).fn (A k).fc (A k).F wr ⟨q0, q1, q2, q3⟩ hft hfl (HS.out.2 k hlt).1
        have hi : (k : Int) < (n : Int) := by omega
        have hi0 : (0 : Int) ≤ (k : Int) := by omega
        clear hB hft hids
        by_cases hC : rtC (A k).z (A k).x (A k).y (A k).fn (A k).F = 0
        · rw [hC] at HL8
          go_wp2_with fail
          refine HL8.out.mono ?_
          rintro e w1 ⟨rfl, hb1⟩
          have HB1 : Hid (Below w.heap.size w w1) := bl_then HB.out hb1
          have HR1 : Hid (KoAt w1 b n A) := HR.out.below hb1
          have hC0 : Hid (rtC (A k).z (A k).x (A k).y (A k).fn (A k).F = 0) := hC
          have HRas : Hid (∀ W, Below w1.heap.size w1 W → Calls Tryz.prog 51 #[.pointer (some ⟨b, k * 5, none⟩)] W fun e w' => ∃ v, e = .returned v ∧ RowN W.heap.size w' v (rtL (A k).z (A k).x (A k).y (A k).fn (A k).F) ∧ Below W.heap.size W w') := fun W hW => by
            obtain ⟨hr, hf, _⟩ := rtC_zero hC0.out
            obtain ⟨h12, hok⟩ := feats_okF hf
            obtain ⟨⟨r0, r1, r2, r3, r4⟩, ⟨gb, eg, hgl, hgt⟩, _⟩ := (HR1.out.below hW).2 k HLT.out
            rw [eg] at r3
            rw [show rtL (A k).z (A k).x (A k).y (A k).fn (A k).F = _ from if_pos hC0.out]
            exact l8Raster_off b (k * 5) _ _ _ gb (A k).fn (A k).fc (A k).F W ⟨r0, r1, r2, r3⟩ hgt hgl h12 hok hr
          obtain ⟨B, hBB0⟩ : ∃ B, sameI (A k).m (rtL (A k).z (A k).x (A k).y (A k).fn (A k).F).length (A k).I (nz (rtL (A k).z (A k).x (A k).y (A k).fn (A k).F)) = B := ⟨_, rfl⟩
          have hBB : Hid (sameI (A k).m (rtL (A k).z (A k).x (A k).y (A k).fn (A k).F).length (A k).I (nz (rtL (A k).z (A k).x (A k).y (A k).fn (A k).F)) = B) := hBB0
          have HSm : Hid (∀ W, Below w1.heap.size w1 W → ∀ va vc, IsNs W va (rtL (A k).z (A k).x (A k).y (A k).fn (A k).F).length (nz (rtL (A k).z (A k).x (A k).y (A k).fn (A k).F)) → Calls Tryz.prog 50 #[.slice (A k).ia (A k).m (A k).ic, .slice va (rtL (A k).z (A k).x (A k).y (A k).fn (A k).F).length vc] W fun e w' => e = .returned (.bool B) ∧ Below W.heap.size W w') := fun W hW va vc hv => by
            rw [← hBB.out]
            exact l11Same_any _ va _ _ _ vc _ _ W ((HR1.out.below hW).2 k HLT.out).2.2 hv (HS.out.2 k HLT.out).2
          have d4 : ∀ W, Below w1.heap.size w1 W → W.cell? ⟨b, k * 5 + 4, none⟩ = some (.slice (A k).ia (A k).m (A k).ic) := fun W hW => ((HR1.out.below hW).2 k HLT.out).1.2.2.2.2
          clear q0 q1 q2 q3 q4 m0 m1 hC hBB0 HL8 hb1
          go_wp2_with fail
          refine wp_region_noPanic ?_
          refine wp_region_held_drew (S := fun W' => Below w1.heap.size w1 W') (by kernel_rfl) (by have := Below.refl w1.heap.size w1; (repeat (first | exact Below.refl _ _ | assumption | refine Below.drew ?_ | refine bl_alloc ?_ _ | refine bl_then ?_ (by assumption) | refine Below.setCell ?_ (by first | omega | (simp; done) | (simp; omega)) _ | refine bl_store ?_ ?_ _ _))) (fun hHeld => ?_)
          have hSd : Below w1.heap.size w1 w1.drew := hHeld
          refine takeD (i := 0) (d := some 44) (v := ?vr0) rfl rfl (by kernel_rfl) (by kernel_rfl) (by kernel_rfl) (fun _ _ _ h => h) (Or.inl ⟨by rfl, ?hyr0⟩) hSd ?_
          case hyr0 => (intro w hSw; (try dsimp only at hSw); go_simp <;> with_reducible rfl)
          try simp only [Act.put, List.setIfInBounds_toArray, List.set_cons_zero, List.set_cons_succ]
          refine takeD (i := 1) (d := some 45) (v := ?vr1) rfl rfl (by kernel_rfl) (by kernel_rfl) (by kernel_rfl) (fun _ _ _ h => h) (Or.inl ⟨by rfl, ?hyr1⟩) hSd ?_
          case hyr1 => (intro w hSw; (try dsimp only at hSw); go_simp <;> with_reducible rfl)
          try simp only [Act.put, List.setIfInBounds_toArray, List.set_cons_zero, List.set_cons_succ]
          refine takeD (i := 2) (d := some 46) (v := ?vr2) rfl rfl (by kernel_rfl) (by kernel_rfl) (by kernel_rfl) (fun _ _ _ h => h) (Or.inl ⟨by rfl, ?hyr2⟩) hSd ?_
          case hyr2 => (intro w hSw; (try dsimp only at hSw); go_simp <;> with_reducible rfl)
          try simp only [Act.put, List.setIfInBounds_toArray, List.set_cons_zero, List.set_cons_succ]
          refine takeD (i := 3) (d := some 47) (v := ?vr3) rfl rfl (by kernel_rfl) (by kernel_rfl) (by kernel_rfl) (fun _ _ _ h => h) (Or.inl ⟨by rfl, ?hyr3⟩) hSd ?_
          case hyr3 => (intro w hSw; (try dsimp only at hSw); go_simp <;> with_reducible rfl)
          try simp only [Act.put, List.setIfInBounds_toArray, List.set_cons_zero, List.set_cons_succ]
          refine takeD (i := 4) (d := some 48) (v := ?vr4) rfl rfl (by kernel_rfl) (by kernel_rfl) (by kernel_rfl) (fun _ _ _ h => h) (Or.inl ⟨by rfl, ?hyr4⟩) hSd ?_
          case hyr4 => (intro w hSw; (try dsimp only at hSw); go_simp <;> with_reducible rfl)
          try simp only [Act.put, List.setIfInBounds_toArray, List.set_cons_zero, List.set_cons_succ]
          refine takeD (i := 5) (d := some 49) (v := ?vr5) rfl rfl (by kernel_rfl) (by kernel_rfl) (by kernel_rfl) (fun _ _ _ h => h) (Or.inl ⟨by rfl, ?hyr5⟩) hSd ?_
          case hyr5 => (intro w hSw; (try dsimp only at hSw); go_simp <;> with_reducible rfl)
          try simp only [Act.put, List.setIfInBounds_toArray, List.set_cons_zero, List.set_cons_succ]
          refine takeD (i := 6) (d := some 50) (v := ?vr6) rfl rfl (by kernel_rfl) (by kernel_rfl) (by kernel_rfl) (fun _ _ _ h => h) (Or.inl ⟨by rfl, ?hyr6⟩) hSd ?_
          case hyr6 => (intro w hSw; (try dsimp only at hSw); go_simp <;> with_reducible rfl)
          try simp only [Act.put, List.setIfInBounds_toArray, List.set_cons_zero, List.set_cons_succ]
          refine wpAnyH_ready (rs := [7]) (by kernel_rfl) (by simp) ?_
          refine (AllReadyH.cons rfl (fun K hK => ?_) AllReadyH.nil)
          rw [if_pos (by rfl)]
          go_simp
          refine Calls.mono (HRas.out _ hSd) ?_
          rintro e wB ⟨v, rfl, hrow, hbB⟩
          have hSB : Below w1.heap.size w1 wB := bl_then hSd hbB
          obtain ⟨va, vc, rfl, hvc, hvn⟩ := hrow.own.pts
          have HSm2 := (show Hid _ from HSm.out wB hSB va vc hvn)
          clear hrow hvn hvc
          go_wp2_with fail
          refine hK.out _ _ hSB (fun hHeld => ?_)
          clear hK K hbB
          try simp only [Act.put, List.setIfInBounds_toArray, List.set_cons_zero, List.set_cons_succ]
          refine wpAnyH_ready (rs := [8]) (by kernel_rfl) (by simp) ?_
          refine (AllReadyH.cons rfl (fun K hK => ?_) AllReadyH.nil)
          rw [if_pos (by rfl)]
          go_simp
          refine Calls.mono HSm2.out ?_
          rintro e wC ⟨rfl, hbC⟩
          have hSC : Below w1.heap.size w1 wC := bl_then hSB hbC
          go_wp2_with fail
          refine hK.out _ _ hSC (fun hHeld => ?_)
          clear hK K hbC HSm2
          try simp only [Act.put, List.setIfInBounds_toArray, List.set_cons_zero, List.set_cons_succ]
          refine takeD (i := 9) (d := some 53) (v := ?vs9) rfl rfl (by kernel_rfl) (by kernel_rfl) (by kernel_rfl) (fun _ _ _ h => h) (Or.inl ⟨by rfl, ?hys9⟩) hSC ?_
          case hys9 => (intro w hSw; (try dsimp only at hSw); go_simp <;> with_reducible rfl)
          try simp only [Act.put, List.setIfInBounds_toArray, List.set_cons_zero, List.set_cons_succ]
          refine wpAnyH_done (by kernel_rfl) ?_ _
          refine NoPanic.normal ?_
          have HC3 : Hid (Below w.heap.size w wC) := bl_then HB1.out hSC
          have HR3 : Hid (KoAt wC b n A) := HR1.out.below hSC
          clear d4 HRas HSm hSB hSd hSC
          cases B
          · have hsc : Hid (cacheC s n A = 8) := first.out 8 ((kC_bad (by rw [tC_state hC0.out hBB.out]; decide)).trans (tC_state hC0.out hBB.out)) (by decide)
            go_wp2
            go_ret
            exact ⟨ret_int hsc.out.symm, HC3.out⟩
          · have ht0 : Hid (tC (A k) = 0) := tC_ok hC0.out hBB.out
            have HH : Hid (Calls Tryz.prog 41 #[.pointer (some ⟨q, 0, none⟩), refV (A k).z (A k).x (A k).y] wC fun e w' => e = .returned (.int .i64 (atK n A (A k).z (A k).x (A k).y)) ∧ Below wC.heap.size wC w') :=
              l11At_any q s _ n cap A _ _ _ wC (HC.out.below HC3.out) HR3.out.is hn
            obtain ⟨g0, g1, g2, g3, g4⟩ := (HR3.out.2 k HLT.out).1
            clear g3 g4
            rcases atK_self HLT.out with ⟨hq, hq2⟩ | ⟨hq, i, hik, hq2⟩
            · have hok : Hid (kC A k = 0) := kC_ok ht0.out hq
              rw [hq2] at HH
              clear hq hq2
              generalize (A k).z = rz at *
              generalize (A k).x = rx at *
              generalize (A k).y = ry at *
              go_wp2_with (go_at_call 41; refine HH.out.mono ?_; rintro e w' ⟨rfl, hb⟩)
              go_roundw
              case rel => exact ⟨k + 1, by have := HLT.out; omega, by go_num, HOK.out hok.out, bl_then HC3.out (by assumption)⟩
              case measure => have := HLT.out; simp [intOf]; omega
            · have hsc : Hid (cacheC s n A = 6) := first.out 6 (kC_taken ht0.out hq) (by decide)
              have hne : ((i : Int) == (k : Int)) = false := by simp; omega
              rw [hq2] at HH
              clear hq hq2
              generalize (A k).z = rz at *
              generalize (A k).x = rx at *
              generalize (A k).y = ry at *
              generalize (i : Int) = ii at *
              clear hik
              go_wp2_with (go_at_call 41; refine HH.out.mono ?_; rintro e w' ⟨rfl, hb⟩)
              go_ret
              exact ⟨ret_int hsc.out.symm, bl_then HC3.out (by assumption)⟩
        · have hsc : Hid (cacheC s n A = rtC (A k).z (A k).x (A k).y (A k).fn (A k).F) := first.out _ ((kC_bad (by rw [tC_ras hC]; exact hC)).trans (tC_ras hC)) hC
          have hcb : (rtC (A k).z (A k).x (A k).y (A k).fn (A k).F == 0) = false := by simpa using hC
          generalize rtC (A k).z (A k).x (A k).y (A k).fn (A k).F = rc at *
          go_wp2_with fail
          refine HL8.out.mono ?_
          rintro e w1 ⟨rfl, hb1⟩
          go_wp2
          go_ret
          exact ⟨ret_int hsc.out.symm, bl_then HB.out hb1⟩
      · have hsc : Hid (cacheC s n A = 0) := by
          show _ = _
          rw [hz.out]
          exact scan_none _ _ _ (fun j _ hj => HZ.out j (by omega))
        go_wp2
        go_ret
        exact ⟨ret_int hsc.out.symm, HB.out⟩
end Go.Proofs.YtciidkmonfmipaaGreat
/- CacheFault and HasTile of the model. -/

namespace Go.Proofs.YtciidkmonfmipaaGreat
open Go.RowKit
set_option linter.unusedSimpArgs false
set_option linter.unusedVariables false
set_option maxRecDepth 100000

theorem CaA.new (w : World) (s : Int) (v : Value) (t : TypeId) : CaA (w.alloc (.cells #[.int .i64 s, v] t)) w.heap.size s v := by
  refine ⟨?_, ?_⟩ <;> simp [go_sem]
end Go.Proofs.YtciidkmonfmipaaGreat
