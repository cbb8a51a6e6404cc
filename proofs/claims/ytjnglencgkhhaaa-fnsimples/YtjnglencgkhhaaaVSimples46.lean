/- Several texts in one. -/
import Derived.Test.YtjnglencgkhhaaaVSimples45
import Derived.Laws.StructEq

/- Lists of features: their size, whether two are the same, their fault. -/

namespace Go.Proofs.Ytjnglencgkhhaaa
open Go.RowKit
set_option linter.unusedSimpArgs false
set_option linter.unusedVariables false
set_option maxRecDepth 100000

/-- No feature of the list is greater than what may be asked. -/
def SmallFs (n : Nat) (F : Nat → Feat) : Prop := n ≤ 1048576 ∧ ∀ i, i < n → (F i).n ≤ 1048576 ∧ (F i).lab.size ≤ 1048576
/-- What came in: each slice and each text within its bounds. -/
def CameFs (n : Nat) (F : Nat → Feat) : Prop := n ≤ maxLen ∧ ∀ i, i < n → (F i).n ≤ maxLen ∧ (F i).lab.size ≤ maxLen

theorem szF_cases (left n s : Nat) (hl : left ≤ 1048576) : szF left n s = -1 ∨ ∃ m : Nat, szF left n s = (m : Int) ∧ m ≤ left ∧ n ≤ 1048576 ∧ s ≤ 1048576 := by
  unfold szF
  by_cases h : left < n + s
  · left; rw [if_pos h]
  · right; rw [if_neg h]; exact ⟨left - n - s, by omega, by omega, by omega, by omega⟩

set_option maxHeartbeats 4000000 in
theorem l2At_any (b n cap : Nat) (G : Nat → Feat) (i : Nat) (w : World) (hi : i < n) (hg : FsAt w b 0 n G) (hbl : b < w.heap.size) (hn : n ≤ 1048576) :
    Calls Try.prog 52 #[.slice (some ⟨b, 0, none⟩) n cap, .int .i64 (G i).id] w fun e w' => (∃ r : Nat, r ≤ i ∧ (G r).id = (G i).id ∧ (∀ j, j < r → (G j).id ≠ (G i).id) ∧ e = .returned (.int .i64 r)) ∧ Below w.heap.size w w' := by
  have HG : Hid (FsAt w b 0 n G) := hg
  clear hg
  have HI : Hid (i < n) := hi
  clear hi
  generalize hid : (G i).id = t
  have HT : Hid ((G i).id = t) := hid
  clear hid
  go_enter Try.func52, Try.ntmps52
  go_wp2
  go_loopw [5] (fun v wr => ∃ k : Nat, k ≤ i ∧ v = .int .i64 k ∧ (∀ j, j < k → (G j).id ≠ t) ∧ Below w.heap.size w wr) (fun v _ => n - (intOf v).toNat)
  case atStart => exact ⟨0, by omega, rfl, by omega, Below.refl _ _⟩
  case round =>
    obtain ⟨k, hk, rfl, hA, hB⟩ := hrel
    have hlt : k < n := Nat.lt_of_le_of_lt hk HI.out
    have f0 : wr.cell? ⟨b, k * 7, none⟩ = some (.int .i64 (G k).id) := by simpa using ((HG.out.below hB hbl) k hlt).1.1
    have HB : Hid (Below w.heap.size w wr) := hB
    have HA : Hid (∀ j, j < k → (G j).id ≠ t) := hA
    clear hB hA
    have hi : (k : Int) < (n : Int) := by omega
    have hi0 : (0 : Int) ≤ (k : Int) := by omega
    by_cases he : (G k).id = t
    · rw [he] at f0
      go_wp2
      go_ret
      exact ⟨⟨k, hk, he, HA.out, rfl⟩, HB.out⟩
    · have he' : ((G k).id == t) = false := by simpa using he
      have HE : Hid ((G k).id ≠ t) := he
      have hki : k ≠ i := fun e => he (by rw [e]; exact HT.out)
      clear he
      go_wp2
      go_roundw
      case rel => exact ⟨k + 1, by omega, by go_num, fun j hj => by
          by_cases e : j = k
          · rw [e]; exact HE.out
          · exact HA.out j (by omega), HB.out⟩
      case measure => simp [intOf]; omega
set_option maxHeartbeats 4000000 in
theorem hasId_any (b n cap N : Nat) (G : Nat → Feat) (t : Int) (w : World) (hnN : n ≤ N) (hg : FsAt w b 0 N G) (hbl : b < w.heap.size) (hn : n ≤ 1048576) :
    Calls Try.prog 23 #[.slice (some ⟨b, 0, none⟩) n cap, .int .i64 t] w fun e w' => ((e = .returned (.bool true) ∧ ∃ j, j < n ∧ (G j).id = t) ∨ (e = .returned (.bool false) ∧ ∀ j, j < n → (G j).id ≠ t)) ∧ Below w.heap.size w w' := by
  have HG : Hid (FsAt w b 0 N G) := hg
  clear hg
  go_enter Try.func23, Try.ntmps23
  go_wp2
  go_loopw [9] (fun v wr => ∃ k : Nat, k ≤ n ∧ v = .int .i64 k ∧ (∀ j, j < k → (G j).id ≠ t) ∧ Below w.heap.size w wr) (fun v _ => n - (intOf v).toNat)
  case atStart => exact ⟨0, by omega, rfl, by omega, Below.refl _ _⟩
  case round =>
    obtain ⟨k, hk, rfl, hA, hB⟩ := hrel
    have HB : Hid (Below w.heap.size w wr) := hB
    have HA : Hid (∀ j, j < k → (G j).id ≠ t) := hA
    by_cases hlt : k < n
    · obtain ⟨⟨f0, f1, f2, f3, f4, f5, f6⟩, _⟩ := (HG.out.below hB hbl) k (by omega)
      simp only [Nat.zero_add] at f0 f1 f2 f3 f4 f5 f6
      clear hB hA
      have hi : (k : Int) < (n : Int) := by omega
      have hi0 : (0 : Int) ≤ (k : Int) := by omega
      by_cases he : (G k).id = t
      · have he' : ((G k).id == t) = true := by simpa using he
        have HE : Hid ((G k).id = t) := he
        clear he
        go_wp2
        go_ret
        exact ⟨.inl ⟨rfl, k, hlt, HE.out⟩, by have HB' := HB.out; (repeat (first | exact Below.refl _ _ | assumption | refine Below.drew ?_ | refine bl_alloc ?_ _ | refine bl_then ?_ (by assumption) | refine Below.setCell ?_ (by first | omega | (simp; done) | (simp; omega)) _ | refine bl_store ?_ ?_ _ _))⟩
      · have he' : ((G k).id == t) = false := by simpa using he
        have HE : Hid ((G k).id ≠ t) := he
        clear he
        go_wp2
        go_roundw
        case rel => exact ⟨k + 1, by omega, by go_num, fun j hj => by
            by_cases e : j = k
            · rw [e]; exact HE.out
            · exact HA.out j (by omega), by have HB' := HB.out; (repeat (first | exact Below.refl _ _ | assumption | refine Below.drew ?_ | refine bl_alloc ?_ _ | refine bl_then ?_ (by assumption) | refine Below.setCell ?_ (by first | omega | (simp; done) | (simp; omega)) _ | refine bl_store ?_ ?_ _ _))⟩
        case measure => simp [intOf]; omega
    · go_wp2
      go_ret
      exact ⟨.inr ⟨rfl, fun j hj => hA j (by omega)⟩, hB⟩
end Go.Proofs.Ytjnglencgkhhaaa
/- Whether two lists of points are the same: the model's and the library's. -/

namespace Go.Proofs.Ytjnglencgkhhaaa
open Go.RowKit
set_option linter.unusedSimpArgs false
set_option linter.unusedVariables false
set_option maxRecDepth 100000

theorem equalIn_point (n : Nat) (a b c d : Int) (w : World) : (Op.equalIn (n + 2) 41 (.agg #[.int .i64 a, .int .i64 b]) (.agg #[.int .i64 c, .int .i64 d])).run Try.prog w = .ok ((a == c) && (b == d)) w := by
  have hp0 : ∀ (x y : Int) (w : World), (part 2 #[.int .i64 x, .int .i64 y] 0).run Try.prog w = .ok (.int .i64 x) w := fun _ _ _ => by kernel_rfl
  have hp1 : ∀ (x y : Int) (w : World), (part 2 #[.int .i64 x, .int .i64 y] 1).run Try.prog w = .ok (.int .i64 y) w := fun _ _ _ => by kernel_rfl
  have hi := fun (a b : Int) (w : World) => run_equalIn_int (P := Try.prog) w n 2 .i64 .i64 a b Try.underlying2
  rw [run_equalIn_struct w (n + 1) 41 _ _ (by kernel_rfl) (by kernel_rfl)]
  simp [Op.eqFields, Program.fieldsOf, Try.underlying41, hp0, hp1, hi]
  by_cases h1 : a = c <;> by_cases h2 : b = d <;> simp [h1, h2]
/-- The same points. -/
def ptsEq (n : Nat) (X Y : Nat → Int) (m : Nat) (X' Y' : Nat → Int) : Bool := decide (n = m) && decide (∀ i, i < n → X i = X' i ∧ Y i = Y' i)

set_option maxHeartbeats 4000000 in
theorem slicesEqual_any (b d n m c c' : Nat) (X Y X' Y' : Nat → Int) (w : World) (hp : PtsAt w b 0 n X Y) (hq : PtsAt w d 0 m X' Y') (hb : b < w.heap.size) (hd : d < w.heap.size) (hn : n ≤ 1048576) (hm : m ≤ 1048576) :
    Calls Try.prog 55 #[.slice (some ⟨b, 0, none⟩) n c, .slice (some ⟨d, 0, none⟩) m c'] w fun e w' => e = .returned (.bool (ptsEq n X Y m X' Y')) ∧ Below w.heap.size w w' := by
  by_cases hnm : n = m
  · subst hnm
    have HP : Hid (PtsAt w b 0 n X Y) := hp
    have HQ : Hid (PtsAt w d 0 n X' Y') := hq
    clear hp hq
    go_enter Try.func55, Try.ntmps55
    go_wp2
    go_loopw [13] (fun v wr => ∃ k : Nat, k ≤ n ∧ v = .int .i64 k ∧ (∀ j, j < k → X j = X' j ∧ Y j = Y' j) ∧ Below w.heap.size w wr) (fun v _ => n - (intOf v).toNat)
    case atStart => exact ⟨0, by omega, rfl, by omega, Below.refl _ _⟩
    case round =>
      obtain ⟨k, hk, rfl, hA, hB⟩ := hrel
      have HA : Hid (∀ j, j < k → X j = X' j ∧ Y j = Y' j) := hA
      have HB : Hid (Below w.heap.size w wr) := hB
      by_cases hlt : k < n
      · have c0 : ∀ W', Below wr.heap.size wr W' → W'.cell? ⟨b, k * 2, none⟩ = some (.int .i64 (X k)) := fun W' h => by
          simpa using ((HP.out.below hB hb).below h (Nat.lt_of_lt_of_le hb hB.size) k hlt).1
        have c1 : ∀ W', Below wr.heap.size wr W' → W'.cell? ⟨b, k * 2 + 1, none⟩ = some (.int .i64 (Y k)) := fun W' h => by
          simpa using ((HP.out.below hB hb).below h (Nat.lt_of_lt_of_le hb hB.size) k hlt).2
        have e0 : ∀ W', Below wr.heap.size wr W' → W'.cell? ⟨d, k * 2, none⟩ = some (.int .i64 (X' k)) := fun W' h => by
          simpa using ((HQ.out.below hB hd).below h (Nat.lt_of_lt_of_le hd hB.size) k hlt).1
        have e1 : ∀ W', Below wr.heap.size wr W' → W'.cell? ⟨d, k * 2 + 1, none⟩ = some (.int .i64 (Y' k)) := fun W' h => by
          simpa using ((HQ.out.below hB hd).below h (Nat.lt_of_lt_of_le hd hB.size) k hlt).2
        have heq := fun (w : World) => equalIn_point 9998 (X k) (Y k) (X' k) (Y' k) w
        have HLT : Hid (k < n) := hlt
        clear hB hA
        have hi : (k : Int) < (n : Int) := by omega
        have hi0 : (0 : Int) ≤ (k : Int) := by omega
        by_cases hE : X k = X' k ∧ Y k = Y' k
        · have hv : ((X k == X' k) && (Y k == Y' k)) = true := by simp [hE.1, hE.2]
          rw [hv] at heq
          have HE : Hid (X k = X' k ∧ Y k = Y' k) := hE
          clear hE hv
          go_wp2
          go_region_held3 (fun W' => Below wr.heap.size wr W') ((repeat (first | exact Below.refl _ _ | assumption | refine Below.drew ?_ | refine bl_alloc ?_ _ | refine bl_then ?_ (by assumption) | refine Below.setCell ?_ (by first | omega | (simp; done) | (simp; omega)) _ | refine bl_store ?_ ?_ _ _))) (fail)
          go_wp2
          go_roundw
          case rel => exact ⟨k + 1, by have := HLT.out; omega, by go_num, fun j hj => by
              by_cases e : j = k
              · rw [e]; exact HE.out
              · exact HA.out j (by omega), bl_then HB.out (by assumption)⟩
          case measure => have := HLT.out; simp [intOf]; omega
        · have hv : ((X k == X' k) && (Y k == Y' k)) = false := by
            cases h1 : (X k == X' k)
            · rfl
            · cases h2 : (Y k == Y' k)
              · rfl
              · exact absurd ⟨by simpa using h1, by simpa using h2⟩ hE
          rw [hv] at heq
          have hz : Hid (ptsEq n X Y n X' Y' = false) := by
            show _ = _
            unfold ptsEq
            rw [decide_eq_false (p := ∀ i, i < n → X i = X' i ∧ Y i = Y' i) (fun h => hE (h k hlt))]
            simp
          clear hE hv
          go_wp2
          go_region_held3 (fun W' => Below wr.heap.size wr W') ((repeat (first | exact Below.refl _ _ | assumption | refine Below.drew ?_ | refine bl_alloc ?_ _ | refine bl_then ?_ (by assumption) | refine Below.setCell ?_ (by first | omega | (simp; done) | (simp; omega)) _ | refine bl_store ?_ ?_ _ _))) (fail)
          go_wp2
          go_ret
          exact ⟨ret_bool hz.out.symm, bl_then HB.out (by assumption)⟩
      · have hz : Hid (ptsEq n X Y n X' Y' = true) := by
          show _ = _
          unfold ptsEq
          rw [decide_eq_true (p := ∀ i, i < n → X i = X' i ∧ Y i = Y' i) (fun i hi => HA.out i (by omega))]
          simp
        go_wp2
        go_ret
        exact ⟨ret_bool hz.out.symm, HB.out⟩
  · have hne : ((n : Int) == (m : Int)) = false := by simp; omega
    have hz : Hid (ptsEq n X Y m X' Y' = false) := by show _ = _; simp [ptsEq, hnm]
    go_enter Try.func55, Try.ntmps55
    go_wp2
    go_ret
    exact ⟨ret_bool hz.out.symm, by (repeat (first | exact Below.refl _ _ | assumption | refine Below.drew ?_ | refine bl_alloc ?_ _ | refine bl_then ?_ (by assumption) | refine Below.setCell ?_ (by first | omega | (simp; done) | (simp; omega)) _ | refine bl_store ?_ ?_ _ _))⟩
end Go.Proofs.Ytjnglencgkhhaaa
