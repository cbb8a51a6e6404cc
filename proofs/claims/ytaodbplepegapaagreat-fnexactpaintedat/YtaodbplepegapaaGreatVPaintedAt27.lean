/- Several texts in one. -/
import Derived.Test.YtaodbplepegapaaGreatVPaintedAt26
import Derived.RangeFuncNested
import Derived.RangeFuncBound
import Derived.RangeFuncCalls
import Derived.RangeFuncLeaves
import Derived.RangeFuncBox
import Derived.Shelf.Abstract
import Derived.Shelf.RegionOpen
import Derived.OwnWalkIn
import Derived.TacticsInMore
import Derived.LoopNIn
import Derived.LoopIn
import Derived.Test.YtaodbplepegapaaGreatVPaintedAt21
import Derived.Test.YtaodbplepegapaaGreatVPaintedAt1
import Derived.Test.YtaodbplepegapaaGreatVPaintedAt3
import Derived.Test.YtaodbplepegapaaGreatVPaintedAt2
import Derived.Shelf.Pu.Clone

/- What a range over a list from its last on down needs. -/

namespace Go.Proofs.YtaodbplepegapaaGreat
open Go.RowKit Go.Shelf
attribute [local go_sem] Oper.semAt_some
set_option linter.unusedSimpArgs false
set_option linter.unusedVariables false
set_option maxRecDepth 100000

/-- What lies below T stays, and block Bs. -/
def KS (T Bs : Nat) (A B : World) : Prop := Below T A B ∧ B.heap[Bs]? = A.heap[Bs]?
theorem KS.refl (T Bs : Nat) (A : World) : KS T Bs A A := ⟨Below.refl _ _, rfl⟩
theorem KS.trans {T Bs : Nat} {A B C : World} (h : KS T Bs A B) (k : KS T Bs B C) : KS T Bs A C := ⟨h.1.trans k.1, k.2.trans h.2⟩
theorem KS.alloc {T Bs : Nat} {A B : World} (h : KS T Bs A B) (hT : T ≤ A.heap.size) (hB : Bs < A.heap.size) (o : Obj) : KS T Bs A (B.alloc o) := ⟨h.1.alloc (Nat.le_trans hT h.1.size) o, (Below.heap_alloc B o Bs (Nat.lt_of_lt_of_le hB h.1.size)).trans h.2⟩
theorem KS.cell {T Bs : Nat} {A B : World} (h : KS T Bs A B) {v : Value} (hc : A.cell? ⟨Bs, 0, none⟩ = some v) : B.cell? ⟨Bs, 0, none⟩ = some v := (World.cell?_of_block (w := A) (a := ⟨Bs, 0, none⟩) h.2).trans hc
theorem KS.put {T Bs : Nat} {w : World} (hT : T ≤ w.heap.size) (hB : Bs < w.heap.size) (W : World) (l : Nat) (o o' : Obj) (hl : w.heap.size ≤ l) (h1 : W.heap[l]? = some o) (h2 : o.isCells = false) (h3 : o.isWalk = false) : KS T Bs W (W.putObj l o') := ⟨belowK_b (w := w) hT W l o o' hl h1 h2 h3, by
  have := (belowK_b (w := w) (n₀ := Bs + 1) hB W l o o' hl h1 h2 h3).block Bs (Nat.lt_succ_self _)
  exact this⟩
theorem objS_keep {W W' : World} {row : Option Nat} {b : Nat} {arr : Array Value} {t : TypeId} {fz : Nat × Nat} (h : W.heap[b]? = some (.cells arr t fz)) (hg : W.grownBy W' row) (hr : ∀ r, row = some r → ∃ o : Obj, W.heap[r]? = some o ∧ o.isCells = false) : W'.heap[b]? = some (.cells arr t fz) := by
  rw [hg.block b (lt_of_heap h) (fun e => by
    obtain ⟨o, ho, hc⟩ := hr b e.symm
    rw [h] at ho
    cases ho
    cases hc)]
  exact h
theorem keepsS {W W' : World} (h : Below W.heap.size W W') : KeepsOthers W W' := ⟨h.size, fun k o hk _ => (h.block k (lt_of_heap hk)).trans hk⟩
/-- From the last on down. -/
def downN (n k : Nat) : List Nat := (List.range k).map fun j => n - 1 - j
theorem downN_succ (n k : Nat) : downN n (k + 1) = downN n k ++ [n - 1 - k] := by simp [downN, List.range_succ]
theorem downN_len (n k : Nat) : (downN n k).length = k := by simp [downN]
theorem downN_pre (n k m : Nat) (h : k ≤ m) : downN n k <+: downN n m := by
  obtain ⟨d, rfl⟩ : ∃ d, m = k + d := ⟨m - k, by omega⟩
  unfold downN
  rw [List.range_add, List.map_append]
  exact List.prefix_append _ _
theorem downN_of_pre {n : Nat} {l : List Nat} (h : l <+: downN n n) : l = downN n l.length ∧ l.length ≤ n := by
  have hl := h.length_le
  rw [downN_len] at hl
  have h1 := downN_pre n l.length n hl
  refine ⟨?_, hl⟩
  exact (List.prefix_of_prefix_length_le h h1 (by rw [downN_len]; exact Nat.le_refl _)).eq_of_length (by rw [downN_len])
/-- A place of a list of n. -/
abbrev Pl (n : Nat) := { i : Nat // i < n }
theorem paintI_none {C : Nat → Bool} {I : Nat → Int} : ∀ {n : Nat}, (∀ i, i < n → C i = false) → paintI C I n = 0
  | 0, _ => rfl
  | n + 1, h => by rw [paintI, h n (by omega), if_neg (by simp)]; exact paintI_none fun i hi => h i (by omega)
theorem paintI_some {C : Nat → Bool} {I : Nat → Int} : ∀ {n i : Nat}, i < n → C i = true → (∀ j, i < j → j < n → C j = false) → paintI C I n = I i
  | n + 1, i, hi, h, hn => by
    rw [paintI]
    by_cases e : i = n
    · subst e; rw [h, if_pos rfl]
    · rw [hn n (by omega) (by omega), if_neg (by simp)]
      exact paintI_some (by omega) h fun j h1 h2 => hn j h1 (by omega)
theorem front_done {C : Nat → Bool} {I : Nat → Int} {n : Nat} {ys : List (Pl n)} (h : ys.map (·.1) = downN n n) (ha : ∀ x ∈ ys, C x.1 = false) : paintI C I n = 0 := by
  refine paintI_none fun i hi => ?_
  have hm : i ∈ ys.map (·.1) := by
    rw [h]
    unfold downN
    exact List.mem_map.2 ⟨n - 1 - i, List.mem_range.2 (by omega), by omega⟩
  obtain ⟨x, hx, rfl⟩ := List.mem_map.1 hm
  exact ha x hx
theorem front_stop {C : Nat → Bool} {I : Nat → Int} {n : Nat} {p : List (Pl n)} {x : Pl n} (h : (p ++ [x]).map (·.1) <+: downN n n) (ha : ∀ y ∈ p, C y.1 = false) (hx : C x.1 = true) : paintI C I n = I x.1 := by
  obtain ⟨h1, h2⟩ := downN_of_pre h
  have hl : ((p ++ [x]).map (·.1)).length = p.length + 1 := by simp
  rw [hl] at h1 h2
  rw [downN_succ, List.map_append] at h1
  have e1 : p.map (·.1) = downN n p.length := by
    have := List.append_inj_left h1 (by rw [downN_len]; simp)
    exact this
  have e2 : x.1 = n - 1 - p.length := by
    have := List.append_inj_right h1 (by rw [downN_len]; simp)
    simpa using this
  refine paintI_some x.2 hx fun j h3 h4 => ?_
  have hm : j ∈ p.map (·.1) := by
    rw [e1]
    unfold downN
    exact List.mem_map.2 ⟨n - 1 - j, List.mem_range.2 (by omega), by omega⟩
  obtain ⟨y, hy, rfl⟩ := List.mem_map.1 hm
  exact ha y hy
end Go.Proofs.YtaodbplepegapaaGreat
/- Features, told from the last on down: the program. -/

namespace Go.Proofs.YtaodbplepegapaaGreat
open Go.RowKit Go.Shelf
attribute [local go_sem] Oper.semAt_some
set_option linter.unusedSimpArgs false
set_option linter.unusedVariables false
set_option maxRecDepth 100000

abbrev ftV (f : Feat) : Value := .agg #[.int .i64 f.id, .int .i64 f.la, .int .i64 f.ki, .int .i64 f.wi, .slice f.a f.n f.cap, .string f.lab, .int .i64 f.pr]
/-- The points of a feature are there, below T. -/
def FtP (w : World) (T : Nat) (f : Feat) : Prop := ∃ q o, f.a = some ⟨q, o, none⟩ ∧ q < T ∧ PtsAt w q o f.n f.X f.Y
theorem FtP.below {w w' : World} {T : Nat} {f : Feat} (h : FtP w T f) (hb : Below T w w') : FtP w' T f := by
  obtain ⟨q, o, e, hl, hp⟩ := h
  exact ⟨q, o, e, hl, hp.below hb hl⟩
def FtsAt (w : World) (T p n : Nat) (F : Nat → Feat) : Prop := p < T ∧ ∀ i, i < n → FeatAt w p (i * 7) (F i).id (F i).la (F i).ki (F i).wi (.slice (F i).a (F i).n (F i).cap) (F i).lab (F i).pr ∧ FtP w T (F i)
theorem FtsAt.below {w w' : World} {T p n : Nat} {F : Nat → Feat} (h : FtsAt w T p n F) (hb : Below T w w') : FtsAt w' T p n F := ⟨h.1, fun i hi => ⟨(h.2 i hi).1.below hb h.1, (h.2 i hi).2.below hb⟩⟩
def SrcF (T : Nat) (w : World) (v : Value) (n : Nat) (F : Nat → Feat) : Prop := ((∃ a cap, v = .slice a 0 cap) ∧ n = 0) ∨ ∃ p cap, v = .slice (some ⟨p, 0, none⟩) n cap ∧ FtsAt w T p n F
theorem SrcF.below {T : Nat} {w w' : World} {v : Value} {n : Nat} {F : Nat → Feat} (h : SrcF T w v n F) (hb : Below T w w') : SrcF T w' v n F := by
  rcases h with h | ⟨p, cap, e, hs⟩
  · exact .inl h
  · exact .inr ⟨p, cap, e, hs.below hb⟩
abbrev encF (F : Nat → Feat) (i : Nat) : Array Value := #[.int .i64 (i : Int), ftV (F i)]
set_option maxHeartbeats 4000000 in
theorem backF1_in (l Bs T p n cap : Nat) (S : Nat → Feat) (hn : n ≤ 1048576) (J Jx : List (Pl n) → World → Prop) (W : World)
    (hY : ∀ pre (x : Pl n) W1, J pre W1 → pre.length < n → YieldAt Fence.wide 2 Tryz.prog l (encF S x.1) W1 fun e W' => (e = .returned (.bool true) ∧ J (pre ++ [x]) W' ∧ KS T Bs W1 W') ∨ (e = .returned (.bool false) ∧ Jx (pre ++ [x]) W'))
    (hc : W.cell? ⟨Bs, 0, none⟩ = some (.slice (some ⟨p, 0, none⟩) n cap)) (hS : FtsAt W T p n S) (h0 : J [] W) :
    CallsIn Fence.wide 3 Tryz.prog 80 #[.func (.yield l) #[] #[], .pointer (some ⟨Bs, 0, none⟩)] W fun e W' => (∃ v, e = .returned v) ∧ ((∃ ys, ys.map (·.1) = downN n n ∧ J ys W') ∨ (∃ pre, pre.map (·.1) <+: downN n n ∧ Jx pre W')) := by
  refine callsIn_of_wp Tryz.func80 rfl trivial ?_ rfl
  simp only [Tryz.ntmps80, List.size_toArray, List.length_cons, List.length_nil, Nat.reduceAdd, Nat.reduceSub, Array.replicate_succ, Array.replicate_zero, List.push_toArray, List.append_toArray, List.nil_append, List.cons_append]
  have hn0 : IntKind.i64.wrap ((n : Int) - 1) = (n : Int) - 1 := IntWalk.i64_in _ (by omega)
  gi_wp2
  gi_loopw [3] (fun i wr => ∃ (k : Nat) (s : List (Pl n)), k ≤ n ∧ i = .int .i64 ((n : Int) - 1 - (k : Int)) ∧ s.map (·.1) = downN n k ∧ J s wr ∧ KS T Bs W wr) (fun i _ => (intOf i + 1).toNat)
  case atStart => exact ⟨0, [], Nat.zero_le _, by simp [hn0], rfl, h0, KS.refl _ _ _⟩
  case round =>
    obtain ⟨k, s, hk, hi, hs, hJs, hB⟩ := hrel
    have hcr := hB.cell hc
    by_cases hlt : k < n
    · obtain ⟨m, hm⟩ : ∃ m : Nat, m = n - 1 - k := ⟨_, rfl⟩
      have em : (n : Int) - 1 - (k : Int) = (m : Int) := by omega
      rw [em] at hi
      subst hi
      have hmn : m < n := by omega
      obtain ⟨⟨q0, q1, q2, q3, q4, q5, q6⟩, hP⟩ := (hS.below hB.1).2 m hmn
      have hsl : s.length = k := by have := congrArg List.length hs; rw [downN_len] at this; simpa using this
      obtain ⟨fn, tmps, assign, body, hy, hR⟩ := hY s ⟨m, hmn⟩ wr hJs (by omega)
      have hi1 : (m : Int) < (n : Int) := by omega
      have hi0 : (0 : Int) ≤ (m : Int) := by omega
      have hm1 : IntKind.i64.wrap ((m : Int) - 1) = (m : Int) - 1 := IntWalk.i64_in _ (by omega)
      have HS : Hid ((s ++ [(⟨m, hmn⟩ : Pl n)]).map (fun x : Pl n => x.1) = downN n (k + 1)) := by show _ = _; rw [downN_succ, ← hm]; simp [hs]
      have HM : Hid (m = n - 1 - k) := hm
      clear hm em
      gi_wp2
      refine hR.mono ?_
      rintro e W3 (⟨rfl, hJ3, hk3⟩ | ⟨rfl, hJx3⟩)
      · gi_wp2
        go_roundw
        case rel => exact ⟨k + 1, s ++ [⟨m, hmn⟩], by omega, by have := HM.out; first | (rw [hm1]; congr 1; omega) | (congr 1; omega), HS.out, hJ3, hB.trans hk3⟩
        case measure => have := HM.out; simp [intOf] <;> omega
      · gi_wp2
        refine bodyPost_ret (results_none rfl _ _ _) rfl ?_
        exact ⟨⟨_, rfl⟩, .inr ⟨_, by rw [HS.out]; exact downN_pre _ _ _ (by omega), hJx3⟩⟩
    · obtain rfl : k = n := by omega
      have em : (k : Int) - 1 - (k : Int) = -1 := by omega
      rw [em] at hi
      subst hi
      gi_wp2
      go_end0
      exact ⟨⟨_, rfl⟩, .inl ⟨s, hs, hJs⟩⟩
set_option maxHeartbeats 1000000 in
theorem backF1_nil (l Bs : Nat) (a : Option Addr) (cap : Nat) (W : World) (hBs : W.cell? ⟨Bs, 0, none⟩ = some (.slice a 0 cap)) :
    CallsIn Fence.wide 3 Tryz.prog 80 #[.func (.yield l) #[] #[], .pointer (some ⟨Bs, 0, none⟩)] W fun e W' => (∃ v, e = .returned v) ∧ W = W' := by
  refine callsIn_of_wp Tryz.func80 rfl trivial ?_ rfl
  simp only [Tryz.ntmps80, List.size_toArray, List.length_cons, List.length_nil, Nat.reduceAdd, Nat.reduceSub, Array.replicate_succ, Array.replicate_zero, List.push_toArray, List.append_toArray, List.nil_append, List.cons_append]
  gi_wp2
  gi_loopw [3] (fun i wr => i = .int .i64 (-1) ∧ W = wr) (fun _ _ => 0)
  case atStart => exact ⟨by first | rfl | (congr 1; decide), rfl⟩
  case round =>
    obtain ⟨rfl, rfl⟩ := hrel
    gi_wp2
    go_end0
    exact ⟨⟨_, rfl⟩, rfl⟩
theorem backF_stops (Bs T n : Nat) (v : Value) (S : Nat → Feat) (hn : n ≤ 1048576) (w : World) (hBs : Bs < w.heap.size) (hT : T ≤ w.heap.size) (hc : w.cell? ⟨Bs, 0, none⟩ = some v) (hS : SrcF T w v n S) :
    SeqStopsK Fence.wide 3 Tryz.prog 80 #[.pointer (some ⟨Bs, 0, none⟩)] (fun x : Pl n => encF S x.1) (KS T Bs) (fun ys => ys.map (·.1) = downN n n) (fun pre => pre.map (·.1) <+: downN n n) n w := fun l J Jx W hW hJ hJx hY h0 => by
  have hc' := (hW.cell (p := ⟨Bs, 0, none⟩) hBs).trans hc
  rcases hS.below (hW.mono hT) with ⟨⟨a, cap, rfl⟩, rfl⟩ | ⟨p, cap, rfl, hs⟩
  · exact (backF1_nil l Bs a cap W hc').mono fun e W' ⟨he, hw⟩ => ⟨he, .inl ⟨[], rfl, hw ▸ h0⟩⟩
  · exact backF1_in l Bs T p n cap S hn J Jx W hY hc' hs h0
theorem backwardF_any (a : Option Addr) (n cap : Nat) (w : World) : Calls Tryz.prog 39 #[.slice a n cap] w fun e w' => e = .returned (.func (.func 80) #[] #[.pointer (some ⟨w.heap.size, 0, none⟩)]) ∧ w' = w.alloc (.cells #[.slice a n cap] 27) := by
  go_enter Tryz.func39, Tryz.ntmps39
  go_wp2
  go_ret
  exact ⟨rfl, rfl⟩
end Go.Proofs.YtaodbplepegapaaGreat
/- Seven stores into one block, read back. -/

namespace Go.Proofs.YtaodbplepegapaaGreat
open Go.RowKit
set_option linter.unusedSimpArgs false
set_option linter.unusedVariables false

/-- Seven stores into one block, read back. -/
theorem set7_at {W : World} {r : Nat} {v0 v1 v2 v3 v4 v5 v6 : Value} (hT : There W r 7) :
    (((((((W.setCell ⟨r, 0, none⟩ v0).setCell ⟨r, 1, none⟩ v1).setCell ⟨r, 2, none⟩ v2).setCell ⟨r, 3, none⟩ v3).setCell ⟨r, 4, none⟩ v4).setCell ⟨r, 5, none⟩ v5).setCell ⟨r, 6, none⟩ v6).cell? ⟨r, 0, none⟩ = some v0 ∧
    (((((((W.setCell ⟨r, 0, none⟩ v0).setCell ⟨r, 1, none⟩ v1).setCell ⟨r, 2, none⟩ v2).setCell ⟨r, 3, none⟩ v3).setCell ⟨r, 4, none⟩ v4).setCell ⟨r, 5, none⟩ v5).setCell ⟨r, 6, none⟩ v6).cell? ⟨r, 1, none⟩ = some v1 ∧
    (((((((W.setCell ⟨r, 0, none⟩ v0).setCell ⟨r, 1, none⟩ v1).setCell ⟨r, 2, none⟩ v2).setCell ⟨r, 3, none⟩ v3).setCell ⟨r, 4, none⟩ v4).setCell ⟨r, 5, none⟩ v5).setCell ⟨r, 6, none⟩ v6).cell? ⟨r, 2, none⟩ = some v2 ∧
    (((((((W.setCell ⟨r, 0, none⟩ v0).setCell ⟨r, 1, none⟩ v1).setCell ⟨r, 2, none⟩ v2).setCell ⟨r, 3, none⟩ v3).setCell ⟨r, 4, none⟩ v4).setCell ⟨r, 5, none⟩ v5).setCell ⟨r, 6, none⟩ v6).cell? ⟨r, 3, none⟩ = some v3 ∧
    (((((((W.setCell ⟨r, 0, none⟩ v0).setCell ⟨r, 1, none⟩ v1).setCell ⟨r, 2, none⟩ v2).setCell ⟨r, 3, none⟩ v3).setCell ⟨r, 4, none⟩ v4).setCell ⟨r, 5, none⟩ v5).setCell ⟨r, 6, none⟩ v6).cell? ⟨r, 4, none⟩ = some v4 ∧
    (((((((W.setCell ⟨r, 0, none⟩ v0).setCell ⟨r, 1, none⟩ v1).setCell ⟨r, 2, none⟩ v2).setCell ⟨r, 3, none⟩ v3).setCell ⟨r, 4, none⟩ v4).setCell ⟨r, 5, none⟩ v5).setCell ⟨r, 6, none⟩ v6).cell? ⟨r, 5, none⟩ = some v5 ∧
    (((((((W.setCell ⟨r, 0, none⟩ v0).setCell ⟨r, 1, none⟩ v1).setCell ⟨r, 2, none⟩ v2).setCell ⟨r, 3, none⟩ v3).setCell ⟨r, 4, none⟩ v4).setCell ⟨r, 5, none⟩ v5).setCell ⟨r, 6, none⟩ v6).cell? ⟨r, 6, none⟩ = some v6 := by
  have ne : ∀ i j : Nat, i ≠ j → (⟨r, i, none⟩ : Addr) ≠ ⟨r, j, none⟩ := fun i j hij h => hij (by injection h)
  obtain ⟨x0, h0⟩ := (hT 0 (by omega)).1
  obtain ⟨x1, h1⟩ := (hT 1 (by omega)).1
  obtain ⟨x2, h2⟩ := (hT 2 (by omega)).1
  obtain ⟨x3, h3⟩ := (hT 3 (by omega)).1
  obtain ⟨x4, h4⟩ := (hT 4 (by omega)).1
  obtain ⟨x5, h5⟩ := (hT 5 (by omega)).1
  obtain ⟨x6, h6⟩ := (hT 6 (by omega)).1
  refine ⟨?_, ?_, ?_, ?_, ?_, ?_, ?_⟩
  · rw [set1_other (ne 6 0 (by omega)), set1_other (ne 5 0 (by omega)), set1_other (ne 4 0 (by omega)), set1_other (ne 3 0 (by omega)), set1_other (ne 2 0 (by omega)), set1_other (ne 1 0 (by omega))]; exact set1_same h0
  · rw [set1_other (ne 6 1 (by omega)), set1_other (ne 5 1 (by omega)), set1_other (ne 4 1 (by omega)), set1_other (ne 3 1 (by omega)), set1_other (ne 2 1 (by omega))]; exact set1_same (by rw [set1_other (ne 0 1 (by omega))]; exact h1)
  · rw [set1_other (ne 6 2 (by omega)), set1_other (ne 5 2 (by omega)), set1_other (ne 4 2 (by omega)), set1_other (ne 3 2 (by omega))]; exact set1_same (by rw [set1_other (ne 1 2 (by omega)), set1_other (ne 0 2 (by omega))]; exact h2)
  · rw [set1_other (ne 6 3 (by omega)), set1_other (ne 5 3 (by omega)), set1_other (ne 4 3 (by omega))]; exact set1_same (by rw [set1_other (ne 2 3 (by omega)), set1_other (ne 1 3 (by omega)), set1_other (ne 0 3 (by omega))]; exact h3)
  · rw [set1_other (ne 6 4 (by omega)), set1_other (ne 5 4 (by omega))]; exact set1_same (by rw [set1_other (ne 3 4 (by omega)), set1_other (ne 2 4 (by omega)), set1_other (ne 1 4 (by omega)), set1_other (ne 0 4 (by omega))]; exact h4)
  · rw [set1_other (ne 6 5 (by omega))]; exact set1_same (by rw [set1_other (ne 4 5 (by omega)), set1_other (ne 3 5 (by omega)), set1_other (ne 2 5 (by omega)), set1_other (ne 1 5 (by omega)), set1_other (ne 0 5 (by omega))]; exact h5)
  · exact set1_same (by rw [set1_other (ne 5 6 (by omega)), set1_other (ne 4 6 (by omega)), set1_other (ne 3 6 (by omega)), set1_other (ne 2 6 (by omega)), set1_other (ne 1 6 (by omega)), set1_other (ne 0 6 (by omega))]; exact h6)
end Go.Proofs.YtaodbplepegapaaGreat
/- Strings are cloned; the cells of a list of points; seven stores into one block. -/

namespace Go.Proofs.YtaodbplepegapaaGreat
open Go.RowKit
set_option linter.unusedSimpArgs false
set_option linter.unusedVariables false

theorem pts_cellsO {w : World} {b off n : Nat} {X Y : Nat → Int} (h : PtsAt w b off n X Y) : ∀ j u, (cellsL (ptsOf X Y (List.range n)))[j]? = some u → w.cell? ⟨b, off + j, none⟩ = some u := fun j u hu => by
  have hlen : (ptsOf X Y (List.range n)).length = n := by simp [ptsOf]
  have hj : j < n * 2 := by
    have := (List.getElem?_eq_some_iff.1 hu).1
    rw [cellsL_len, hlen] at this
    exact this
  have hi : j / 2 < n := by omega
  obtain ⟨e1, e2⟩ := cellsL_at (ptsOf X Y (List.range n)) (j / 2) (by rw [hlen]; exact hi)
  obtain ⟨c1, c2⟩ := h (j / 2) hi
  have ex : px (ptsOf X Y (List.range n)) (j / 2) = X (j / 2) := by simp [px, ptsOf, List.getD_eq_getElem?_getD, hi]
  have ey : py (ptsOf X Y (List.range n)) (j / 2) = Y (j / 2) := by simp [py, ptsOf, List.getD_eq_getElem?_getD, hi]
  rw [ex] at e1
  rw [ey] at e2
  rcases Nat.mod_two_eq_zero_or_one j with hm | hm
  · have e : j / 2 * 2 = j := by omega
    rw [e] at e1 c1
    rw [e1] at hu
    rw [c1]
    exact hu
  · have e : j / 2 * 2 + 1 = j := by omega
    rw [Nat.add_assoc, e] at c2
    rw [e] at e2
    rw [e2] at hu
    rw [c2]
    exact hu
theorem info_u8 : (Tryz.prog.info? 5).map (fun i => (i.zero, i.size, i.bytes)) = some (some (.int .u8 0), 1, 1) := by kernel_rfl
set_option maxHeartbeats 4000000 in
set_option maxRecDepth 100000 in
theorem sliteClone_any (s : ByteArray) (w : World) (hlim : s.size ≤ 1048576) :
    Calls Tryz.prog 160 #[.string s] w fun e w' => e = .returned (.string s) ∧ Below w.heap.size w w' := by
  by_cases h0 : s.size = 0
  · have hs : s = ⟨#[]⟩ := by
      apply ByteArray.ext
      exact Array.eq_empty_of_size_eq_zero h0
    subst hs
    go_enter Tryz.func160, Tryz.ntmps160
    go_wp2
    go_ret
    exact ⟨rfl, Below.refl _ _⟩
  · obtain ⟨i0, hi, hz0, hz1, hz2⟩ := info_parts info_u8
    have hinfo : (Tryz.prog.info? 5).map (·.size) = some 1 := by rw [hi]; simp [hz1]
    have hco : Tryz.prog.cellsOf 5 = 1 := by simp [Program.cellsOf, hi, hz1]
    obtain ⟨M, hM⟩ : ∃ M, M = madeCells (Value.int .u8 0).cells (((s.size : Nat) : Int).toNat * i0.size) := ⟨_, rfl⟩
    have hMs : M.size = s.size := by rw [hM, size_madeCells, hz1]; simp
    have hmk : ∀ W : World, (Instr.makeSlice 139 (.int .i64 (s.size : Int)) (.int .i64 (s.size : Int))).run Tryz.prog W = .ok (.slice (some ⟨W.heap.size, 0, none⟩) s.size s.size) (W.alloc (.cells M 5)) := fun W => by
      have h := run_make (P := Tryz.prog) W 139 5 i0 (.int .u8 0) Tryz.underlying139 hi hz0 .i64 .i64 (s.size : Int) (s.size : Int) (by omega) (by omega) (by rw [hz2]; omega) (by omega)
      rw [← hM] at h
      simpa using h
    clear hM
    have hcp := Lib.run_copy_row_string (P := Tryz.prog) (w.alloc (.cells M 5)) 139 9 3 5 w.heap.size 0 s.size s.size s M 5 Tryz.underlying139 hinfo (heap_alloc_new w _) (Nat.le_refl _) (by omega)
    obtain ⟨Y, hY⟩ : ∃ Y, Y = (M.toList.take 0 ++ Lib.byteCells s.data.toList ++ M.toList.drop (0 + s.size)).toArray := ⟨_, rfl⟩
    rw [← hY] at hcp
    have hYl : Y.toList = Lib.byteCells s.data.toList := by
      rw [hY, List.toList_toArray, List.take_zero, List.nil_append, List.drop_of_length_le (by rw [Array.length_toList]; omega), List.append_nil]
    have hYs : Y.size = s.size := by rw [← Array.length_toList, hYl, Lib.byteCells_length, ← Lib.size_eq]
    have hgY : ((w.alloc (.cells M 5)).setRow w.heap.size Y).heap[w.heap.size]? = some (.cells Y 5 (0, 0)) := setRow_heap _ _ M _ 5 (0, 0) (heap_alloc_new w _)
    have hne : s.data.toList ≠ [] := fun e => h0 (by rw [Lib.size_eq, e]; rfl)
    have hUS := Lib.run_unsafeString_row (P := Tryz.prog) ((w.alloc (.cells M 5)).setRow w.heap.size Y) 221 3 9 5 Tryz.underlying221 hco w.heap.size Y.size (by unfold World.shape?; rw [hgY]) s.data.toList hne (by rw [← Lib.size_eq]; omega) (by rw [← Lib.size_eq]; omega)
      (fun j x hx => Lib.cells_of_row hgY Y.size j _ (by rw [List.take_of_length_le (by rw [Array.length_toList]; exact Nat.le_refl _), hYl]; simp [Lib.byteCells, hx]))
    rw [← Lib.size_eq] at hUS
    clear hY
    go_enter Tryz.func160, Tryz.ntmps160
    go_wp2
    go_ret
    have hb1 : Below w.heap.size w (w.alloc (.cells M 5)) := (Below.refl _ w).alloc (Nat.le_refl _) _
    have hb2 : Below w.heap.size (w.alloc (.cells M 5)) ((w.alloc (.cells M 5)).setRow w.heap.size Y) := ⟨rfl, rfl, rfl, by simp, fun k hk => setRow_other _ _ _ _ (by omega)⟩
    exact ⟨rfl, Lib.below_freeze (hb1.trans hb2) (p := ⟨w.heap.size, 0, none⟩) (Nat.le_refl _) _⟩
theorem stringsClone_any (s : ByteArray) (w : World) (hlim : s.size ≤ 1048576) :
    Calls Tryz.prog 138 #[.string s] w fun e w' => e = .returned (.string s) ∧ Below w.heap.size w w' := by
  go_enter Tryz.func138, Tryz.ntmps138
  go_wp2_with (go_at_call 160; refine (sliteClone_any _ _ hlim).mono ?_; rintro e w1 ⟨rfl, hb1⟩)
  go_ret
  exact ⟨rfl, by (repeat (first | exact Below.refl _ _ | assumption | refine Below.drew ?_ | refine bl_alloc ?_ _ | refine bl_then ?_ (by assumption) | refine Below.setCell ?_ (by first | omega | (simp; done) | (simp; omega)) _ | refine bl_store ?_ ?_ _ _))⟩
end Go.Proofs.YtaodbplepegapaaGreat
