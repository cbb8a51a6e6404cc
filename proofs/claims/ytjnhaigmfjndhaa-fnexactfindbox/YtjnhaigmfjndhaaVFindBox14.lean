/- Quads: how lists of them lie in memory; the entries of quads, told one by one. -/
import Derived.Test.YtjnhaigmfjndhaaVFindBox11
import Derived.RangeFuncNested
import Derived.RangeFuncBound
import Derived.RangeFuncCalls
import Derived.RangeFuncLeaves
import Derived.RangeFuncBox
import Derived.Shelf.Abstract
import Derived.Shelf.RegionOpen
import Derived.OwnWalkIn
import Derived.TacticsInMore
import Derived.LoopNIn
import Derived.LoopIn
import Derived.Test.YtjnhaigmfjndhaaVFindBox13
namespace Go.Proofs.Ytjnhaigmfjndhaa
open Go.RowKit Go.Shelf
attribute [local go_sem] Oper.semAt_some
set_option linter.unusedSimpArgs false
set_option linter.unusedVariables false
set_option maxRecDepth 100000

/-- A quad: its bounds, its depth, its first kid, its entries. -/
structure Qd where
  a : Int
  b : Int
  c : Int
  d : Int
  dp : Int
  fi : Int
  ea : Option Addr
  en : Nat
  ec : Nat
  E : Nat → Ent
def QAt (w : World) (p o : Nat) (q : Qd) : Prop := w.cell? ⟨p, o, none⟩ = some (.int .i64 q.a) ∧ w.cell? ⟨p, o + 1, none⟩ = some (.int .i64 q.b) ∧ w.cell? ⟨p, o + 2, none⟩ = some (.int .i64 q.c) ∧ w.cell? ⟨p, o + 3, none⟩ = some (.int .i64 q.d) ∧ w.cell? ⟨p, o + 4, none⟩ = some (.int .i64 q.dp) ∧ w.cell? ⟨p, o + 5, none⟩ = some (.int .i64 q.fi) ∧ w.cell? ⟨p, o + 6, none⟩ = some (.slice q.ea q.en q.ec)
theorem QAt.below {w w' : World} {p o B : Nat} {q : Qd} (h : QAt w p o q) (hb : Below B w w') (hp : p < B) : QAt w' p o q := by
  obtain ⟨h0, h1, h2, h3, h4, h5, h6⟩ := h
  exact ⟨(hb.cell (p := ⟨p, o, none⟩) hp).trans h0, (hb.cell (p := ⟨p, o + 1, none⟩) hp).trans h1, (hb.cell (p := ⟨p, o + 2, none⟩) hp).trans h2, (hb.cell (p := ⟨p, o + 3, none⟩) hp).trans h3, (hb.cell (p := ⟨p, o + 4, none⟩) hp).trans h4, (hb.cell (p := ⟨p, o + 5, none⟩) hp).trans h5, (hb.cell (p := ⟨p, o + 6, none⟩) hp).trans h6⟩
/-- From the address on lie n quads, all below T, with their entries. -/
def QsAt (w : World) (T p off n : Nat) (Q : Nat → Qd) : Prop := p < T ∧ ∀ i, i < n → QAt w p (off + i * 7) (Q i) ∧ ((Q i).en = 0 ∨ ∃ b o, (Q i).ea = some ⟨b, o, none⟩ ∧ b < T ∧ EsAt w b o (Q i).en (Q i).E)
theorem QsAt.below {w w' : World} {T p off n : Nat} {Q : Nat → Qd} (h : QsAt w T p off n Q) (hb : Below T w w') : QsAt w' T p off n Q := ⟨h.1, fun i hi => ⟨(h.2 i hi).1.below hb h.1, (h.2 i hi).2.imp id (fun ⟨b, o, e, hl, hE⟩ => ⟨b, o, e, hl, hE.below hb hl⟩)⟩⟩
/-- All entries, each with the place of its quad. -/
def allE (Q : Nat → Qd) (n : Nat) : List (Nat × Ent) := (List.range n).flatMap fun i => (List.range (Q i).en).map fun j => (i, (Q i).E j)
/-- Those of the first n quads and the first k of the next. -/
def someE (Q : Nat → Qd) (n k : Nat) : List (Nat × Ent) := allE Q n ++ (List.range k).map fun j => (n, (Q n).E j)
theorem someE_zero (Q : Nat → Qd) (n : Nat) : someE Q n 0 = allE Q n := by simp [someE]
theorem someE_succ (Q : Nat → Qd) (n k : Nat) : someE Q n (k + 1) = someE Q n k ++ [(n, (Q n).E k)] := by simp [someE, List.range_succ]
theorem someE_end (Q : Nat → Qd) (n : Nat) : someE Q n (Q n).en = allE Q (n + 1) := by simp [someE, allE, List.range_succ]
theorem allE_prefix (Q : Nat → Qd) : ∀ (n m : Nat), n ≤ m → allE Q n <+: allE Q m := fun n m h => by
  obtain ⟨k, rfl⟩ : ∃ k, m = n + k := ⟨m - n, by omega⟩
  induction k with
  | zero => exact List.prefix_rfl
  | succ k ih =>
    refine (ih (by omega)).trans ?_
    rw [show n + (k + 1) = (n + k) + 1 by omega, ← someE_end]
    exact List.prefix_append _ _
theorem someE_prefix (Q : Nat → Qd) (n k m : Nat) (hk : k ≤ (Q n).en) (hn : n < m) : someE Q n k <+: allE Q m := by
  refine List.IsPrefix.trans ?_ (allE_prefix Q (n + 1) m (by omega))
  rw [← someE_end]
  unfold someE
  refine (List.prefix_append_right_inj _).2 ?_
  obtain ⟨d, hd⟩ : ∃ d, (Q n).en = k + d := ⟨(Q n).en - k, by omega⟩
  rw [hd, List.range_add, List.map_append]
  exact List.prefix_append _ _
/-- What lies below T stays, and block Bs. -/
def KQ (T Bs : Nat) (A B : World) : Prop := Below T A B ∧ B.heap[Bs]? = A.heap[Bs]?
theorem KQ.refl (T Bs : Nat) (A : World) : KQ T Bs A A := ⟨Below.refl _ _, rfl⟩
theorem KQ.trans {T Bs : Nat} {A B C : World} (h : KQ T Bs A B) (k : KQ T Bs B C) : KQ T Bs A C := ⟨h.1.trans k.1, k.2.trans h.2⟩
theorem KQ.alloc {T Bs : Nat} {A B : World} (h : KQ T Bs A B) (hT : T ≤ A.heap.size) (hB : Bs < A.heap.size) (o : Obj) : KQ T Bs A (B.alloc o) := ⟨h.1.alloc (Nat.le_trans hT h.1.size) o, (Below.heap_alloc B o Bs (Nat.lt_of_lt_of_le hB h.1.size)).trans h.2⟩
theorem KQ.cell {T Bs : Nat} {A B : World} (h : KQ T Bs A B) {v : Value} (hc : A.cell? ⟨Bs, 0, none⟩ = some v) : B.cell? ⟨Bs, 0, none⟩ = some v := (World.cell?_of_block (w := A) (a := ⟨Bs, 0, none⟩) h.2).trans hc
theorem KQ.put {T Bs : Nat} {w : World} (hT : T ≤ w.heap.size) (hB : Bs < w.heap.size) (W : World) (l : Nat) (o o' : Obj) (hl : w.heap.size ≤ l) (h1 : W.heap[l]? = some o) (h2 : o.isCells = false) (h3 : o.isWalk = false) : KQ T Bs W (W.putObj l o') := ⟨belowK_b (w := w) hT W l o o' hl h1 h2 h3, by
  have := (belowK_b (w := w) (n₀ := Bs + 1) hB W l o o' hl h1 h2 h3).block Bs (Nat.lt_succ_self _)
  exact this⟩
abbrev encQ (p off : Nat) (x : Nat × Ent) : Array Value := #[.pointer (some ⟨p, off + x.1 * 7, none⟩), entV x.2]

set_option maxHeartbeats 4000000 in
theorem entriesOf1_in (l Bs T p off n cap : Nat) (Q : Nat → Qd) (hn : n ≤ 1048576) (hen : ∀ i, i < n → (Q i).en ≤ 1048576) (J Jx : List (Nat × Ent) → World → Prop) (W : World) (hJ : AbidesFrom W.heap.size J)
    (hY : ∀ pre x W1, J pre W1 → pre.length < (allE Q n).length → YieldAt Fence.wide 2 Try.prog l (encQ p off x) W1 fun e W' => (e = .returned (.bool true) ∧ J (pre ++ [x]) W' ∧ KQ T Bs W1 W') ∨ (e = .returned (.bool false) ∧ Jx (pre ++ [x]) W'))
    (hBs : Bs < W.heap.size) (hTW : T ≤ W.heap.size) (hc : W.cell? ⟨Bs, 0, none⟩ = some (.slice (some ⟨p, off, none⟩) n cap)) (hQ : QsAt W T p off n Q) (h0 : J [] W) :
    CallsIn Fence.wide 3 Try.prog 55 #[.func (.yield l) #[] #[], .pointer (some ⟨Bs, 0, none⟩)] W fun e W' => (∃ v, e = .returned v) ∧ ((∃ ys, ys = allE Q n ∧ J ys W') ∨ (∃ pre, pre <+: allE Q n ∧ Jx pre W')) := by
  refine callsIn_of_wp Try.func55 rfl trivial ?_ rfl
  simp only [Try.ntmps55, List.size_toArray, List.length_cons, List.length_nil, Nat.reduceAdd, Nat.reduceSub, Array.replicate_succ, Array.replicate_zero, List.push_toArray, List.append_toArray, List.nil_append, List.cons_append]
  gi_wp2
  gi_loopw [9] (fun i wr => ∃ k : Nat, k ≤ n ∧ i = .int .i64 (k : Int) ∧ J (allE Q k) wr ∧ KQ T Bs W wr) (fun i _ => n - (intOf i).toNat)
  case atStart => exact ⟨0, Nat.zero_le _, rfl, h0, KQ.refl _ _ _⟩
  case round =>
    obtain ⟨k, hk, rfl, hJs, hB⟩ := hrel
    have hcr := hB.cell hc
    by_cases hlt : k < n
    · obtain ⟨⟨q0, q1, q2, q3, q4, q5, q6⟩, hE⟩ := (hQ.below hB.1).2 k hlt
      have hi1 : (k : Int) < (n : Int) := by omega
      have hi0 : (0 : Int) ≤ (k : Int) := by omega
      have henk := hen k hlt
      gi_wp2
      generalize wr = wA at *
      clear q0 q1 q2 q3 q4 q5 q6 hcr
      have HBA : Hid (KQ T Bs W wA) := hB
      clear hB
      gi_loopw [20] (fun i wr => ∃ j : Nat, j ≤ (Q k).en ∧ i = .int .i64 (j : Int) ∧ J (someE Q k j) wr ∧ KQ T Bs W wr) (fun i _ => (Q k).en - (intOf i).toNat)
      case atStart => exact ⟨0, Nat.zero_le _, rfl, by rw [someE_zero]; exact hJs, HBA.out⟩
      case round =>
        obtain ⟨j, hj, rfl, hJj, hBj⟩ := hrel
        by_cases hltj : j < (Q k).en
        · obtain ⟨b, o, hea, hbT, hEs⟩ := (((hQ.below hBj.1).2 k hlt).2).resolve_left (by omega)
          obtain ⟨e0, e1, e2, e3, e4⟩ := hEs j hltj
          have hpos : (someE Q k j).length < (allE Q n).length := by
            have := (someE_prefix Q k (j + 1) n (by omega) hlt).length_le
            rw [someE_succ, List.length_append] at this
            simp at this
            omega
          have hJa : J (someE Q k j) (wr.alloc (.cells #[.int .i64 ((Q k).E j).id, .int .i64 ((Q k).E j).a, .int .i64 ((Q k).E j).b, .int .i64 ((Q k).E j).c, .int .i64 ((Q k).E j).d] 69)) := hJ _ _ _ none hJj (grown_below ((Below.refl _ _).alloc (Nat.le_refl _) _)) (fun r e => by cases e)
          obtain ⟨fn, tmps, assign, body, hy, hR⟩ := hY _ (k, (Q k).E j) _ hJa hpos
          have hj1 : (j : Int) < ((Q k).en : Int) := by omega
          have hj0 : (0 : Int) ≤ (j : Int) := by omega
          have hBa : KQ T Bs W (wr.alloc (.cells #[.int .i64 ((Q k).E j).id, .int .i64 ((Q k).E j).a, .int .i64 ((Q k).E j).b, .int .i64 ((Q k).E j).c, .int .i64 ((Q k).E j).d] 69)) := hBj.alloc hTW hBs _
          simp only [hea] at *
          gi_wp2
          refine hR.mono ?_
          rintro e W3 (⟨rfl, hJ3, hk3⟩ | ⟨rfl, hJx3⟩)
          · gi_wp2
            go_roundw
            case rel => exact ⟨j + 1, by omega, by simp, by rw [someE_succ]; exact hJ3, hBa.trans hk3⟩
            case measure => simp [intOf]; omega
          · gi_wp2
            refine bodyPost_ret (results_none rfl _ _ _) rfl ?_
            exact ⟨⟨_, rfl⟩, .inr ⟨_, by rw [← someE_succ]; exact someE_prefix Q k (j + 1) n (by omega) hlt, hJx3⟩⟩
        · have hje : j = (Q k).en := by omega
          rw [hje, someE_end] at hJj
          gi_wp2
          go_roundw
          case rel => exact ⟨k + 1, by omega, by simp, hJj, hBj⟩
          case measure => simp [intOf]; omega
    · obtain rfl : k = n := by omega
      gi_wp2
      go_end0
      exact ⟨⟨_, rfl⟩, .inl ⟨_, rfl, hJs⟩⟩
theorem entriesOf_any (a : Option Addr) (n cap : Nat) (w : World) : Calls Try.prog 29 #[.slice a n cap] w fun e w' => e = .returned (.func (.func 55) #[] #[.pointer (some ⟨w.heap.size, 0, none⟩)]) ∧ w' = w.alloc (.cells #[.slice a n cap] 32) := by
  go_enter Try.func29, Try.ntmps29
  go_wp2
  go_ret
  exact ⟨rfl, rfl⟩
theorem entriesOf_stops (Bs T p off n cap : Nat) (Q : Nat → Qd) (hn : n ≤ 1048576) (hen : ∀ i, i < n → (Q i).en ≤ 1048576) (w : World) (hBs : Bs < w.heap.size) (hT : T ≤ w.heap.size) (hc : w.cell? ⟨Bs, 0, none⟩ = some (.slice (some ⟨p, off, none⟩) n cap)) (hQ : QsAt w T p off n Q) :
    SeqStopsK Fence.wide 3 Try.prog 55 #[.pointer (some ⟨Bs, 0, none⟩)] (encQ p off) (KQ T Bs) (fun ys => ys = allE Q n) (fun pre => pre <+: allE Q n) (allE Q n).length w := fun l J Jx W hW hJ hJx hY h0 =>
  entriesOf1_in l Bs T p off n cap Q hn hen J Jx W hJ hY (Nat.lt_of_lt_of_le hBs hW.size) (Nat.le_trans hT hW.size) ((hW.cell (p := ⟨Bs, 0, none⟩) hBs).trans hc) (hQ.below (hW.mono hT)) h0
end Go.Proofs.Ytjnhaigmfjndhaa
