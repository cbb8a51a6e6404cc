/- The entries of quads, told one by one, each with a quad that is there. -/
import Derived.Test.YtkadkpdcjccnbaaQ3
namespace Go.Proofs.Ytkadkpdcjccnbaa
open Go.RowKit Go.Shelf
set_option linter.unusedSimpArgs false
set_option linter.unusedVariables false
set_option maxRecDepth 100000

set_option maxHeartbeats 4000000 in
theorem entriesOf1_inT (l Bs T p off n cap : Nat) (Q : Nat → Qd) (hn : n ≤ 1048576) (hen : ∀ i, i < n → (Q i).en ≤ 1048576) (J Jx : List (Nat × Ent) → World → Prop) (W : World) (hJ : AbidesFrom W.heap.size J)
    (hY : ∀ pre x W1, x.1 < n → J pre W1 → pre.length < (allE Q n).length → YieldAt Fence.wide 2 Try.prog l (encQ p off x) W1 fun e W' => (e = .returned (.bool true) ∧ J (pre ++ [x]) W' ∧ KQ T Bs W1 W') ∨ (e = .returned (.bool false) ∧ Jx (pre ++ [x]) W'))
    (hBs : Bs < W.heap.size) (hTW : T ≤ W.heap.size) (hc : W.cell? ⟨Bs, 0, none⟩ = some (.slice (some ⟨p, off, none⟩) n cap)) (hQ : QsAt W T p off n Q) (h0 : J [] W) :
    CallsIn Fence.wide 3 Try.prog 126 #[.func (.yield l) #[] #[], .pointer (some ⟨Bs, 0, none⟩)] W fun e W' => (∃ v, e = .returned v) ∧ ((∃ ys, ys = allE Q n ∧ J ys W') ∨ (∃ pre, pre <+: allE Q n ∧ Jx pre W')) := by
  refine callsIn_of_wp Try.func126 rfl trivial ?_ rfl
  simp only [Try.ntmps126, List.size_toArray, List.length_cons, List.length_nil, Nat.reduceAdd, Nat.reduceSub, Array.replicate_succ, Array.replicate_zero, List.push_toArray, List.append_toArray, List.nil_append, List.cons_append]
  gi_wp2
  gi_loopw [9] (fun i wr => ∃ k : Nat, k ≤ n ∧ i = .int .i64 (k : Int) ∧ J (allE Q k) wr ∧ KQ T Bs W wr) (fun i _ => n - (intOf i).toNat)
  case atStart => exact ⟨0, Nat.zero_le _, rfl, h0, KQ.refl _ _ _⟩
  case round =>
    obtain ⟨k, hk, rfl, hJs, hB⟩ := hrel
    have hcr := hB.cell hc
    by_cases hlt : k < n
    · obtain ⟨⟨q0, q1, q2, q3, q4, q5, q6⟩, hE⟩ := (hQ.below hB.1).2 k hlt
      have hi1 : (k : Int) < (n : Int) := by omega
      have hi0 : (0 : Int) ≤ (k : Int) := by omega
      have henk := hen k hlt
      gi_wp2
      generalize wr = wA at *
      clear q0 q1 q2 q3 q4 q5 q6 hcr
      have HBA : Hid (KQ T Bs W wA) := hB
      clear hB
      gi_loopw [20] (fun i wr => ∃ j : Nat, j ≤ (Q k).en ∧ i = .int .i64 (j : Int) ∧ J (someE Q k j) wr ∧ KQ T Bs W wr) (fun i _ => (Q k).en - (intOf i).toNat)
      case atStart => exact ⟨0, Nat.zero_le _, rfl, by rw [someE_zero]; exact hJs, HBA.out⟩
      case round =>
        obtain ⟨j, hj, rfl, hJj, hBj⟩ := hrel
        by_cases hltj : j < (Q k).en
        · obtain ⟨b, o, hea, hbT, hEs⟩ := (((hQ.below hBj.1).2 k hlt).2).resolve_left (by omega)
          obtain ⟨e0, e1, e2, e3, e4⟩ := hEs j hltj
          have hpos : (someE Q k j).length < (allE Q n).length := by
            have := (someE_prefix Q k (j + 1) n (by omega) hlt).length_le
            rw [someE_succ, List.length_append] at this
            simp at this
            omega
          have hJa : J (someE Q k j) (wr.alloc (.cells #[.int .i64 ((Q k).E j).id, .int .i64 ((Q k).E j).a, .int .i64 ((Q k).E j).b, .int .i64 ((Q k).E j).c, .int .i64 ((Q k).E j).d] 158)) := hJ _ _ _ none hJj (grown_below ((Below.refl _ _).alloc (Nat.le_refl _) _)) (fun r e => by cases e)
          obtain ⟨fn, tmps, assign, body, hy, hR⟩ := hY _ (k, (Q k).E j) _ hlt hJa hpos
          have hj1 : (j : Int) < ((Q k).en : Int) := by omega
          have hj0 : (0 : Int) ≤ (j : Int) := by omega
          have hBa : KQ T Bs W (wr.alloc (.cells #[.int .i64 ((Q k).E j).id, .int .i64 ((Q k).E j).a, .int .i64 ((Q k).E j).b, .int .i64 ((Q k).E j).c, .int .i64 ((Q k).E j).d] 158)) := hBj.alloc hTW hBs _
          simp only [hea] at *
          gi_wp2
          refine hR.mono ?_
          rintro e W3 (⟨rfl, hJ3, hk3⟩ | ⟨rfl, hJx3⟩)
          · gi_wp2
            go_roundw
            case rel => exact ⟨j + 1, by omega, by simp, by rw [someE_succ]; exact hJ3, hBa.trans hk3⟩
            case measure => simp [intOf]; omega
          · gi_wp2
            refine bodyPost_ret (results_none rfl _ _ _) rfl ?_
            exact ⟨⟨_, rfl⟩, .inr ⟨_, by rw [← someE_succ]; exact someE_prefix Q k (j + 1) n (by omega) hlt, hJx3⟩⟩
        · have hje : j = (Q k).en := by omega
          rw [hje, someE_end] at hJj
          gi_wp2
          go_roundw
          case rel => exact ⟨k + 1, by omega, by simp, hJj, hBj⟩
          case measure => simp [intOf]; omega
    · obtain rfl : k = n := by omega
      gi_wp2
      go_end0
      exact ⟨⟨_, rfl⟩, .inl ⟨_, rfl, hJs⟩⟩
/-- An entry with the place of a quad that is there. -/
abbrev QE (n : Nat) := { x : Nat × Ent // x.1 < n }
theorem entriesOf_stopsT (Bs T p off n cap : Nat) (Q : Nat → Qd) (hn : n ≤ 1048576) (hen : ∀ i, i < n → (Q i).en ≤ 1048576) (w : World) (hBs : Bs < w.heap.size) (hT : T ≤ w.heap.size) (hc : w.cell? ⟨Bs, 0, none⟩ = some (.slice (some ⟨p, off, none⟩) n cap)) (hQ : QsAt w T p off n Q) :
    SeqStopsK Fence.wide 3 Try.prog 126 #[.pointer (some ⟨Bs, 0, none⟩)] (fun x : QE n => encQ p off x.1) (KQ T Bs) (fun ys => ys.map (·.1) = allE Q n) (fun _ => True) (allE Q n).length w := fun l J Jx W hW hJ hJx hY h0 => by
  have hlen : ∀ (pre' : List (QE n)) (pre : List (Nat × Ent)), pre'.map (·.1) = pre → pre'.length = pre.length := fun pre' pre e => by rw [← e]; simp
  have h := entriesOf1_inT l Bs T p off n cap Q hn hen (fun s W => ∃ s' : List (QE n), s'.map (·.1) = s ∧ J s' W) (fun s W => ∃ s' : List (QE n), s'.map (·.1) = s ∧ Jx s' W) W
    (fun s W W' row ⟨s', e, h⟩ hg hr => ⟨s', e, hJ s' W W' row h hg hr⟩)
    (fun pre x W1 hx ⟨pre', e, hj⟩ hl => by
      obtain ⟨fn, tmps, assign, body, hy, hR⟩ := hY pre' ⟨x, hx⟩ W1 hj (by rw [hlen pre' pre e]; exact hl)
      refine ⟨fn, tmps, assign, body, hy, hR.mono ?_⟩
      rintro e' W' (⟨h1, h2, h3⟩ | ⟨h1, h2⟩)
      · exact .inl ⟨h1, ⟨pre' ++ [⟨x, hx⟩], by simp [e], h2⟩, h3⟩
      · exact .inr ⟨h1, ⟨pre' ++ [⟨x, hx⟩], by simp [e], h2⟩⟩)
    (Nat.lt_of_lt_of_le hBs hW.size) (Nat.le_trans hT hW.size) ((hW.cell (p := ⟨Bs, 0, none⟩) hBs).trans hc) (hQ.below (hW.mono hT)) ⟨[], rfl, h0⟩
  refine h.mono ?_
  rintro e W' ⟨hv, ⟨ys, hys, s', e', hj⟩ | ⟨pre, _, s', e', hj⟩⟩
  · exact ⟨hv, .inl ⟨s', e'.trans hys, hj⟩⟩
  · exact ⟨hv, .inr ⟨s', trivial, hj⟩⟩
end Go.Proofs.Ytkadkpdcjccnbaa
