/- Numbers are told one by one, collected, sorted, and each is kept once: the program. -/
import Derived.Test.YtabjjmfjbhnkdaaCn1
import Derived.RangeFuncNested
import Derived.RangeFuncBound
import Derived.RangeFuncCalls
import Derived.RangeFuncLeaves
import Derived.RangeFuncBox
import Derived.Shelf.Abstract
import Derived.Shelf.RegionOpen
import Derived.OwnWalkIn
import Derived.TacticsInMore
import Derived.LoopNIn
import Derived.LoopIn
namespace Go.Proofs.Ytabjjmfjbhnkdaa
open Go.RowKit Go.Shelf
attribute [local go_sem] Oper.semAt_some
set_option linter.unusedSimpArgs false
set_option linter.unusedVariables false
set_option maxRecDepth 100000

theorem take_nz (zs : List Int) {k : Nat} (hk : k ≤ zs.length) : (List.range k).map (nz zs) = zs.take k := by
  apply List.ext_getElem
  · simp [hk]
  · intro i h1 h2
    have h1' : i < k := by simpa using h1
    have h3 : i < zs.length := by omega
    simp [nz, List.getD_eq_getElem?_getD, h3]
set_option maxHeartbeats 2000000 in
theorem values1_in (l Bs n0 b off len cap : Nat) (zs : List Int) (hlen : len = zs.length) (hreach : len ≤ 1048576) (hb : b < n0) (J Jx : List Int → World → Prop)
    (hY : ∀ pre x W, J pre W → pre.length < len → YieldAt Fence.wide 2 Try.prog l #[.int .i64 x] W fun e W' =>
      (e = .returned (.bool true) ∧ J (pre ++ [x]) W' ∧ Below n0 W W') ∨ (e = .returned (.bool false) ∧ Jx (pre ++ [x]) W'))
    (W : World) (hBs : W.cell? ⟨Bs, 0, none⟩ = some (.slice (some ⟨b, off, none⟩) len cap)) (hc : NsAt W b off len (nz zs)) (h0 : J [] W) :
    CallsIn Fence.wide 3 Try.prog 53 #[.func (.yield l) #[] #[], .pointer (some ⟨Bs, 0, none⟩)] W fun e W' => (∃ v, e = .returned v) ∧
      ((∃ ys, ys = zs ∧ J ys W') ∨ (∃ pre, pre <+: zs ∧ Jx pre W')) := by
  refine callsIn_of_wp Try.func53 rfl trivial ?_ rfl
  simp only [Try.ntmps53, List.size_toArray, List.length_cons, List.length_nil, Nat.reduceAdd, Nat.reduceSub, Array.replicate_succ, Array.replicate_zero, List.push_toArray, List.append_toArray, List.nil_append, List.cons_append]
  gi_wp2
  gi_loopw [7] (fun i wr => ∃ k : Nat, k ≤ len ∧ i = .int .i64 k ∧ J ((List.range k).map (nz zs)) wr ∧ Below n0 W wr)
    (fun i _ => len - (intOf i).toNat)
  case atStart => exact ⟨0, Nat.zero_le _, rfl, h0, Below.refl _ _⟩
  case round =>
    obtain ⟨k, hk, rfl, hJs, hnx⟩ := hrel
    have hcx : k < len → wr.cell? ⟨b, off + k, none⟩ = some (.int .i64 (nz zs k)) := fun h => (hnx.cell (p := ⟨b, off + k, none⟩) hb).trans (hc k h)
    by_cases hlt : k < len
    · obtain ⟨fn, tmps, assign, body, hy, hR⟩ := hY _ (nz zs k) wr hJs (by simpa using hlt)
      have hcx' := hcx hlt
      have HS : Hid ((List.range (k + 1)).map (nz zs) = (List.range k).map (nz zs) ++ [nz zs k]) := by show _ = _; simp [List.range_succ]
      have HT : Hid ((List.range (k + 1)).map (nz zs) <+: zs) := by
        show _ <+: _
        rw [take_nz zs (by omega)]
        exact List.take_prefix _ _
      generalize nz zs k = x at *
      gi_wp2
      refine hR.mono ?_
      rintro e W3 (⟨rfl, hJ3, hk3⟩ | ⟨rfl, hJx3⟩)
      · gi_wp2
        go_roundw
        case rel => exact ⟨k + 1, by omega, by simp, by rw [HS.out]; exact hJ3, hnx.trans hk3⟩
        case measure => simp [intOf]; omega
      · gi_wp2
        refine bodyPost_ret (results_none rfl _ _ _) rfl ?_
        exact ⟨⟨_, rfl⟩, .inr ⟨_, by rw [← HS.out]; exact HT.out, hJx3⟩⟩
    · obtain rfl : k = len := by omega
      gi_wp2
      go_end0
      exact ⟨⟨_, rfl⟩, .inl ⟨_, rfl, by rw [hlen, take_nz zs (Nat.le_refl _), List.take_length] at hJs; exact hJs⟩⟩
set_option maxHeartbeats 1000000 in
theorem values1_nil (l Bs : Nat) (J : List Int → World → Prop) (W : World) (hBs : W.cell? ⟨Bs, 0, none⟩ = some (.slice none 0 0)) (h0 : J [] W) :
    CallsIn Fence.wide 3 Try.prog 53 #[.func (.yield l) #[] #[], .pointer (some ⟨Bs, 0, none⟩)] W fun e W' => (∃ v, e = .returned v) ∧ J [] W' := by
  refine callsIn_of_wp Try.func53 rfl trivial ?_ rfl
  simp only [Try.ntmps53, List.size_toArray, List.length_cons, List.length_nil, Nat.reduceAdd, Nat.reduceSub, Array.replicate_succ, Array.replicate_zero, List.push_toArray, List.append_toArray, List.nil_append, List.cons_append]
  gi_wp2
  gi_loopw [7] (fun i wr => i = .int .i64 0 ∧ J [] wr) (fun _ _ => 0)
  case atStart => exact ⟨rfl, h0⟩
  case round =>
    obtain ⟨rfl, hJs⟩ := hrel
    gi_wp2
    go_end0
    exact ⟨⟨_, rfl⟩, hJs⟩
/-- v holds these numbers, in a block below n0; or it is nil. -/
def SrcN (n0 : Nat) (W : World) (v : Value) (zs : List Int) : Prop := (v = .slice none 0 0 ∧ zs = []) ∨ ∃ b off cap, v = .slice (some ⟨b, off, none⟩) zs.length cap ∧ b < n0 ∧ NsAt W b off zs.length (nz zs)
theorem SrcN.below {n0 : Nat} {A B : World} (h : Below n0 A B) {v : Value} {zs : List Int} : SrcN n0 A v zs → SrcN n0 B v zs
  | .inl e => .inl e
  | .inr ⟨b, off, cap, e, hb, hN⟩ => .inr ⟨b, off, cap, e, hb, NsAt.below hN h hb⟩
theorem RowN.src {base n0 : Nat} {W : World} {v : Value} {zs : List Int} (h : RowN base W v zs) (hn : W.heap.size ≤ n0) : SrcN n0 W v zs := by
  obtain ⟨h1, h2 | ⟨g, cp, cur, hv, hg, hh, hr⟩⟩ := id h
  · exact .inl ⟨h2.1, List.eq_nil_of_length_eq_zero h2.2⟩
  · right
    have hgl : g < W.heap.size := lt_of_heapC hh
    refine ⟨g, 0, cp, hv, by omega, ?_⟩
    obtain ⟨a, cap, hv', _, h0 | ⟨b, ha, _, _, hN, _⟩⟩ := h.own
    · exact fun i hi => by omega
    · rw [hv] at hv'
      injection hv' with e1
      rw [ha] at e1
      injection e1 with e1
      injection e1 with e1
      subst e1
      exact hN
theorem values_stopsC (Bs n0 : Nat) (sv : Value) (zs : List Int) (hreach : zs.length ≤ 1048576) (w : World) (hBs : Bs < w.heap.size) (hn0 : n0 ≤ w.heap.size) (hc : w.cell? ⟨Bs, 0, none⟩ = some sv) (hI : SrcN n0 w sv zs) :
    SeqStopsK Fence.wide 3 Try.prog 53 #[.pointer (some ⟨Bs, 0, none⟩)] (fun x : Int => #[Value.int .i64 x]) (Below n0) (fun ys => ys = zs) (fun pre => pre <+: zs) zs.length w := fun l J Jx W hW _ _ hY h0 => by
  have hc' := (hW.cell (p := ⟨Bs, 0, none⟩) hBs).trans hc
  rcases hI.below (hW.mono hn0) with ⟨rfl, rfl⟩ | ⟨b, off, cap, rfl, hb, hcs⟩
  · exact (values1_nil l Bs J W hc' h0).mono fun e W' ⟨he, hj⟩ => ⟨he, .inl ⟨_, rfl, hj⟩⟩
  · exact values1_in l Bs n0 b off zs.length cap zs rfl hreach hb J Jx hY W hc' hcs h0
theorem one_cellC (W : World) (t : TypeId) (v : Value) : ∀ j u, [v][j]? = some u → (W.alloc (.cells #[v] t)).cell? ((⟨W.heap.size, 0, none⟩ : Addr).add j) = some u := fun j u hj => by
  match j, hj with
  | 0, hj => simp at hj; subst hj; simp [Addr.add, go_sem]
  | j + 1, hj => simp at hj
set_option maxHeartbeats 4000000 in
theorem appendSeq_any (Bs : Nat) (sv : Value) (zs : List Int) (hreach : zs.length ≤ 1048576) (w : World) (hBs : Bs < w.heap.size) (hc : w.cell? ⟨Bs, 0, none⟩ = some sv) (hI : SrcN w.heap.size w sv zs) :
    Calls Try.prog 54 #[.slice none 0 0, .func (.func 53) #[] #[.pointer (some ⟨Bs, 0, none⟩)]] w fun e w' => ∃ v, e = .returned v ∧ RowN w.heap.size w' v zs ∧ Below w.heap.size w w' := by
  obtain ⟨i0, hi, hz0, hz1, hz2⟩ := info_parts info_n64
  refine (callsIn_wide (n := 4)).1 ?_
  refine callsIn_of_wp_marks Try.func54 rfl trivial ?_ rfl
  simp only [Try.ntmps54, List.size_toArray, List.length_cons, List.length_nil, Nat.reduceAdd, Nat.reduceSub, Array.replicate_succ, Array.replicate_zero, List.push_toArray, List.append_toArray, List.nil_append, List.cons_append]
  gi_wp2
  have bS := Boxed.new w 24 (.slice none 0 0)
  have hB0 : Below w.heap.size w (w.alloc (.cells #[.slice none 0 0] 24)) := (Below.refl _ w).alloc (Nat.le_refl _) _
  have hmx : 1048577 ≤ maxLen := by decide
  refine wpIn_rangeFunc_ownG rfl (by omega) (gf := 53) (lb := #[.pointer (some ⟨Bs, 0, none⟩)]) rfl trivial (enters_of Try.func53 (by kernel_rfl) rfl)
    (values_stopsC Bs w.heap.size sv zs hreach _ (by simp; omega) (by simp) ((hB0.cell (p := ⟨Bs, 0, none⟩) hBs).trans hc) (hI.below hB0)) belowK_t (belowK_b (by simp)) (Below.refl _ _) (fun _ => rfl)
    (fun pre W => (∃ v, Boxed W w.heap.size 24 v ∧ W.ownsRow w.heap.size 2 1 v pre.length (pre.map (.int .i64 ·)) ∧ True) ∧ Below w.heap.size w W)
    (fun _ _ _ => False)
    (OwnFrom.and (Own.from (holdsRow_own w.heap.size w.heap.size 24 2 1 (fun pre : List Int => pre.length) (fun pre => pre.map (.int .i64 ·)) (fun _ _ => True)) _) (ownFrom_below (Nat.le_refl _) (by simp)))
    (fun _ _ _ _ _ hs _ _ => hs)
    ⟨⟨_, bS, World.ownsRow_nil _ _ _ _, trivial⟩, hB0⟩
    (fun x => { tmps := #[.slice none 0 0, .func (.func 53) #[] #[.pointer (some ⟨Bs, 0, none⟩)], .pointer (some ⟨w.heap.size, 0, none⟩), undef, .slice none 0 0, .int .i64 x, .func (.func 53) #[] #[.pointer (some ⟨Bs, 0, none⟩)], .int .i64 x, undef, undef, undef, undef, undef], defers := [] }) ?assign ?body ?done ?stop
  case assign =>
    intro l x W K hK
    gi_wp2
    exact hK
  case body =>
    rintro l pre x W ⟨⟨v, hv, hrow, _⟩, hB⟩ hlt
    have hcv := hv.cell
    have hl1 := hv.lt
    gi_wp2_with (gi_at_builtin; refine wpListIn_append_own _ rfl _ _ 24 rfl w.heap.size 2 i0 (.int .i64 0) 1 8 Try.underlying24 hi hz0 hz1 hz2 rfl (by decide) _ pre.length (pre.map (.int .i64 ·)) rfl (World.ownsRow.alloc hrow _) ⟨W.heap.size, 0, none⟩ 1 1 [.int .i64 x] rfl rfl (one_cellC _ _ _) (by simp [Value.oneCell']) (by omega) (by omega) (by have := hB.size; simp; omega) ?_; intro v' w3 hown' hgrow _; obtain ⟨g', cap', rfl⟩ := ownsRow_succ hown'; obtain ⟨hv1, hv2, hr2, hk2, hb2⟩ := hv.appended (by decide) hrow hB.size (by omega) hown' hgrow; have hc1 := hv1.cell; have hf1 := hv1.frozen)
    refine ⟨hk2.from _, hb2, ⟨_, hv2, ?_, trivial⟩, hB.trans hb2⟩
    rw [List.length_append, List.map_append]
    exact hr2
  case done =>
    rintro D ys W hD rfl ⟨⟨v, hv, hrow, _⟩, hB⟩ hK
    have hcv := hv.cell
    gi_wp2
    refine ⟨by simp, .inl ⟨_, _, rfl, run_takeDeferred hK, ?_⟩⟩
    exact ⟨v, results_tmp (t := 4) rfl _ _ _, v, rfl, ownsRow_putObj hrow _ hK rfl, hB.trans (belowK_b (w := w) (Nat.le_refl _) W D _ _ (by simp at hD; omega) hK rfl rfl)⟩
  case stop =>
    rintro D c pre W _ _ h _
    exact h.elim
theorem below_grownC {base : Nat} {w w' : World} {v : Value} {zs : List Int} (hR : RowN base w v zs) (hg : w.grownBy w' v.ownBlock) (hb : base ≤ w.heap.size) : Below base w w' :=
  (Below.refl _ _).grown hg hb (fun k hk => (World.ownsRow.lt hR k hk).1)
set_option maxHeartbeats 1000000 in
theorem collect_any (Bs : Nat) (sv : Value) (zs : List Int) (hreach : zs.length ≤ 1048576) (w : World) (hBs : Bs < w.heap.size) (hc : w.cell? ⟨Bs, 0, none⟩ = some sv) (hI : SrcN w.heap.size w sv zs) :
    Calls Try.prog 51 #[.func (.func 53) #[] #[.pointer (some ⟨Bs, 0, none⟩)]] w fun e w' => ∃ v, e = .returned v ∧ RowN w.heap.size w' v zs ∧ Below w.heap.size w w' := by
  have HA := (show Hid _ from appendSeq_any Bs sv zs hreach w hBs hc hI)
  clear hI hc
  go_enter Try.func51, Try.ntmps51
  go_wp2_with fail
  refine Calls.mono HA.out ?_
  rintro e w' ⟨v, rfl, hR, hb⟩
  have HR : Hid (RowN w.heap.size w' v zs) := hR
  have HB : Hid (Below w.heap.size w w') := hb
  clear hR hb
  go_wp2
  go_ret
  exact ⟨_, rfl, HR.out, HB.out⟩
set_option maxHeartbeats 1000000 in
theorem sorted_any (Bs : Nat) (sv : Value) (zs : List Int) (hreach : zs.length ≤ 1048576) (w : World) (hBs : Bs < w.heap.size) (hc : w.cell? ⟨Bs, 0, none⟩ = some sv) (hI : SrcN w.heap.size w sv zs) :
    Calls Try.prog 48 #[.func (.func 53) #[] #[.pointer (some ⟨Bs, 0, none⟩)]] w fun e w' => ∃ v, e = .returned v ∧ RowN w.heap.size w' v (zs.mergeSort fun x y => decide (x ≤ y)) ∧ Below w.heap.size w w' := by
  have HA := (show Hid _ from collect_any Bs sv zs hreach w hBs hc hI)
  clear hI hc
  go_enter Try.func48, Try.ntmps48
  go_wp2_with fail
  refine Calls.mono HA.out ?_
  rintro e w1 ⟨v, rfl, hR, hb⟩
  have HS := (show Hid _ from sortC_any w.heap.size v zs w1 hR hreach)
  have HB : Hid (∀ w2, w1.grownBy w2 v.ownBlock → Below w.heap.size w w2) := fun w2 hg => hb.trans (below_grownC hR hg hb.size)
  clear hR hb HA
  go_wp2_with fail
  refine Calls.mono HS.out ?_
  rintro e w2 ⟨rfl, hR2, hG2⟩
  have HR2 : Hid (RowN w.heap.size w2 v (zs.mergeSort fun x y => decide (x ≤ y))) := hR2
  have HB2 : Hid (Below w.heap.size w w2) := HB.out w2 hG2
  clear hR2 hG2 HB HS
  go_wp2
  go_ret
  exact ⟨_, rfl, HR2.out, HB2.out⟩
theorem values_any (a : Option Addr) (n cap : Nat) (w : World) : Calls Try.prog 49 #[.slice a n cap] w fun e w' => e = .returned (.func (.func 53) #[] #[.pointer (some ⟨w.heap.size, 0, none⟩)]) ∧ w' = w.alloc (.cells #[.slice a n cap] 24) := by
  have hmf : ∀ (fn : Fn) (first cap : Array Value) (w : World), (Instr.makeFunc fn first cap).run Try.prog w = .ok (.func fn first cap) w := fun _ _ _ _ => rfl
  go_enter Try.func49, Try.ntmps49
  go_wp2
  go_ret
  exact ⟨rfl, rfl⟩
set_option maxHeartbeats 2000000 in
theorem rising_any (base : Nat) (v : Value) (zs : List Int) (w : World) (hR : RowN base w v zs) (hn : zs.length ≤ 1048576) :
    Calls Try.prog 40 #[v] w fun e w' => ∃ v', e = .returned v' ∧ OwnN w' w.heap.size v' (Lib.compact (zs.mergeSort fun x y => decide (x ≤ y))).length (nz (Lib.compact (zs.mergeSort fun x y => decide (x ≤ y)))) ∧ Below w.heap.size w w' := by
  obtain ⟨av, cv, hvs, _, _⟩ := hR.own
  subst hvs
  have HR : Hid (RowN base w (.slice av zs.length cv) zs) := hR
  clear hR
  have hml : (zs.mergeSort fun x y => decide (x ≤ y)).length = zs.length := List.length_mergeSort _
  have HML : Hid ((zs.mergeSort fun x y => decide (x ≤ y)).length ≤ 1048576) := by show _ ≤ _; rw [hml]; exact hn
  clear hml
  go_enter Try.func40, Try.ntmps40
  go_wp2_with fail
  refine (values_any _ _ _ _).mono ?_
  rintro e w1 ⟨rfl, hw1⟩
  have hb1 : Below w.heap.size w w1 := by rw [hw1]; (repeat (first | exact Below.refl _ _ | assumption | refine Below.drew ?_ | refine bl_alloc ?_ _ | refine bl_then ?_ (by assumption) | refine Below.setCell ?_ (by first | omega | (simp; done) | (simp; omega)) _ | refine bl_store ?_ ?_ _ _))
  have hc1 : w1.cell? ⟨w.heap.size, 0, none⟩ = some (.slice av zs.length cv) := by rw [hw1]; simp [go_sem]
  have hl1 : w.heap.size < w1.heap.size := World.block_lt_of_cell? _ _ hc1
  clear hw1
  have HS := (show Hid _ from sorted_any w.heap.size _ zs hn w1 hl1 hc1 ((HR.out.below hb1).src (Nat.le_refl _)))
  have HB1 : Hid (Below w.heap.size w w1) := hb1
  clear hb1 hc1 HR
  go_wp2_with fail
  refine Calls.mono HS.out ?_
  rintro e w2 ⟨v2, rfl, hR2, hb2⟩
  have HC := (show Hid _ from compactC_any w1.heap.size v2 _ w2 hR2 HML.out)
  have HB2 : Hid (∀ w3, w2.grownBy w3 v2.ownBlock → Below w.heap.size w w3) := fun w3 hg => HB1.out.trans ((hb2.trans (below_grownC hR2 hg hb2.size)).mono HB1.out.size)
  clear hR2 hb2 HS
  go_wp2_with fail
  refine Calls.mono HC.out ?_
  rintro e w3 ⟨v3, rfl, hO3, hG3⟩
  have HO3 : Hid (OwnN w3 w1.heap.size v3 (Lib.compact (zs.mergeSort fun x y => decide (x ≤ y))).length (nz (Lib.compact (zs.mergeSort fun x y => decide (x ≤ y))))) := hO3
  have HB3 : Hid (Below w.heap.size w w3) := HB2.out w3 hG3
  clear hO3 hG3 HC
  go_wp2
  go_ret
  refine ⟨_, rfl, ?_, HB3.out⟩
  obtain ⟨a, cap, hv, hc, h0 | ⟨b, ha, hbb, hr⟩⟩ := HO3.out
  · exact ⟨a, cap, hv, hc, .inl h0⟩
  · exact ⟨a, cap, hv, hc, .inr ⟨b, ha, by omega, hr⟩⟩
end Go.Proofs.Ytabjjmfjbhnkdaa
