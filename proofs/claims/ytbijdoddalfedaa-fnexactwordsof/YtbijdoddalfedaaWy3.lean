/- The words of a line: the program. -/
import Derived.Test.YtbijdoddalfedaaWy2
import Derived.Test.YtbijdoddalfedaaLayW
namespace Go.Proofs.Ytbijdoddalfedaa
open Go.RowKit
set_option linter.unusedSimpArgs false
set_option linter.unusedVariables false
set_option maxRecDepth 100000

theorem wordsIn1_any (w : World) : PredAtRunes Try.prog 17 #[] isSpW w := fun W x _ _ => by
  have e : ((x : Int) == 32) = isSpW x := by
    unfold isSpW
    by_cases h : x = 32
    · subst h; rfl
    · have h2 : ((x : Int) == 32) = false := by
        rw [beq_eq_false_iff_ne]
        omega
      rw [h2]
      exact (beq_eq_false_iff_ne.2 h).symm
  unfold FnGives
  go_enter Try.func17, Try.ntmps17
  go_wp2
  go_ret
  exact ⟨by rw [← e]; rfl, 0, rfl⟩
theorem wordsIn_any (s : ByteArray) (w : World) (hs : s.size ≤ 1048576) : Calls Try.prog 10 #[.string s] w fun e w' => ∃ A, e = .returned (.slice (some ⟨A, 0, none⟩) (wdsB s).length (wdsB s).length) ∧ w.heap.size ≤ A ∧ RowB w.heap.size w' (.slice (some ⟨A, 0, none⟩) (wdsB s).length (wdsB s).length) (wdsB s) ∧ Below w.heap.size w w' := by
  have HF : Hid (Calls Try.prog 16 #[.string s, .func (.func 17) #[] #[]] w fun e w' => ∃ A, e = .returned (.slice (some ⟨A, 0, none⟩) (wdsB s).length (wdsB s).length) ∧ w.heap.size ≤ A ∧ RowB w.heap.size w' (.slice (some ⟨A, 0, none⟩) (wdsB s).length (wdsB s).length) (wdsB s) ∧ Below w.heap.size w w') := by
    have h := Try.fieldsW 17 #[] (enters_of Try.func17 (by kernel_rfl) rfl) isSpW s w (by omega) (wordsIn1_any w)
    rw [fields_wds] at h
    exact h
  go_enter Try.func10, Try.ntmps10
  go_wp2_with fail
  refine Calls.mono HF.out ?_
  rintro e w1 ⟨A, rfl, hA, hR, hb⟩
  have HR := (show Hid _ from hR)
  clear hR HF
  go_wp2
  go_ret
  exact ⟨A, rfl, hA, HR.out, hb⟩
theorem cloneS_any (s : ByteArray) (w : World) (hs : s.size ≤ 1048576) : Calls Try.prog 11 #[.string s] w fun e w' => e = .returned (.string s) ∧ Below w.heap.size w w' := by
  have HC := (show Hid _ from Try.cloneW s w (by omega))
  go_enter Try.func11, Try.ntmps11
  go_wp2_with fail
  refine Calls.mono HC.out ?_
  rintro e w1 ⟨rfl, hb⟩
  go_wp2
  go_ret
  exact ⟨rfl, hb⟩
theorem rowB_none (base : Nat) (w : World) : RowB base w (.slice none 0 0) [] := World.ownsRow_nil _ _ _ _
theorem wdsB_size (s : ByteArray) : ∀ x ∈ wdsB s, x.size ≤ s.size := fun x hx => by
  unfold wdsB at hx
  rw [List.mem_map] at hx
  obtain ⟨y, hy, rfl⟩ := hx
  have h := (pcsZ_le s).2 y (List.mem_filter.1 hy).1
  rw [exB_size h]
  omega
set_option maxHeartbeats 8000000 in
theorem impl_WordsOf_any (s : ByteArray) (w : World) (hs : s.size ≤ 1048576) : Calls Try.prog 5 #[.string s] w fun e w' => ∃ v, e = .returned (.agg #[.int .i64 0, v]) ∧ RowB w.heap.size w' v (wdsB s) ∧ Below w.heap.size w w' := by
  obtain ⟨i0, hi, hz0, hz1, hz2⟩ := info_strL
  have HC := (show Hid _ from fun W => wordsIn_any s W hs)
  have hLn := wdsB_len s
  have HSz : Hid (∀ (j : Nat) x, (wdsB s)[j]? = some x → x.size ≤ 1048576) := fun j x h => Nat.le_trans (wdsB_size s x (List.mem_of_getElem? h)) hs
  generalize wdsB s = L at *
  go_enter Try.func5, Try.ntmps5
  go_wp2_with fail
  generalize hW : (World.alloc w _ : World) = W
  have HB0 : Hid (Below w.heap.size w W) := by show Below _ _ _; subst hW; (repeat (first | exact Below.refl _ _ | assumption | refine Below.drew ?_ | refine bl_alloc ?_ _ | refine bl_then ?_ (by assumption) | refine Below.setCell ?_ (by first | omega | (simp; done) | (simp; omega)) _ | refine bl_store ?_ ?_ _ _))
  have hzW : W.heap.size = w.heap.size + 1 := by subst hW; simp
  have HU : Hid (∀ W' : World, W'.heap[w.heap.size]? = W.heap[w.heap.size]? → W'.cell? ⟨w.heap.size, 0, none⟩ = some (.int .i64 0) ∧ W'.cell? ⟨w.heap.size, 1, none⟩ = some (.slice none 0 0) ∧ W'.frozen? ⟨w.heap.size, 0, none⟩ = false ∧ W'.frozen? ⟨w.heap.size, 1, none⟩ = false) := fun W' h => by
    rw [World.cell?_of_block (a := ⟨w.heap.size, 0, none⟩) h, World.cell?_of_block (a := ⟨w.heap.size, 1, none⟩) h, World.frozen?_of_block (a := ⟨w.heap.size, 0, none⟩) h, World.frozen?_of_block (a := ⟨w.heap.size, 1, none⟩) h]
    subst hW
    simp [go_sem]
  clear hW
  refine Calls.mono (HC.out W) ?_
  rintro e w2 ⟨gp, rfl, hgp, hr, hb⟩
  have hgl := World.ownsRow.lt hr gp rfl
  have HPc : Hid (∀ W' : World, W'.heap[gp]? = w2.heap[gp]? → ∀ (j : Nat) x, L[j]? = some x → W'.cell? ⟨gp, j, none⟩ = some (.string x)) := fun W' h j x hj => by
    rw [World.cell?_of_block (a := ⟨gp, j, none⟩) h]
    have := World.ownsRow.cells hr (g := gp) rfl j (.string x) (by simp [hj])
    rw [add_plainB] at this
    exact this
  have HB2 : Hid (Below W.heap.size W w2) := hb
  have HBw : Hid (Below w.heap.size w w2) := bl_then HB0.out hb
  have hs2 := hb.size
  clear hr hb HC
  go_wp2_with fail
  go_loopw [3, 9] (fun v i wr => ∃ (k : Nat), i = .int .i64 (k : Int) ∧ k ≤ L.length ∧ RowB W.heap.size wr v (L.take k) ∧ (∀ g, v.ownBlock = some g → g ≠ gp) ∧ wr.heap[gp]? = w2.heap[gp]? ∧ w2.heap.size ≤ wr.heap.size ∧ Below W.heap.size W wr) (fun _ i _ => L.length - (intOf i).toNat)
  case atStart => exact ⟨0, rfl, Nat.zero_le _, rowB_none _ _, (fun g h => by cases h), rfl, Nat.le_refl _, HB2.out⟩
  case round =>
    obtain ⟨k, rfl, hk1, hR, hne, hK, hsz, hB⟩ := hrel
    have HR := (show Hid _ from hR)
    have HB : Hid (Below W.heap.size W wr) := hB
    have HK : Hid (wr.heap[gp]? = w2.heap[gp]?) := hK
    have HNe := (show Hid _ from hne)
    clear hB hK hne
    by_cases hk : k < L.length
    · have hki : (k : Int) < (L.length : Int) := by omega
      have hk0 : (0 : Int) ≤ (k : Int) := by omega
      obtain ⟨x, hx⟩ : ∃ x, L[k]? = some x := ⟨_, List.getElem?_eq_getElem hk⟩
      have cell := HPc.out wr HK.out k x hx
      have HTk : Hid (L.take (k + 1) = L.take k ++ [x]) := by show _ = _; rw [List.take_add_one, hx]; rfl
      have HTl : Hid ((L.take k).length = k) := by show _ = _; rw [List.length_take]; omega
      have HCl := (show Hid _ from cloneS_any x wr (HSz.out k x hx))
      clear hx hR
      go_wp2_with fail
      refine Calls.mono HCl.out ?_
      rintro e w4 ⟨rfl, hb4⟩
      have HR4 : Hid (RowB W.heap.size w4 u3 (L.take k)) := rowB_but HR.out hb4
      have HB4 : Hid (Below W.heap.size W w4) := bl_then HB.out hb4
      have HK4 : Hid (w4.heap[gp]? = w2.heap[gp]?) := (hb4.block _ (by omega)).trans HK.out
      have hs4 := hb4.size
      clear hb4 HR HB HK HCl cell
      go_wp2_with (first
        | (at_builtin; go_must (refine wpList_stop ?_)))
      show wpList _ _ _ _ _ _
      generalize hU : (World.alloc w4 _ : World) = U
      have a0 : U.cell? ⟨w4.heap.size, 0, none⟩ = some (.string x) := by subst hU; simp [go_sem]
      have hbU : Below w4.heap.size w4 U := by subst hU; (repeat (first | exact Below.refl _ _ | assumption | refine Below.drew ?_ | refine bl_alloc ?_ _ | refine bl_then ?_ (by assumption) | refine Below.setCell ?_ (by first | omega | (simp; done) | (simp; omega)) _ | refine bl_store ?_ ?_ _ _))
      have hzU : U.heap.size = w4.heap.size + 1 := by subst hU; simp
      have HRU : Hid (RowB W.heap.size U u3 (L.take k)) := rowB_but HR4.out hbU
      have HBU : Hid (Below W.heap.size W U) := bl_then HB4.out hbU
      have HKU : Hid (U.heap[gp]? = w2.heap[gp]?) := (hbU.block _ (by omega)).trans HK4.out
      clear hU hbU HR4 HB4 HK4
      refine wpList_append_own2 rfl (.tmp 13) (.tmp 16) 22 rfl W.heap.size 9 i0 (.string ⟨#[]⟩) 1 16 Try.underlying22 hi hz0 hz1 hz2 rfl (by decide) u3 (L.take k).length ((L.take k).map (.string ·)) rfl ?r0 ⟨w4.heap.size, 0, none⟩ 1 1 [.string x] rfl rfl ?r1 ?r2 ?r3 ?r4 ?r5 ?_
      case r0 => exact HRU.out
      case r1 =>
        intro q u hq
        match q, hq with
        | 0, hq => exact (Option.some.inj hq) ▸ a0
        | q + 1, hq => cases hq
      case r2 => intro u hu; simp at hu; subst hu; rfl
      case r3 => rw [HTl.out]; unfold maxLen; omega
      case r4 => rw [HTl.out]; omega
      case r5 => have := HBU.out.size; omega
      intro v6 w6 hown6 hg6 hl6
      have HR6 : Hid (RowB W.heap.size w6 v6 (L.take (k + 1))) := by
        rw [HTk.out]
        show World.ownsRow _ _ _ _ _ _ _
        rw [List.length_append, List.map_append]
        exact hown6
      have HN6 : Hid (∀ g, v6.ownBlock = some g → g ≠ gp) := fun g hg => by
        rcases hl6 g hg with h | h
        · exact HNe.out g h
        · omega
      have HK6 : Hid (w6.heap[gp]? = w2.heap[gp]?) := (hg6.block _ (by omega) (fun e => HNe.out gp e.symm rfl)).trans HKU.out
      have HB6 : Hid (Below W.heap.size W w6) := HBU.out.grown hg6 (HBU.out.size) (fun j hj => by have := World.ownsRow.lt HRU.out j hj; omega)
      have hs6 := hg6.size
      clear hown6 hg6 hl6 a0 HRU HBU HKU HNe
      go_wp2_with fail
      exact ⟨⟨k + 1, by simp, by omega, HR6.out, HN6.out, HK6.out, by omega, HB6.out⟩, by simp [intOf]; omega⟩
    · obtain rfl : k = L.length := by omega
      have hki : ¬ (L.length : Int) < (L.length : Int) := by omega
      have hrt := HR.out
      rw [List.take_length] at hrt
      obtain ⟨va, vc, hv, _⟩ := RowB.is hrt
      subst hv
      have HRt := (show Hid _ from hrt)
      obtain ⟨q0, q1, z0, z1⟩ := HU.out wr (HB.out.block _ (by omega))
      have HBF : Hid (Below w.heap.size w wr) := bl_then HB0.out HB.out
      clear HR hR hrt
      go_wp2_with fail
      refine bodyPost_ret (v := .agg #[.int .i64 0, .slice va L.length vc]) (by simp [results, Try.results5, go_sem, *]) rfl ⟨_, rfl, ?_, ?_⟩
      · exact rowB_wide (rowB_set (rowB_set HRt.out (by omega)) (by omega)) (by omega)
      · exact (HBF.out.setCell (Nat.le_refl _) _).setCell (Nat.le_refl _) _
end Go.Proofs.Ytbijdoddalfedaa
