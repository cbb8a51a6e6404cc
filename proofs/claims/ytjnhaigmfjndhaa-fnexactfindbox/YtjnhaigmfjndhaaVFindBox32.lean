/- What the model finds of entries by a box. -/
import Derived.Test.YtjnhaigmfjndhaaVFindBox29
import Derived.Test.YtjnhaigmfjndhaaVFindBox30
import Derived.Test.YtjnhaigmfjndhaaVFindBox17
import Derived.Test.YtjnhaigmfjndhaaVFindBox31
import Derived.Deep.DeepCutAuto
namespace Go.Proofs.Ytjnhaigmfjndhaa
open Go.RowKit
set_option linter.unusedSimpArgs false
set_option linter.unusedVariables false
set_option maxRecDepth 100000

theorem info_n64 : (Try.prog.info? 2).map (fun i => (i.zero, i.size, i.bytes)) = some (some (.int .i64 0), 1, 8) := by kernel_rfl
/-- v is a row of its own with these numbers. -/
def RowN (base : Nat) (w : World) (v : Value) (l : List Int) : Prop := w.ownsRow base 2 1 v l.length (l.map (.int .i64 ·))
def nz (l : List Int) (i : Nat) : Int := l.getD i 0
theorem RowN.own {base : Nat} {w : World} {v : Value} {l : List Int} (h : RowN base w v l) : OwnN w base v l.length (nz l) := by
  obtain ⟨h1, h2 | ⟨g, cp, cur, hv, hg, hh, hkc, hcm, hcs, htk⟩⟩ := id h
  · obtain ⟨rfl, h0⟩ := h2
    rw [h0]
    exact ⟨none, 0, rfl, Nat.le_refl _, .inl rfl⟩
  · have hgl : g < w.heap.size := by
      rcases Nat.lt_or_ge g w.heap.size with h' | h'
      · exact h'
      · rw [Array.getElem?_eq_none h'] at hh; cases hh
    have hrow : w.ownsRow base 2 1 (.slice (some ⟨g, 0, none⟩) l.length cp) l.length (l.map (.int .i64 ·)) := ⟨h1, .inr ⟨g, cp, cur, rfl, hg, hh, hkc, hcm, hcs, htk⟩⟩
    refine ⟨some ⟨g, 0, none⟩, cp, hv, hkc, .inr ⟨g, rfl, hg, hgl, fun i hi => ?_, fun o ho => ⟨?_, hrow.frozenAt o⟩⟩⟩
    · rw [Nat.zero_add, hrow.cellAt i (by omega), List.getElem?_map]
      simp [nz, List.getD_eq_getElem?_getD, hi]
    · rw [hrow.cellAt o (by omega), List.getElem?_map]
      simp [ho]
theorem RowN.below {base : Nat} {w w' : World} {v : Value} {l : List Int} (h : RowN base w v l) (hb : Below w.heap.size w w') : RowN base w' v l := by
  obtain ⟨h1, h2 | ⟨g, cp, cur, hv, hg, hh, hr⟩⟩ := h
  · exact ⟨h1, .inl h2⟩
  · refine ⟨h1, .inr ⟨g, cp, cur, hv, hg, ?_, hr⟩⟩
    have hgl : g < w.heap.size := by
      rcases Nat.lt_or_ge g w.heap.size with h' | h'
      · exact h'
      · rw [Array.getElem?_eq_none h'] at hh; cases hh
    rw [hb.block g hgl]
    exact hh
set_option maxHeartbeats 4000000 in
theorem l5Find_gen (va : Option Addr) (m vc : Nat) (E : Nat → Ent) (x0 x1 x2 x3 : Int) (M : Nat → Bool) (w : World) (hI : IsEs w va m E) (hm : m ≤ 24) (hM : entM E x0 x1 x2 x3 = M) :
    Calls Try.prog 23 #[.slice va m vc, .agg #[.int .i64 x0, .int .i64 x1, .int .i64 x2, .int .i64 x3]] w fun e w' => ∃ v, e = .returned v ∧ RowN w.heap.size w' v ((scanM (fun i => (E i).id) M m 999).map fun i => (E i).id) ∧ Below w.heap.size w w' := by
  obtain ⟨i0, hi, hz0, hz1, hz2⟩ := info_parts info_n64
  have HI : Hid (IsEs w va m E) := hI
  clear hI
  go_enter Try.func23, Try.ntmps23
  go_wp2_with fail
  generalize hW : (w.alloc _ : World) = W
  have hB0 : Below w.heap.size w W := by subst hW; (repeat (first | exact Below.refl _ _ | assumption | refine Below.drew ?_ | refine bl_alloc ?_ _ | refine bl_then ?_ (by assumption) | refine Below.setCell ?_ (by first | omega | (simp; done) | (simp; omega)) _ | refine bl_store ?_ ?_ _ _))
  have c00 : ∀ W', Below W.heap.size W W' → W'.cell? ⟨w.heap.size, 0, none⟩ = some (.int .i64 x0) := fun W' h => by
    rw [h.cell (by subst hW; simp <;> omega)]; subst hW; simp [go_sem]
  have c01 : ∀ W', Below W.heap.size W W' → W'.cell? ⟨w.heap.size, 1, none⟩ = some (.int .i64 x1) := fun W' h => by
    rw [h.cell (by subst hW; simp <;> omega)]; subst hW; simp [go_sem]
  have c02 : ∀ W', Below W.heap.size W W' → W'.cell? ⟨w.heap.size, 2, none⟩ = some (.int .i64 x2) := fun W' h => by
    rw [h.cell (by subst hW; simp <;> omega)]; subst hW; simp [go_sem]
  have c03 : ∀ W', Below W.heap.size W W' → W'.cell? ⟨w.heap.size, 3, none⟩ = some (.int .i64 x3) := fun W' h => by
    rw [h.cell (by subst hW; simp <;> omega)]; subst hW; simp [go_sem]
  have hsz : w.heap.size < W.heap.size := by subst hW; simp
  have HWs : Hid (W.heap.size = w.heap.size + 1) := by show _ = _; subst hW; simp
  clear hW
  generalize hW2 : (W.alloc _ : World) = W2
  have hB2 : Below W.heap.size W W2 := by subst hW2; (repeat (first | exact Below.refl _ _ | assumption | refine Below.drew ?_ | refine bl_alloc ?_ _ | refine bl_then ?_ (by assumption) | refine Below.setCell ?_ (by first | omega | (simp; done) | (simp; omega)) _ | refine bl_store ?_ ?_ _ _))
  have hR2 : RowN W.heap.size W2 (.slice (some ⟨W.heap.size, 0, none⟩) 0 0) [] := by
    subst hW2
    exact World.ownsRow_lit (base := W.heap.size) W #[] 0 (Nat.le_refl _) (Nat.zero_le _) rfl
  clear hW2
  have HB0 : Hid (Below w.heap.size w W) := hB0
  have HB2 : Hid (Below W.heap.size W W2) := hB2
  have HR2 : Hid (RowN W.heap.size W2 (.slice (some ⟨w.heap.size + 1, 0, none⟩) 0 0) []) := by
    show RowN _ _ _ _
    rw [← HWs.out]
    exact hR2
  have hIW : IsEs W va m E := HI.out.below hB0
  have HIW : Hid (∀ W', Below W.heap.size W W' → IsEs W' va m E) := fun W' h => hIW.below h
  clear hB0 hB2 hR2 hIW HI
  have HM : Hid (∀ j w, Calls Try.prog 47 #[.agg #[.int .i64 (E j).a, .int .i64 (E j).b, .int .i64 (E j).c, .int .i64 (E j).d], .agg #[.int .i64 x0, .int .i64 x1, .int .i64 x2, .int .i64 x3]] w fun e w' => e = .returned (.bool (M j)) ∧ Below w.heap.size w w') := fun j w => by
    have := l1Meet_any (E j).a (E j).b (E j).c (E j).d x0 x1 x2 x3 w
    rw [← hM]
    exact this
  clear hM
  have HLe : Hid (∀ k, (scanM (fun i => (E i).id) M m k).length ≤ m) := fun k => scanM_len _ _ _ _
  go_loopw [5, 6] (fun v id wr => ∃ k : Nat, k ≤ 999 ∧ id = .int .i64 ((k : Int) + 1) ∧ RowN W.heap.size wr v ((scanM (fun i => (E i).id) M m k).map fun i => (E i).id) ∧ Below W.heap.size W wr) (fun _ id _ => 1000 - (intOf id).toNat)
  case atStart => exact ⟨0, by omega, rfl, HR2.out, HB2.out⟩
  case round =>
    obtain ⟨k, hk, rfl, hO, hB⟩ := hrel
    have HO : Hid (RowN W.heap.size wr u5 ((scanM (fun i => (E i).id) M m k).map fun i => (E i).id)) := hO
    have HB : Hid (Below W.heap.size W wr) := hB
    clear hO hB HR2 HB2
    by_cases hlt : k < 999
    · have hki : (k : Int) + 1 ≤ 999 := by omega
      go_wp2_with fail
      go_loopw [5, 7] (fun v i wr => ∃ j : Nat, j ≤ m ∧ i = .int .i64 (j : Int) ∧ RowN W.heap.size wr v ((scanM (fun i => (E i).id) M m k ++ (List.range j).filter (fun i => decide ((E i).id = ((k + 1 : Nat) : Int)) && M i)).map fun i => (E i).id) ∧ Below W.heap.size W wr) (fun _ i _ => m - (intOf i).toNat)
      case atStart => exact ⟨0, by omega, rfl, by simpa using HO.out, HB.out⟩
      case round =>
        obtain ⟨j, hj, rfl, hO, hB⟩ := hrel
        have HO' : Hid (RowN W.heap.size wr u5 ((scanM (fun i => (E i).id) M m k ++ (List.range j).filter (fun i => decide ((E i).id = ((k + 1 : Nat) : Int)) && M i)).map fun i => (E i).id)) := hO
        have HB' : Hid (Below W.heap.size W wr) := hB
        have b0 : ∀ W', Below wr.heap.size wr W' → W'.cell? ⟨w.heap.size, 0, none⟩ = some (.int .i64 x0) := fun W' h => c00 W' (bl_then hB h)
        have b1 : ∀ W', Below wr.heap.size wr W' → W'.cell? ⟨w.heap.size, 1, none⟩ = some (.int .i64 x1) := fun W' h => c01 W' (bl_then hB h)
        have b2 : ∀ W', Below wr.heap.size wr W' → W'.cell? ⟨w.heap.size, 2, none⟩ = some (.int .i64 x2) := fun W' h => c02 W' (bl_then hB h)
        have b3 : ∀ W', Below wr.heap.size wr W' → W'.cell? ⟨w.heap.size, 3, none⟩ = some (.int .i64 x3) := fun W' h => c03 W' (bl_then hB h)
        have hszr : W.heap.size ≤ wr.heap.size := hB.size
        clear hO hB HO HB c00 c01 c02 c03
        by_cases hjm : j < m
        · rcases HIW.out wr HB'.out with hz | ⟨g, o, rfl, hgl, hat⟩
          · omega
          have hji : (j : Int) < (m : Int) := by omega
          have hj0 : (0 : Int) ≤ (j : Int) := by omega
          have hatj : ∀ W', Below wr.heap.size wr W' → EntAt W' g (o + j * 5) (E j) := fun W' h => (hat j hjm).below h hgl
          have e0 : ∀ W', Below wr.heap.size wr W' → W'.cell? ⟨g, o + j * 5, none⟩ = some (.int .i64 (E j).id) := fun W' h => (hatj W' h).1
          have e1 : ∀ W', Below wr.heap.size wr W' → W'.cell? ⟨g, o + j * 5 + 1, none⟩ = some (.int .i64 (E j).a) := fun W' h => (hatj W' h).2.1
          have e2 : ∀ W', Below wr.heap.size wr W' → W'.cell? ⟨g, o + j * 5 + 1 + 1, none⟩ = some (.int .i64 (E j).b) := fun W' h => (hatj W' h).2.2.1
          have e3 : ∀ W', Below wr.heap.size wr W' → W'.cell? ⟨g, o + j * 5 + 1 + 2, none⟩ = some (.int .i64 (E j).c) := fun W' h => (hatj W' h).2.2.2.1
          have e4 : ∀ W', Below wr.heap.size wr W' → W'.cell? ⟨g, o + j * 5 + 1 + 3, none⟩ = some (.int .i64 (E j).d) := fun W' h => (hatj W' h).2.2.2.2
          have HS : Hid ((List.range (j + 1)).filter (fun i => decide ((E i).id = ((k + 1 : Nat) : Int)) && M i) = (List.range j).filter (fun i => decide ((E i).id = ((k + 1 : Nat) : Int)) && M i) ++ (if (decide ((E j).id = ((k + 1 : Nat) : Int)) && M j) = true then [j] else [])) := by
            show _ = _
            rw [List.range_succ, List.filter_append]
            simp only [List.filter_cons, List.filter_nil]
          obtain ⟨b, hb⟩ : ∃ b, (decide ((E j).id = ((k + 1 : Nat) : Int)) && M j) = b := ⟨_, rfl⟩
          rw [hb] at HS
          have Hb : Hid ((decide ((E j).id = ((k + 1 : Nat) : Int)) && M j) = b) := hb
          have HMj : Hid (∀ w, Calls Try.prog 47 #[.agg #[.int .i64 (E j).a, .int .i64 (E j).b, .int .i64 (E j).c, .int .i64 (E j).d], .agg #[.int .i64 x0, .int .i64 x1, .int .i64 x2, .int .i64 x3]] w fun e w' => e = .returned (.bool (M j)) ∧ Below w.heap.size w w') := HM.out j
          clear hatj hat hb HM HIW
          go_wp2_with fail
          go_cut [34] (fun t wc => Below wr.heap.size wr wc ∧ t = .bool b)
          case first =>
              by_cases hid : (E j).id = (k : Int) + 1
              · have hbM : b = M j := by
                  rw [← Hb.out]
                  simp [show (E j).id = ((k + 1 : Nat) : Int) by omega]
                subst hbM
                have s1 := HMj.out
                have hq1 : ((E j).id == (k : Int) + 1) = true := by simpa using hid
                generalize (E j).id = eid at *
                clear HMj Hb HS
                go_region_held3 (fun W' => Below wr.heap.size wr W') ((repeat (first | exact Below.refl _ _ | assumption | refine Below.drew ?_ | refine bl_alloc ?_ _ | refine bl_then ?_ (by assumption) | refine Below.setCell ?_ (by first | omega | (simp; done) | (simp; omega)) _ | refine bl_store ?_ ?_ _ _)))
                  (first
                    | (go_at_call 47; refine (s1 _).mono ?_; rintro e w' ⟨rfl, hb⟩)
                    | fail)
                go_wp2_with fail
                go_meet
                case rel => exact ⟨by assumption, rfl⟩
              · have hbF : b = false := by
                  rw [← Hb.out]
                  simp
                  intro h
                  omega
                subst hbF
                have hq1 : ((E j).id == (k : Int) + 1) = false := by simpa using hid
                clear HMj Hb HS hid
                generalize (E j).id = eid at e0 hq1
                refine wp_region_noPanic ?_
                refine wp_region_held_drew (S := fun W' => Below wr.heap.size wr W') (by kernel_rfl) (by (repeat (first | exact Below.refl _ _ | assumption | refine Below.drew ?_ | refine bl_alloc ?_ _ | refine bl_then ?_ (by assumption) | refine Below.setCell ?_ (by first | omega | (simp; done) | (simp; omega)) _ | refine bl_store ?_ ?_ _ _))) (fun hHeld => ?_)
                have hBdq : Below wr.heap.size wr wr.drew := hHeld
                refine takeD (i := 0) (d := some 19) (v := ?vq0) rfl rfl (by kernel_rfl) (by kernel_rfl) (by kernel_rfl) (fun _ _ _ h => h) (Or.inl ⟨by rfl, ?hyq0⟩) (by assumption) ?_
                case hyq0 => (intro w hSw; (try dsimp only at hSw); go_simp <;> with_reducible rfl)
                try simp only [Act.put, List.setIfInBounds_toArray, List.set_cons_zero, List.set_cons_succ]
                refine takeD (i := 1) (d := some 20) (v := ?vq1) rfl rfl (by kernel_rfl) (by kernel_rfl) (by kernel_rfl) (fun _ _ _ h => h) (Or.inl ⟨by rfl, ?hyq1⟩) (by assumption) ?_
                case hyq1 => (intro w hSw; (try dsimp only at hSw); go_simp <;> with_reducible rfl)
                try simp only [Act.put, List.setIfInBounds_toArray, List.set_cons_zero, List.set_cons_succ]
                refine takeD (i := 2) (d := some 21) (v := ?vq2) rfl rfl (by kernel_rfl) (by kernel_rfl) (by kernel_rfl) (fun _ _ _ h => h) (Or.inl ⟨by rfl, ?hyq2⟩) (by assumption) ?_
                case hyq2 => (intro w hSw; (try dsimp only at hSw); go_simp <;> with_reducible rfl)
                try simp only [Act.put, List.setIfInBounds_toArray, List.set_cons_zero, List.set_cons_succ]
                refine takeD (i := 3) (d := some 22) (v := ?vq3) rfl rfl (by kernel_rfl) (by kernel_rfl) (by kernel_rfl) (fun _ _ _ h => h) (Or.inl ⟨by rfl, ?hyq3⟩) (by assumption) ?_
                case hyq3 => (intro w hSw; (try dsimp only at hSw); go_simp <;> with_reducible rfl)
                try simp only [Act.put, List.setIfInBounds_toArray, List.set_cons_zero, List.set_cons_succ]
                refine takeD (i := 4) (d := some 23) (v := ?vq4) rfl rfl (by kernel_rfl) (by kernel_rfl) (by kernel_rfl) (fun _ _ _ h => h) (Or.inl ⟨by rfl, ?hyq4⟩) (by assumption) ?_
                case hyq4 => (intro w hSw; (try dsimp only at hSw); go_simp <;> with_reducible rfl)
                try simp only [Act.put, List.setIfInBounds_toArray, List.set_cons_zero, List.set_cons_succ]
                refine takeD (i := 5) (d := some 24) (v := ?vq5) rfl rfl (by kernel_rfl) (by kernel_rfl) (by kernel_rfl) (fun _ _ _ h => h) (Or.inl ⟨by rfl, ?hyq5⟩) (by assumption) ?_
                case hyq5 => (intro w hSw; (try dsimp only at hSw); go_simp <;> with_reducible rfl)
                try simp only [Act.put, List.setIfInBounds_toArray, List.set_cons_zero, List.set_cons_succ]
                refine takeD (i := 6) (d := some 25) (v := ?vq6) rfl rfl (by kernel_rfl) (by kernel_rfl) (by kernel_rfl) (fun _ _ _ h => h) (Or.inl ⟨by rfl, ?hyq6⟩) (by assumption) ?_
                case hyq6 => (intro w hSw; (try dsimp only at hSw); go_simp <;> with_reducible rfl)
                try simp only [Act.put, List.setIfInBounds_toArray, List.set_cons_zero, List.set_cons_succ]
                refine takeD (i := 7) (d := some 26) (v := ?vq7) rfl rfl (by kernel_rfl) (by kernel_rfl) (by kernel_rfl) (fun _ _ _ h => h) (Or.inl ⟨by rfl, ?hyq7⟩) (by assumption) ?_
                case hyq7 => (intro w hSw; (try dsimp only at hSw); go_simp <;> with_reducible rfl)
                try simp only [Act.put, List.setIfInBounds_toArray, List.set_cons_zero, List.set_cons_succ]
                refine passD (i := 8) (d := some 27) rfl rfl (by kernel_rfl) (by kernel_rfl) (by kernel_rfl) (fun _ _ _ h => h) (by rfl) (by assumption) ?_
                try simp only [Act.put, List.setIfInBounds_toArray, List.set_cons_zero, List.set_cons_succ]
                refine passD (i := 9) (d := some 28) rfl rfl (by kernel_rfl) (by kernel_rfl) (by kernel_rfl) (fun _ _ _ h => h) (by rfl) (by assumption) ?_
                try simp only [Act.put, List.setIfInBounds_toArray, List.set_cons_zero, List.set_cons_succ]
                refine passD (i := 10) (d := some 29) rfl rfl (by kernel_rfl) (by kernel_rfl) (by kernel_rfl) (fun _ _ _ h => h) (by rfl) (by assumption) ?_
                try simp only [Act.put, List.setIfInBounds_toArray, List.set_cons_zero, List.set_cons_succ]
                refine passD (i := 11) (d := some 30) rfl rfl (by kernel_rfl) (by kernel_rfl) (by kernel_rfl) (fun _ _ _ h => h) (by rfl) (by assumption) ?_
                try simp only [Act.put, List.setIfInBounds_toArray, List.set_cons_zero, List.set_cons_succ]
                refine passD (i := 12) (d := some 31) rfl rfl (by kernel_rfl) (by kernel_rfl) (by kernel_rfl) (fun _ _ _ h => h) (by rfl) (by assumption) ?_
                try simp only [Act.put, List.setIfInBounds_toArray, List.set_cons_zero, List.set_cons_succ]
                refine passD (i := 13) (d := some 32) rfl rfl (by kernel_rfl) (by kernel_rfl) (by kernel_rfl) (fun _ _ _ h => h) (by rfl) (by assumption) ?_
                try simp only [Act.put, List.setIfInBounds_toArray, List.set_cons_zero, List.set_cons_succ]
                refine passD (i := 14) (d := some 33) rfl rfl (by kernel_rfl) (by kernel_rfl) (by kernel_rfl) (fun _ _ _ h => h) (by rfl) (by assumption) ?_
                try simp only [Act.put, List.setIfInBounds_toArray, List.set_cons_zero, List.set_cons_succ]
                refine takeD (i := 15) (d := some 34) (v := ?vq15) rfl rfl (by kernel_rfl) (by kernel_rfl) (by kernel_rfl) (fun _ _ _ h => h) (Or.inl ⟨by rfl, ?hyq15⟩) (by assumption) ?_
                case hyq15 => (intro w hSw; (try dsimp only at hSw); go_simp <;> with_reducible rfl)
                try simp only [Act.put, List.setIfInBounds_toArray, List.set_cons_zero, List.set_cons_succ]
                refine wpAnyH_done (by kernel_rfl) ?_ _
                refine NoPanic.normal ?_
                go_wp2_with fail
                go_meet
                case rel => exact ⟨by assumption, rfl⟩
          obtain ⟨hBc, rfl⟩ := hcut
          have HOc : Hid (RowN W.heap.size wc u5 ((scanM (fun i => (E i).id) M m k ++ (List.range j).filter (fun i => decide ((E i).id = ((k + 1 : Nat) : Int)) && M i)).map fun i => (E i).id)) := HO'.out.below hBc
          have HBc : Hid (Below W.heap.size W wc) := bl_then HB'.out hBc
          have hszc : W.heap.size ≤ wc.heap.size := Nat.le_trans hszr hBc.size
          have hLL : (scanM (fun i => (E i).id) M m k ++ (List.range j).filter (fun i => decide ((E i).id = ((k + 1 : Nat) : Int)) && M i)).length ≤ 48 := by
            have h1 := HLe.out k
            have h2 := List.length_filter_le (fun i => decide ((E i).id = ((k + 1 : Nat) : Int)) && M i) (List.range j)
            rw [List.length_range] at h2
            rw [List.length_append]
            omega
          clear hBc HO' HB' b0 b1 b2 b3 e0 e1 e2 e3 e4 HMj
          cases b
          · have HR : Hid (∀ w' v', RowN W.heap.size w' v' ((scanM (fun i => (E i).id) M m k ++ (List.range j).filter (fun i => decide ((E i).id = ((k + 1 : Nat) : Int)) && M i)).map fun i => (E i).id) → RowN W.heap.size w' v' ((scanM (fun i => (E i).id) M m k ++ (List.range (j + 1)).filter (fun i => decide ((E i).id = ((k + 1 : Nat) : Int)) && M i)).map fun i => (E i).id)) := fun w' v' h => by
              rw [HS.out]
              simpa using h
            clear HS Hb
            go_wp2_with fail
            go_roundw
            case rel => exact ⟨j + 1, by omega, by go_num, HR.out _ _ HOc.out, HBc.out⟩
            case measure => simp [intOf]; omega
          · have hid : (E j).id = ((k + 1 : Nat) : Int) := by
              have := Hb.out
              rw [Bool.and_eq_true] at this
              exact of_decide_eq_true this.1
            have HR : Hid (∀ w' v', w'.ownsRow W.heap.size 2 1 v' (((scanM (fun i => (E i).id) M m k ++ (List.range j).filter (fun i => decide ((E i).id = ((k + 1 : Nat) : Int)) && M i)).map fun i => (E i).id).length + 1) (((scanM (fun i => (E i).id) M m k ++ (List.range j).filter (fun i => decide ((E i).id = ((k + 1 : Nat) : Int)) && M i)).map fun i => (E i).id).map (.int .i64 ·) ++ [.int .i64 ((k : Int) + 1)]) → RowN W.heap.size w' v' ((scanM (fun i => (E i).id) M m k ++ (List.range (j + 1)).filter (fun i => decide ((E i).id = ((k + 1 : Nat) : Int)) && M i)).map fun i => (E i).id)) := fun w' v' h => by
              have e1 : ((scanM (fun i => (E i).id) M m k ++ (List.range (j + 1)).filter (fun i => decide ((E i).id = ((k + 1 : Nat) : Int)) && M i)).map fun i => (E i).id) = ((scanM (fun i => (E i).id) M m k ++ (List.range j).filter (fun i => decide ((E i).id = ((k + 1 : Nat) : Int)) && M i)).map fun i => (E i).id) ++ [(k : Int) + 1] := by
                rw [HS.out, if_pos rfl, ← List.append_assoc, List.map_append]
                simp [hid]
              rw [e1]
              generalize ((scanM (fun i => (E i).id) M m k ++ (List.range j).filter (fun i => decide ((E i).id = ((k + 1 : Nat) : Int)) && M i)).map fun i => (E i).id) = LI at *
              show World.ownsRow _ _ _ _ _ _ _
              rw [List.length_append, List.map_append]
              exact h
            have hLI : ((scanM (fun i => (E i).id) M m k ++ (List.range j).filter (fun i => decide ((E i).id = ((k + 1 : Nat) : Int)) && M i)).map fun i => (E i).id).length ≤ 48 := by rw [List.length_map]; exact hLL
            clear HS Hb hid hLL
            generalize ((scanM (fun i => (E i).id) M m k ++ (List.range j).filter (fun i => decide ((E i).id = ((k + 1 : Nat) : Int)) && M i)).map fun i => (E i).id) = LL at *
            have HOd : Hid (wc.ownsRow W.heap.size 2 1 u5 LL.length (LL.map (.int .i64 ·))) := HOc.out
            clear HOc
            go_wp2_with (first
              | (at_builtin; go_must (refine wpList_append_own _ rfl _ _ 28 rfl W.heap.size 2 i0 (.int .i64 0) 1 8 Try.underlying28 hi hz0 hz1 hz2 rfl (by decide) _ LL.length (LL.map (.int .i64 ·)) rfl (World.ownsRow.alloc HOd.out _) ⟨wc.heap.size, 0, none⟩ 1 1 [.int .i64 ((k : Int) + 1)] rfl rfl ?c1 ?c2 ?c3 ?c4 ?c5 ?_)))
            case c1 =>
              intro q u hq
              match q, hq with
              | 0, hq => simp at hq; subst hq; simp [Addr.add, go_sem]
              | q + 1, hq => simp at hq
            case c2 => intro u hu; simp at hu; subst hu; rfl
            case c3 => unfold maxLen; omega
            case c4 => omega
            case c5 => simp; omega
            intro v' w3 hown' hgrow hnil
            clear hnil
            generalize hV : (wc.alloc _ : World) = V at hgrow
            have hBV : Below wc.heap.size wc V := by subst hV; (repeat (first | exact Below.refl _ _ | assumption | refine Below.drew ?_ | refine bl_alloc ?_ _ | refine bl_then ?_ (by assumption) | refine Below.setCell ?_ (by first | omega | (simp; done) | (simp; omega)) _ | refine bl_store ?_ ?_ _ _))
            have hBg : Below W.heap.size V w3 := (Below.refl _ _).grown hgrow (by have := hBV.size; omega) (fun k hk => (HOd.out.lt k hk).1)
            have HB3 : Hid (Below W.heap.size W w3) := (HBc.out.trans (hBV.mono hszc)).trans hBg
            have HO3 := (show Hid _ from HR.out _ _ hown')
            clear hown' hgrow hBg hBV hV
            go_wp2
            go_roundw
            case rel => exact ⟨j + 1, by omega, by go_num, HO3.out, HB3.out⟩
            case measure => simp [intOf]; omega
        · have hje : j = m := by omega
          subst hje
          go_wp2_with fail
          go_roundw
          case rel => exact ⟨k + 1, by omega, by go_num, HO'.out, HB'.out⟩
          case measure => simp [intOf]; omega
    · have hke : k = 999 := by omega
      subst hke
      go_wp2
      go_ret
      refine ⟨_, rfl, ?_, bl_then HB0.out HB.out⟩
      obtain ⟨h1, h2 | ⟨g, cp, cur, hv, hg, hr⟩⟩ := HO.out
      · exact ⟨h1, .inl h2⟩
      · exact ⟨h1, .inr ⟨g, cp, cur, hv, by omega, hr⟩⟩
theorem l5Find_any (va : Option Addr) (m vc : Nat) (E : Nat → Ent) (x0 x1 x2 x3 : Int) (w : World) (hI : IsEs w va m E) (hm : m ≤ 24) (hin : ∀ i, i < m → 1 ≤ (E i).id ∧ (E i).id ≤ 999) :
    Calls Try.prog 23 #[.slice va m vc, .agg #[.int .i64 x0, .int .i64 x1, .int .i64 x2, .int .i64 x3]] w fun e w' => ∃ v, e = .returned v ∧ RowN w.heap.size w' v ((rawI E m x0 x1 x2 x3).mergeSort (fun x y => decide (x ≤ y))) ∧ Below w.heap.size w w' := by
  have h := l5Find_gen va m vc E x0 x1 x2 x3 _ w hI hm rfl
  rw [scanM_sort (fun i => (E i).id) _ m 999 hin] at h
  exact h
end Go.Proofs.Ytjnhaigmfjndhaa
