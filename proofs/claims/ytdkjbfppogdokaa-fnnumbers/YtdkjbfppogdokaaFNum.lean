/- FnNumbers: the law out of what is called. -/
import Derived.Test.YtdkjbfppogdokaaDrawN
import Derived.Test.YtdkjbfppogdokaaRp
import Derived.Test.YtdkjbfppogdokaaRf
import Derived.Test.YtdkjbfppogdokaaFo
import Derived.Test.YtdkjbfppogdokaaLwBig
import Derived.Test.YtdkjbfppogdokaaTake
import Derived.Laws.BytesArg
import Derived.Deep.DeepCutAuto
namespace Go.Proofs.Ytdkjbfppogdokaa
open Go.RowKit
set_option linter.unusedSimpArgs false
set_option linter.unusedVariables false
set_option maxRecDepth 100000

theorem str_self (s : ByteArray) : (s != s) = false := by
  have h : (s == s) = true := by cases s with
    | mk d =>
      show (d == d) = true
      simp
  simp [bne, h]
set_option maxHeartbeats 1000000 in
theorem FnNumbers_big (a : Option Addr) (n cap : Nat) (w : World) (h : 1048576 < n) : Calls Try.prog 3 #[.slice a n cap] w fun e w' => e = .returned (.bool true) ∧ Below w.heap.size w w' := by
  have hb : decide (1048576 < (n : Int)) = true := by simp; omega
  go_enter Try.func3, Try.ntmps3
  go_wp2_with (go_at_call 9; refine (lwBig_any _ _ _ _).mono ?_; rintro e w' ⟨rfl, rfl⟩)
  go_ret
  exact ⟨rfl, by (repeat (first | exact Below.refl _ _ | assumption | refine Below.drew ?_ | refine bl_alloc ?_ _ | refine bl_then ?_ (by assumption) | refine Below.setCell ?_ (by first | omega | (simp; done) | (simp; omega)) _ | refine bl_store ?_ ?_ _ _))⟩

set_option maxHeartbeats 16000000 in
theorem FnNumbers_walk (a : Option Addr) (n cap : Nat) (Z : Nat → Int) (w : World) (h : IsBytes w a n Z ∧ (∀ i, 0 ≤ Z i ∧ Z i ≤ 255) ∧ n ≤ cap) :
    Calls Try.prog 3 #[.slice a n cap] w fun e w' => e = .returned (.bool true) ∧ Below w.heap.size w w' := by
  obtain ⟨hI, hR, hcap⟩ := h
  by_cases hbig : 1048576 < n
  · exact FnNumbers_big a n cap w hbig
  have hn1 : n ≤ 1048576 := by omega
  have HI : Hid (IsBytes w a n Z) := hI
  have HR : Hid (∀ i, 0 ≤ Z i ∧ Z i ≤ 255) := hR
  have hn : decide (1048576 < (n : Int)) = false := by simp; omega
  clear hI hR hbig
  go_enter Try.func3, Try.ntmps3
  go_wp2_with fail
  refine (lwBig_any _ _ _ _).mono ?_
  rintro e w0 ⟨rfl, hw0⟩
  have hw0' := hw0.symm
  subst hw0'
  clear hw0
  go_wp2_with fail
  refine (DrawReadNumber_any a n cap Z _ HI.out HR.out hn1 hcap).mono ?_
  rintro e w1 ⟨v, l, rfl, hll, hby, hR1, hne, hb1⟩
  obtain ⟨g, cp, rfl, hg1, hg2, hg3, hbs⟩ := hR1.at0 hne
  have HD1 : Hid (BsAt w1 g 0 l.length (zz l)) := hbs
  have HB1 : Hid (Below w.heap.size w w1) := hb1
  have HY : Hid (Bys l) := hby
  clear hR1 hne hbs hb1 hby hn
  obtain ⟨L, hL⟩ : ∃ L, l.length = L := ⟨_, rfl⟩
  have HL : Hid (l.length = L) := hL
  rw [hL] at HD1 hg3 hll ⊢
  clear hL
  have HZ : Hid (∀ i, 0 ≤ zz l i ∧ zz l i ≤ 255) := fun i => HY.out.zz i
  go_wp2_with fail
  refine (impl_ReadNumber_any (some ⟨g, 0, none⟩) L cp (zz l) _ (HD1.out.is hg2) HZ.out (by omega) hg3).mono ?_
  rintro e w2 ⟨rfl, hb2⟩
  have HD2 : Hid (BsAt w2 g 0 L (zz l)) := HD1.out.below hb2 hg2
  have HB2 : Hid (Below w.heap.size w w2) := bl_then HB1.out hb2
  have hg2' : g < w2.heap.size := Nat.lt_of_lt_of_le hg2 hb2.size
  clear hb2 HD1 HB1
  obtain ⟨c, x0, y0, hV⟩ : ∃ c x0 y0 : Int, rdV (zz l) L = .agg #[.int .i64 c, .int .i64 x0, .int .i64 y0] := by
    unfold rdV
    split <;> exact ⟨_, _, _, rfl⟩
  have HV : Hid (rdV (zz l) L = .agg #[.int .i64 c, .int .i64 x0, .int .i64 y0]) := hV
  rw [hV]
  clear hV
  go_wp2_with fail
  generalize hW3 : (w2.alloc _ : World) = w3
  have hb23 : Below w2.heap.size w2 w3 := by subst hW3; (repeat (first | exact Below.refl _ _ | assumption | refine Below.drew ?_ | refine bl_alloc ?_ _ | refine bl_then ?_ (by assumption) | refine Below.setCell ?_ (by first | omega | (simp; done) | (simp; omega)) _ | refine bl_store ?_ ?_ _ _))
  have c0 : ∀ W', Below w3.heap.size w3 W' → W'.cell? ⟨w2.heap.size, 0, none⟩ = some (.int .i64 c) := fun W' h => by
    rw [h.cell (by subst hW3; simp)]; subst hW3; simp [go_sem]
  have c1 : ∀ W', Below w3.heap.size w3 W' → W'.cell? ⟨w2.heap.size, 1, none⟩ = some (.int .i64 x0) := fun W' h => by
    rw [h.cell (by subst hW3; simp)]; subst hW3; simp [go_sem]
  have c2 : ∀ W', Below w3.heap.size w3 W' → W'.cell? ⟨w2.heap.size, 2, none⟩ = some (.int .i64 y0) := fun W' h => by
    rw [h.cell (by subst hW3; simp)]; subst hW3; simp [go_sem]
  clear hW3
  have HD3 : Hid (BsAt w3 g 0 L (zz l)) := HD2.out.below hb23 hg2'
  have HB3 : Hid (Below w.heap.size w w3) := bl_then HB2.out hb23
  have hg3' : g < w3.heap.size := Nat.lt_of_lt_of_le hg2' hb23.size
  clear hb23 HD2 HB2
  go_cut [56] (fun t wc => Below w3.heap.size w3 wc ∧ t = .bool false)
  case first =>
    cases hrd : rd (zz l) L with
    | none =>
      obtain ⟨rfl, rfl, rfl⟩ : c = 5 ∧ x0 = 0 ∧ y0 = 0 := by
        have := HV.out
        unfold rdV at this
        rw [hrd] at this
        simp at this
        omega
      have Hsr : Hid (∀ W', Below w3.heap.size w3 W' → Calls Try.prog 13 #[.slice (some ⟨g, 0, none⟩) L cp] W' fun e w' => e = .returned (.agg #[.int .i64 5, .int .i64 0, .int .i64 0]) ∧ Below W'.heap.size W' w') := fun W' hb => HV.out ▸ spec_ReadNumber_any _ L cp (zz l) W' ((HD3.out.below hb hg3').is (Nat.lt_of_lt_of_le hg3' hb.size)) HZ.out (by omega)
      have hfd : ∀ w : World, (Instr.field 26 (.agg #[.int .i64 5, .int .i64 0, .int .i64 0]) 0).run Try.prog w = .ok (.int .i64 5) w := fun _ => by kernel_rfl
      clear hrd HV
      refine wp_region_noPanic ?_
      refine wp_region_held_drew (S := fun W' => Below w3.heap.size w3 W') (by kernel_rfl) (by (repeat (first | exact Below.refl _ _ | assumption | refine Below.drew ?_ | refine bl_alloc ?_ _ | refine bl_then ?_ (by assumption) | refine Below.setCell ?_ (by first | omega | (simp; done) | (simp; omega)) _ | refine bl_store ?_ ?_ _ _))) (fun hHeld => ?_)
      have hBdn : Below w3.heap.size w3 w3.drew := hHeld
      refine takeD (i := 0) (d := some 16) (v := ?vn0) rfl rfl (by kernel_rfl) (by kernel_rfl) (by kernel_rfl) (fun _ _ _ h => h) (Or.inl ⟨by rfl, ?hyn0⟩) (by assumption) ?_
      case hyn0 => (intro w hSw; (try dsimp only at hSw); go_simp <;> with_reducible rfl)
      try simp only [Act.put, List.setIfInBounds_toArray, List.set_cons_zero, List.set_cons_succ]
      refine takeD (i := 1) (d := some 17) (v := ?vn1) rfl rfl (by kernel_rfl) (by kernel_rfl) (by kernel_rfl) (fun _ _ _ h => h) (Or.inl ⟨by rfl, ?hyn1⟩) (by assumption) ?_
      case hyn1 => (intro w hSw; (try dsimp only at hSw); go_simp <;> with_reducible rfl)
      try simp only [Act.put, List.setIfInBounds_toArray, List.set_cons_zero, List.set_cons_succ]
      refine takeD (i := 2) (d := some 18) (v := ?vn2) rfl rfl (by kernel_rfl) (by kernel_rfl) (by kernel_rfl) (fun _ _ _ h => h) (Or.inl ⟨by rfl, ?hyn2⟩) (by assumption) ?_
      case hyn2 => (intro w hSw; (try dsimp only at hSw); go_simp <;> with_reducible rfl)
      try simp only [Act.put, List.setIfInBounds_toArray, List.set_cons_zero, List.set_cons_succ]
      refine takeD (i := 3) (d := some 19) (v := ?vn3) rfl rfl (by kernel_rfl) (by kernel_rfl) (by kernel_rfl) (fun _ _ _ h => h) (Or.inl ⟨by rfl, ?hyn3⟩) (by assumption) ?_
      case hyn3 => (intro w hSw; (try dsimp only at hSw); go_simp <;> with_reducible rfl)
      try simp only [Act.put, List.setIfInBounds_toArray, List.set_cons_zero, List.set_cons_succ]
      refine passD (i := 4) (d := some 20) rfl rfl (by kernel_rfl) (by kernel_rfl) (by kernel_rfl) (fun _ _ _ h => h) (by rfl) (by assumption) ?_
      try simp only [Act.put, List.setIfInBounds_toArray, List.set_cons_zero, List.set_cons_succ]
      refine passD (i := 5) (d := some 21) rfl rfl (by kernel_rfl) (by kernel_rfl) (by kernel_rfl) (fun _ _ _ h => h) (by rfl) (by assumption) ?_
      try simp only [Act.put, List.setIfInBounds_toArray, List.set_cons_zero, List.set_cons_succ]
      refine passD (i := 6) (d := some 22) rfl rfl (by kernel_rfl) (by kernel_rfl) (by kernel_rfl) (fun _ _ _ h => h) (by rfl) (by assumption) ?_
      try simp only [Act.put, List.setIfInBounds_toArray, List.set_cons_zero, List.set_cons_succ]
      refine passD (i := 7) (d := some 23) rfl rfl (by kernel_rfl) (by kernel_rfl) (by kernel_rfl) (fun _ _ _ h => h) (by rfl) (by assumption) ?_
      try simp only [Act.put, List.setIfInBounds_toArray, List.set_cons_zero, List.set_cons_succ]
      refine passD (i := 8) (d := some 24) rfl rfl (by kernel_rfl) (by kernel_rfl) (by kernel_rfl) (fun _ _ _ h => h) (by rfl) (by assumption) ?_
      try simp only [Act.put, List.setIfInBounds_toArray, List.set_cons_zero, List.set_cons_succ]
      refine passD (i := 9) (d := some 25) rfl rfl (by kernel_rfl) (by kernel_rfl) (by kernel_rfl) (fun _ _ _ h => h) (by rfl) (by assumption) ?_
      try simp only [Act.put, List.setIfInBounds_toArray, List.set_cons_zero, List.set_cons_succ]
      refine passD (i := 10) (d := some 26) rfl rfl (by kernel_rfl) (by kernel_rfl) (by kernel_rfl) (fun _ _ _ h => h) (by rfl) (by assumption) ?_
      try simp only [Act.put, List.setIfInBounds_toArray, List.set_cons_zero, List.set_cons_succ]
      refine passD (i := 11) (d := some 27) rfl rfl (by kernel_rfl) (by kernel_rfl) (by kernel_rfl) (fun _ _ _ h => h) (by rfl) (by assumption) ?_
      try simp only [Act.put, List.setIfInBounds_toArray, List.set_cons_zero, List.set_cons_succ]
      refine passD (i := 12) (d := some 28) rfl rfl (by kernel_rfl) (by kernel_rfl) (by kernel_rfl) (fun _ _ _ h => h) (by rfl) (by assumption) ?_
      try simp only [Act.put, List.setIfInBounds_toArray, List.set_cons_zero, List.set_cons_succ]
      refine passD (i := 13) (d := some 29) rfl rfl (by kernel_rfl) (by kernel_rfl) (by kernel_rfl) (fun _ _ _ h => h) (by rfl) (by assumption) ?_
      try simp only [Act.put, List.setIfInBounds_toArray, List.set_cons_zero, List.set_cons_succ]
      refine passD (i := 14) (d := some 30) rfl rfl (by kernel_rfl) (by kernel_rfl) (by kernel_rfl) (fun _ _ _ h => h) (by rfl) (by assumption) ?_
      try simp only [Act.put, List.setIfInBounds_toArray, List.set_cons_zero, List.set_cons_succ]
      refine passD (i := 15) (d := some 31) rfl rfl (by kernel_rfl) (by kernel_rfl) (by kernel_rfl) (fun _ _ _ h => h) (by rfl) (by assumption) ?_
      try simp only [Act.put, List.setIfInBounds_toArray, List.set_cons_zero, List.set_cons_succ]
      refine passD (i := 16) (d := some 32) rfl rfl (by kernel_rfl) (by kernel_rfl) (by kernel_rfl) (fun _ _ _ h => h) (by rfl) (by assumption) ?_
      try simp only [Act.put, List.setIfInBounds_toArray, List.set_cons_zero, List.set_cons_succ]
      refine passD (i := 17) (d := some 33) rfl rfl (by kernel_rfl) (by kernel_rfl) (by kernel_rfl) (fun _ _ _ h => h) (by rfl) (by assumption) ?_
      try simp only [Act.put, List.setIfInBounds_toArray, List.set_cons_zero, List.set_cons_succ]
      refine passD (i := 18) (d := some 34) rfl rfl (by kernel_rfl) (by kernel_rfl) (by kernel_rfl) (fun _ _ _ h => h) (by rfl) (by assumption) ?_
      try simp only [Act.put, List.setIfInBounds_toArray, List.set_cons_zero, List.set_cons_succ]
      refine passD (i := 19) (d := some 35) rfl rfl (by kernel_rfl) (by kernel_rfl) (by kernel_rfl) (fun _ _ _ h => h) (by rfl) (by assumption) ?_
      try simp only [Act.put, List.setIfInBounds_toArray, List.set_cons_zero, List.set_cons_succ]
      refine passD (i := 20) (d := some 36) rfl rfl (by kernel_rfl) (by kernel_rfl) (by kernel_rfl) (fun _ _ _ h => h) (by rfl) (by assumption) ?_
      try simp only [Act.put, List.setIfInBounds_toArray, List.set_cons_zero, List.set_cons_succ]
      refine passD (i := 21) (d := some 37) rfl rfl (by kernel_rfl) (by kernel_rfl) (by kernel_rfl) (fun _ _ _ h => h) (by rfl) (by assumption) ?_
      try simp only [Act.put, List.setIfInBounds_toArray, List.set_cons_zero, List.set_cons_succ]
      refine passD (i := 22) (d := some 38) rfl rfl (by kernel_rfl) (by kernel_rfl) (by kernel_rfl) (fun _ _ _ h => h) (by rfl) (by assumption) ?_
      try simp only [Act.put, List.setIfInBounds_toArray, List.set_cons_zero, List.set_cons_succ]
      refine passD (i := 23) (d := some 39) rfl rfl (by kernel_rfl) (by kernel_rfl) (by kernel_rfl) (fun _ _ _ h => h) (by rfl) (by assumption) ?_
      try simp only [Act.put, List.setIfInBounds_toArray, List.set_cons_zero, List.set_cons_succ]
      refine passD (i := 24) (d := some 40) rfl rfl (by kernel_rfl) (by kernel_rfl) (by kernel_rfl) (fun _ _ _ h => h) (by rfl) (by assumption) ?_
      try simp only [Act.put, List.setIfInBounds_toArray, List.set_cons_zero, List.set_cons_succ]
      refine passD (i := 25) (d := some 41) rfl rfl (by kernel_rfl) (by kernel_rfl) (by kernel_rfl) (fun _ _ _ h => h) (by rfl) (by assumption) ?_
      try simp only [Act.put, List.setIfInBounds_toArray, List.set_cons_zero, List.set_cons_succ]
      refine passD (i := 26) (d := some 42) rfl rfl (by kernel_rfl) (by kernel_rfl) (by kernel_rfl) (fun _ _ _ h => h) (by rfl) (by assumption) ?_
      try simp only [Act.put, List.setIfInBounds_toArray, List.set_cons_zero, List.set_cons_succ]
      refine takeD (i := 27) (d := some 43) (v := ?vn27) rfl rfl (by kernel_rfl) (by kernel_rfl) (by kernel_rfl) (fun _ _ _ h => h) (Or.inl ⟨by rfl, ?hyn27⟩) (by assumption) ?_
      case hyn27 => (intro w hSw; (try dsimp only at hSw); go_simp <;> with_reducible rfl)
      try simp only [Act.put, List.setIfInBounds_toArray, List.set_cons_zero, List.set_cons_succ]
      refine takeD (i := 28) (d := some 44) (v := ?vn28) rfl rfl (by kernel_rfl) (by kernel_rfl) (by kernel_rfl) (fun _ _ _ h => h) (Or.inl ⟨by rfl, ?hyn28⟩) (by assumption) ?_
      case hyn28 => (intro w hSw; (try dsimp only at hSw); go_simp <;> with_reducible rfl)
      try simp only [Act.put, List.setIfInBounds_toArray, List.set_cons_zero, List.set_cons_succ]
      refine takeD (i := 29) (d := some 45) (v := ?vn29) rfl rfl (by kernel_rfl) (by kernel_rfl) (by kernel_rfl) (fun _ _ _ h => h) (Or.inl ⟨by rfl, ?hyn29⟩) (by assumption) ?_
      case hyn29 => (intro w hSw; (try dsimp only at hSw); go_simp <;> with_reducible rfl)
      try simp only [Act.put, List.setIfInBounds_toArray, List.set_cons_zero, List.set_cons_succ]
      refine takeD (i := 30) (d := some 46) (v := ?vn30) rfl rfl (by kernel_rfl) (by kernel_rfl) (by kernel_rfl) (fun _ _ _ h => h) (Or.inl ⟨by rfl, ?hyn30⟩) (by assumption) ?_
      case hyn30 => (intro w hSw; (try dsimp only at hSw); go_simp <;> with_reducible rfl)
      try simp only [Act.put, List.setIfInBounds_toArray, List.set_cons_zero, List.set_cons_succ]
      refine takeD (i := 31) (d := some 47) (v := ?vn31) rfl rfl (by kernel_rfl) (by kernel_rfl) (by kernel_rfl) (fun _ _ _ h => h) (Or.inl ⟨by rfl, ?hyn31⟩) (by assumption) ?_
      case hyn31 => (intro w hSw; (try dsimp only at hSw); go_simp <;> with_reducible rfl)
      try simp only [Act.put, List.setIfInBounds_toArray, List.set_cons_zero, List.set_cons_succ]
      refine takeD (i := 32) (d := some 48) (v := ?vn32) rfl rfl (by kernel_rfl) (by kernel_rfl) (by kernel_rfl) (fun _ _ _ h => h) (Or.inl ⟨by rfl, ?hyn32⟩) (by assumption) ?_
      case hyn32 => (intro w hSw; (try dsimp only at hSw); go_simp <;> with_reducible rfl)
      try simp only [Act.put, List.setIfInBounds_toArray, List.set_cons_zero, List.set_cons_succ]
      refine takeD (i := 33) (d := some 49) (v := ?vn33) rfl rfl (by kernel_rfl) (by kernel_rfl) (by kernel_rfl) (fun _ _ _ h => h) (Or.inl ⟨by rfl, ?hyn33⟩) (by assumption) ?_
      case hyn33 => (intro w hSw; (try dsimp only at hSw); go_simp <;> with_reducible rfl)
      try simp only [Act.put, List.setIfInBounds_toArray, List.set_cons_zero, List.set_cons_succ]
      refine takeD (i := 36) (d := some 52) (v := ?vn36) rfl rfl (by kernel_rfl) (by kernel_rfl) (by kernel_rfl) (fun _ _ _ h => h) (Or.inl ⟨by rfl, ?hyn36⟩) (by assumption) ?_
      case hyn36 => (intro w hSw; (try dsimp only at hSw); go_simp <;> with_reducible rfl)
      try simp only [Act.put, List.setIfInBounds_toArray, List.set_cons_zero, List.set_cons_succ]
      refine takeD (i := 37) (d := some 53) (v := ?vn37) rfl rfl (by kernel_rfl) (by kernel_rfl) (by kernel_rfl) (fun _ _ _ h => h) (Or.inl ⟨by rfl, ?hyn37⟩) (by assumption) ?_
      case hyn37 => (intro w hSw; (try dsimp only at hSw); go_simp <;> with_reducible rfl)
      try simp only [Act.put, List.setIfInBounds_toArray, List.set_cons_zero, List.set_cons_succ]
      refine wpAnyH_ready (rs := [34]) (by kernel_rfl) (by simp) ?_
      refine (AllReadyH.cons rfl (fun K hK => ?_) AllReadyH.nil)
      go_simp
      refine Calls.mono (Hsr.out _ hBdn) ?_
      rintro e wqn34 ⟨rfl, hqn34⟩
      have hBn34 : Below w3.heap.size w3 wqn34 := bl_then hBdn hqn34
      go_wp2_with fail
      refine hK.out _ _ hBn34 (fun hHeld => ?_)
      clear hK K
      try simp only [Act.put, List.setIfInBounds_toArray, List.set_cons_zero, List.set_cons_succ]
      refine takeD (i := 35) (d := some 51) (v := ?vn35) rfl rfl (by kernel_rfl) (by kernel_rfl) (by kernel_rfl) (fun _ _ _ h => h) (Or.inl ⟨by rfl, ?hyn35⟩) (by assumption) ?_
      case hyn35 => (intro w hSw; (try dsimp only at hSw); go_simp <;> with_reducible rfl)
      try simp only [Act.put, List.setIfInBounds_toArray, List.set_cons_zero, List.set_cons_succ]
      refine takeD (i := 38) (d := some 54) (v := ?vn38) rfl rfl (by kernel_rfl) (by kernel_rfl) (by kernel_rfl) (fun _ _ _ h => h) (Or.inl ⟨by rfl, ?hyn38⟩) (by assumption) ?_
      case hyn38 => (intro w hSw; (try dsimp only at hSw); go_simp <;> with_reducible rfl)
      try simp only [Act.put, List.setIfInBounds_toArray, List.set_cons_zero, List.set_cons_succ]
      refine takeD (i := 39) (d := some 55) (v := ?vn39) rfl rfl (by kernel_rfl) (by kernel_rfl) (by kernel_rfl) (fun _ _ _ h => h) (Or.inl ⟨by rfl, ?hyn39⟩) (by assumption) ?_
      case hyn39 => (intro w hSw; (try dsimp only at hSw); go_simp <;> with_reducible rfl)
      try simp only [Act.put, List.setIfInBounds_toArray, List.set_cons_zero, List.set_cons_succ]
      refine takeD (i := 40) (d := some 56) (v := ?vn40) rfl rfl (by kernel_rfl) (by kernel_rfl) (by kernel_rfl) (fun _ _ _ h => h) (Or.inl ⟨by rfl, ?hyn40⟩) (by assumption) ?_
      case hyn40 => (intro w hSw; (try dsimp only at hSw); go_simp <;> with_reducible rfl)
      try simp only [Act.put, List.setIfInBounds_toArray, List.set_cons_zero, List.set_cons_succ]
      refine wpAnyH_done (by kernel_rfl) ?_ _
      refine NoPanic.normal ?_
      -- behind: hBn34
      go_wp2_with fail
      go_meet
      case rel => exact ⟨by assumption, rfl⟩
    | some x =>
      obtain ⟨x, y⟩ := x
      obtain ⟨rfl, rfl, rfl⟩ : c = 0 ∧ x0 = (x : Int) ∧ y0 = (y : Int) := by
        have := HV.out
        unfold rdV at this
        rw [hrd] at this
        simp at this
        omega
      obtain ⟨r1, r2, r3, r4⟩ := rd_bd hrd
      simp only at r1 r2 r3 r4
      obtain ⟨s1, s2⟩ := rd_back HZ.out hrd
      have hpl : Hid (pnL (x : Int) = putI x) := by
        show _ = _
        have : inB (x : Int) 0 1099511627776 = true := by simp [inB]; omega
        simp [pnL, this]
      have hpc : Hid (pnC (x : Int) = 0) := by
        show _ = _
        have : inB (x : Int) 0 1099511627776 = true := by simp [inB]; omega
        simp [pnC, this]
      have Hpn : Hid (∀ W', Calls Try.prog 12 #[.int .i64 (x : Int)] W' fun e w' => ∃ v, e = .returned (.agg #[.int .i64 0, v]) ∧ RowB W'.heap.size w' v (pnL (x : Int)) ∧ Below W'.heap.size W' w') := fun W' => hpc.out ▸ impl_PutNumber_any (x : Int) W'
      obtain ⟨str, hstr⟩ : ∃ str, strOfNums (putI x) = str := ⟨_, rfl⟩
      have HSTR : Hid (strOfNums (putI x) = str) := hstr
      have hsne : (str != str) = false := str_self str
      have hfd : ∀ (a : Option Addr) (m c : Nat) (w : World), (Instr.field 29 (.agg #[.int .i64 0, .slice a m c]) 1).run Try.prog w = .ok (.slice a m c) w := fun _ _ _ _ => by kernel_rfl
      have hy1 : ¬ (y : Int) < 1 := by omega
      have hy2 : ¬ (L : Int) < (y : Int) := by omega
      have hy3 : (y : Int) ≤ (cp : Int) := by omega
      have hy4 : (0 : Int) ≤ (y : Int) := by omega
      have hcd : ∀ W', Below w3.heap.size w3 W' → (convert 22 9 (.slice (some ⟨g, 0, none⟩) y cp)).run Try.prog W' = .ok (.string str) W' := fun W' hb => hstr ▸
        run_convert_bytes_arg W' 22 5 Try.underlying22 Try.underlying5 g 0 y cp (putI x) s1.symm (fun i hi => by
          have := (HD3.out.below hb hg3') i (by omega)
          rw [this, s2 i (by omega)]; rfl) 9 Try.underlying9
      clear hrd HV s1 s2 hstr
      refine wp_region_noPanic ?_
      refine wp_region_held_drew (S := fun W' => Below w3.heap.size w3 W') (by kernel_rfl) (by (repeat (first | exact Below.refl _ _ | assumption | refine Below.drew ?_ | refine bl_alloc ?_ _ | refine bl_then ?_ (by assumption) | refine Below.setCell ?_ (by first | omega | (simp; done) | (simp; omega)) _ | refine bl_store ?_ ?_ _ _))) (fun hHeld => ?_)
      have hBds : Below w3.heap.size w3 w3.drew := hHeld
      refine takeD (i := 0) (d := some 16) (v := ?vs0) rfl rfl (by kernel_rfl) (by kernel_rfl) (by kernel_rfl) (fun _ _ _ h => h) (Or.inl ⟨by rfl, ?hys0⟩) (by assumption) ?_
      case hys0 => (intro w hSw; (try dsimp only at hSw); go_simp <;> with_reducible rfl)
      try simp only [Act.put, List.setIfInBounds_toArray, List.set_cons_zero, List.set_cons_succ]
      refine takeD (i := 1) (d := some 17) (v := ?vs1) rfl rfl (by kernel_rfl) (by kernel_rfl) (by kernel_rfl) (fun _ _ _ h => h) (Or.inl ⟨by rfl, ?hys1⟩) (by assumption) ?_
      case hys1 => (intro w hSw; (try dsimp only at hSw); go_simp <;> with_reducible rfl)
      try simp only [Act.put, List.setIfInBounds_toArray, List.set_cons_zero, List.set_cons_succ]
      refine takeD (i := 2) (d := some 18) (v := ?vs2) rfl rfl (by kernel_rfl) (by kernel_rfl) (by kernel_rfl) (fun _ _ _ h => h) (Or.inl ⟨by rfl, ?hys2⟩) (by assumption) ?_
      case hys2 => (intro w hSw; (try dsimp only at hSw); go_simp <;> with_reducible rfl)
      try simp only [Act.put, List.setIfInBounds_toArray, List.set_cons_zero, List.set_cons_succ]
      refine takeD (i := 3) (d := some 19) (v := ?vs3) rfl rfl (by kernel_rfl) (by kernel_rfl) (by kernel_rfl) (fun _ _ _ h => h) (Or.inl ⟨by rfl, ?hys3⟩) (by assumption) ?_
      case hys3 => (intro w hSw; (try dsimp only at hSw); go_simp <;> with_reducible rfl)
      try simp only [Act.put, List.setIfInBounds_toArray, List.set_cons_zero, List.set_cons_succ]
      refine takeD (i := 4) (d := some 20) (v := ?vs4) rfl rfl (by kernel_rfl) (by kernel_rfl) (by kernel_rfl) (fun _ _ _ h => h) (Or.inl ⟨by rfl, ?hys4⟩) (by assumption) ?_
      case hys4 => (intro w hSw; (try dsimp only at hSw); go_simp <;> with_reducible rfl)
      try simp only [Act.put, List.setIfInBounds_toArray, List.set_cons_zero, List.set_cons_succ]
      refine takeD (i := 5) (d := some 21) (v := ?vs5) rfl rfl (by kernel_rfl) (by kernel_rfl) (by kernel_rfl) (fun _ _ _ h => h) (Or.inl ⟨by rfl, ?hys5⟩) (by assumption) ?_
      case hys5 => (intro w hSw; (try dsimp only at hSw); go_simp <;> with_reducible rfl)
      try simp only [Act.put, List.setIfInBounds_toArray, List.set_cons_zero, List.set_cons_succ]
      refine takeD (i := 6) (d := some 22) (v := ?vs6) rfl rfl (by kernel_rfl) (by kernel_rfl) (by kernel_rfl) (fun _ _ _ h => h) (Or.inl ⟨by rfl, ?hys6⟩) (by assumption) ?_
      case hys6 => (intro w hSw; (try dsimp only at hSw); go_simp <;> with_reducible rfl)
      try simp only [Act.put, List.setIfInBounds_toArray, List.set_cons_zero, List.set_cons_succ]
      refine takeD (i := 7) (d := some 23) (v := ?vs7) rfl rfl (by kernel_rfl) (by kernel_rfl) (by kernel_rfl) (fun _ _ _ h => h) (Or.inl ⟨by rfl, ?hys7⟩) (by assumption) ?_
      case hys7 => (intro w hSw; (try dsimp only at hSw); go_simp <;> with_reducible rfl)
      try simp only [Act.put, List.setIfInBounds_toArray, List.set_cons_zero, List.set_cons_succ]
      refine takeD (i := 8) (d := some 24) (v := ?vs8) rfl rfl (by kernel_rfl) (by kernel_rfl) (by kernel_rfl) (fun _ _ _ h => h) (Or.inl ⟨by rfl, ?hys8⟩) (by assumption) ?_
      case hys8 => (intro w hSw; (try dsimp only at hSw); go_simp <;> with_reducible rfl)
      try simp only [Act.put, List.setIfInBounds_toArray, List.set_cons_zero, List.set_cons_succ]
      refine takeD (i := 9) (d := some 25) (v := ?vs9) rfl rfl (by kernel_rfl) (by kernel_rfl) (by kernel_rfl) (fun _ _ _ h => h) (Or.inl ⟨by rfl, ?hys9⟩) (by assumption) ?_
      case hys9 => (intro w hSw; (try dsimp only at hSw); go_simp <;> with_reducible rfl)
      try simp only [Act.put, List.setIfInBounds_toArray, List.set_cons_zero, List.set_cons_succ]
      refine takeD (i := 10) (d := some 26) (v := ?vs10) rfl rfl (by kernel_rfl) (by kernel_rfl) (by kernel_rfl) (fun _ _ _ h => h) (Or.inl ⟨by rfl, ?hys10⟩) (by assumption) ?_
      case hys10 => (intro w hSw; (try dsimp only at hSw); go_simp <;> with_reducible rfl)
      try simp only [Act.put, List.setIfInBounds_toArray, List.set_cons_zero, List.set_cons_succ]
      refine takeD (i := 11) (d := some 27) (v := ?vs11) rfl rfl (by kernel_rfl) (by kernel_rfl) (by kernel_rfl) (fun _ _ _ h => h) (Or.inl ⟨by rfl, ?hys11⟩) (by assumption) ?_
      case hys11 => (intro w hSw; (try dsimp only at hSw); go_simp <;> with_reducible rfl)
      try simp only [Act.put, List.setIfInBounds_toArray, List.set_cons_zero, List.set_cons_succ]
      refine takeD (i := 12) (d := some 28) (v := ?vs12) rfl rfl (by kernel_rfl) (by kernel_rfl) (by kernel_rfl) (fun _ _ _ h => h) (Or.inl ⟨by rfl, ?hys12⟩) (by assumption) ?_
      case hys12 => (intro w hSw; (try dsimp only at hSw); go_simp <;> with_reducible rfl)
      try simp only [Act.put, List.setIfInBounds_toArray, List.set_cons_zero, List.set_cons_succ]
      refine takeD (i := 13) (d := some 29) (v := ?vs13) rfl rfl (by kernel_rfl) (by kernel_rfl) (by kernel_rfl) (fun _ _ _ h => h) (Or.inl ⟨by rfl, ?hys13⟩) (by assumption) ?_
      case hys13 => (intro w hSw; (try dsimp only at hSw); go_simp <;> with_reducible rfl)
      try simp only [Act.put, List.setIfInBounds_toArray, List.set_cons_zero, List.set_cons_succ]
      refine takeD (i := 14) (d := some 30) (v := ?vs14) rfl rfl (by kernel_rfl) (by kernel_rfl) (by kernel_rfl) (fun _ _ _ h => h) (Or.inl ⟨by rfl, ?hys14⟩) (by assumption) ?_
      case hys14 => (intro w hSw; (try dsimp only at hSw); go_simp <;> with_reducible rfl)
      try simp only [Act.put, List.setIfInBounds_toArray, List.set_cons_zero, List.set_cons_succ]
      refine takeD (i := 15) (d := some 31) (v := ?vs15) rfl rfl (by kernel_rfl) (by kernel_rfl) (by kernel_rfl) (fun _ _ _ h => h) (Or.inl ⟨by rfl, ?hys15⟩) (by assumption) ?_
      case hys15 => (intro w hSw; (try dsimp only at hSw); go_simp <;> with_reducible rfl)
      try simp only [Act.put, List.setIfInBounds_toArray, List.set_cons_zero, List.set_cons_succ]
      refine takeD (i := 16) (d := some 32) (v := ?vs16) rfl rfl (by kernel_rfl) (by kernel_rfl) (by kernel_rfl) (fun _ _ _ h => h) (Or.inl ⟨by rfl, ?hys16⟩) (by assumption) ?_
      case hys16 => (intro w hSw; (try dsimp only at hSw); go_simp <;> with_reducible rfl)
      try simp only [Act.put, List.setIfInBounds_toArray, List.set_cons_zero, List.set_cons_succ]
      refine takeD (i := 20) (d := some 36) (v := ?vs20) rfl rfl (by kernel_rfl) (by kernel_rfl) (by kernel_rfl) (fun _ _ _ h => h) (Or.inl ⟨by rfl, ?hys20⟩) (by assumption) ?_
      case hys20 => (intro w hSw; (try dsimp only at hSw); go_simp <;> with_reducible rfl)
      try simp only [Act.put, List.setIfInBounds_toArray, List.set_cons_zero, List.set_cons_succ]
      refine takeD (i := 21) (d := some 37) (v := ?vs21) rfl rfl (by kernel_rfl) (by kernel_rfl) (by kernel_rfl) (fun _ _ _ h => h) (Or.inl ⟨by rfl, ?hys21⟩) (by assumption) ?_
      case hys21 => (intro w hSw; (try dsimp only at hSw); go_simp <;> with_reducible rfl)
      try simp only [Act.put, List.setIfInBounds_toArray, List.set_cons_zero, List.set_cons_succ]
      refine takeD (i := 22) (d := some 38) (v := ?vs22) rfl rfl (by kernel_rfl) (by kernel_rfl) (by kernel_rfl) (fun _ _ _ h => h) (Or.inl ⟨by rfl, ?hys22⟩) (by assumption) ?_
      case hys22 => (intro w hSw; (try dsimp only at hSw); go_simp <;> with_reducible rfl)
      try simp only [Act.put, List.setIfInBounds_toArray, List.set_cons_zero, List.set_cons_succ]
      refine takeD (i := 23) (d := some 39) (v := ?vs23) rfl rfl (by kernel_rfl) (by kernel_rfl) (by kernel_rfl) (fun _ _ _ h => h) (Or.inl ⟨by rfl, ?hys23⟩) (by assumption) ?_
      case hys23 => (intro w hSw; (try dsimp only at hSw); go_simp <;> with_reducible rfl)
      try simp only [Act.put, List.setIfInBounds_toArray, List.set_cons_zero, List.set_cons_succ]
      refine takeD (i := 24) (d := some 40) (v := ?vs24) rfl rfl (by kernel_rfl) (by kernel_rfl) (by kernel_rfl) (fun _ _ _ h => h) (Or.inl ⟨by rfl, ?hys24⟩) (by assumption) ?_
      case hys24 => (intro w hSw; (try dsimp only at hSw); go_simp <;> with_reducible rfl)
      try simp only [Act.put, List.setIfInBounds_toArray, List.set_cons_zero, List.set_cons_succ]
      refine wpAnyH_ready (rs := [17]) (by kernel_rfl) (by simp) ?_
      refine (AllReadyH.cons rfl (fun K hK => ?_) AllReadyH.nil)
      go_simp
      refine Calls.mono (Hpn.out _) ?_
      rintro e wqs17 ⟨pv, rfl, hRp, hqs17⟩
      have hBs17 : Below w3.heap.size w3 wqs17 := bl_then hBds hqs17
      obtain ⟨gp, cpp, rfl, hgp1, hgp2, hgp3, hbsp⟩ := hRp.at (by rw [hpl.out]; exact putI_ne x)
      have hcv : (convert 22 9 (.slice (some ⟨gp, 0, none⟩) (pnL (x : Int)).length cpp)).run Try.prog wqs17 = .ok (.string str) wqs17 := by
        rw [hpl.out] at hbsp ⊢
        rw [← HSTR.out]
        exact run_convert_bytes_arg wqs17 22 5 Try.underlying22 Try.underlying5 gp 0 _ cpp (putI x) rfl (fun i hi => hbsp i hi) 9 Try.underlying9
      generalize (pnL (x : Int)).length = PL at *
      clear hRp hbsp
      go_wp2_with fail
      refine hK.out _ _ hBs17 (fun hHeld => ?_)
      clear hK K
      try simp only [Act.put, List.setIfInBounds_toArray, List.set_cons_zero, List.set_cons_succ]
      refine takeD (i := 18) (d := some 34) (v := ?vs18) rfl rfl (by kernel_rfl) (by kernel_rfl) (by kernel_rfl) (fun _ _ _ h => h) (Or.inl ⟨by rfl, ?hys18⟩) (by assumption) ?_
      case hys18 => (intro w hSw; (try dsimp only at hSw); go_simp <;> with_reducible rfl)
      try simp only [Act.put, List.setIfInBounds_toArray, List.set_cons_zero, List.set_cons_succ]
      refine wpAnyH_ready (rs := [19]) (by kernel_rfl) (by simp) ?_
      refine (AllReadyH.cons rfl (fun K hK => ?_) AllReadyH.nil)
      go_wp2_with fail
      refine hK.out _ _ hBs17 (fun hHeld => ?_)
      clear hK K
      try simp only [Act.put, List.setIfInBounds_toArray, List.set_cons_zero, List.set_cons_succ]
      refine takeD (i := 25) (d := some 41) (v := ?vs25) rfl rfl (by kernel_rfl) (by kernel_rfl) (by kernel_rfl) (fun _ _ _ h => h) (Or.inl ⟨by rfl, ?hys25⟩) (by assumption) ?_
      case hys25 => (intro w hSw; (try dsimp only at hSw); go_simp <;> with_reducible rfl)
      try simp only [Act.put, List.setIfInBounds_toArray, List.set_cons_zero, List.set_cons_succ]
      refine takeD (i := 26) (d := some 42) (v := ?vs26) rfl rfl (by kernel_rfl) (by kernel_rfl) (by kernel_rfl) (fun _ _ _ h => h) (Or.inl ⟨by rfl, ?hys26⟩) (by assumption) ?_
      case hys26 => (intro w hSw; (try dsimp only at hSw); go_simp <;> with_reducible rfl)
      try simp only [Act.put, List.setIfInBounds_toArray, List.set_cons_zero, List.set_cons_succ]
      refine takeD (i := 27) (d := some 43) (v := ?vs27) rfl rfl (by kernel_rfl) (by kernel_rfl) (by kernel_rfl) (fun _ _ _ h => h) (Or.inl ⟨by rfl, ?hys27⟩) (by assumption) ?_
      case hys27 => (intro w hSw; (try dsimp only at hSw); go_simp <;> with_reducible rfl)
      try simp only [Act.put, List.setIfInBounds_toArray, List.set_cons_zero, List.set_cons_succ]
      refine takeD (i := 28) (d := some 44) (v := ?vs28) rfl rfl (by kernel_rfl) (by kernel_rfl) (by kernel_rfl) (fun _ _ _ h => h) (Or.inl ⟨by rfl, ?hys28⟩) (by assumption) ?_
      case hys28 => (intro w hSw; (try dsimp only at hSw); go_simp <;> with_reducible rfl)
      try simp only [Act.put, List.setIfInBounds_toArray, List.set_cons_zero, List.set_cons_succ]
      refine takeD (i := 29) (d := some 45) (v := ?vs29) rfl rfl (by kernel_rfl) (by kernel_rfl) (by kernel_rfl) (fun _ _ _ h => h) (Or.inl ⟨by rfl, ?hys29⟩) (by assumption) ?_
      case hys29 => (intro w hSw; (try dsimp only at hSw); go_simp <;> with_reducible rfl)
      try simp only [Act.put, List.setIfInBounds_toArray, List.set_cons_zero, List.set_cons_succ]
      refine takeD (i := 30) (d := some 46) (v := ?vs30) rfl rfl (by kernel_rfl) (by kernel_rfl) (by kernel_rfl) (fun _ _ _ h => h) (Or.inl ⟨by rfl, ?hys30⟩) (by assumption) ?_
      case hys30 => (intro w hSw; (try dsimp only at hSw); go_simp <;> with_reducible rfl)
      try simp only [Act.put, List.setIfInBounds_toArray, List.set_cons_zero, List.set_cons_succ]
      refine takeD (i := 31) (d := some 47) (v := ?vs31) rfl rfl (by kernel_rfl) (by kernel_rfl) (by kernel_rfl) (fun _ _ _ h => h) (Or.inl ⟨by rfl, ?hys31⟩) (by assumption) ?_
      case hys31 => (intro w hSw; (try dsimp only at hSw); go_simp <;> with_reducible rfl)
      try simp only [Act.put, List.setIfInBounds_toArray, List.set_cons_zero, List.set_cons_succ]
      refine takeD (i := 32) (d := some 48) (v := ?vs32) rfl rfl (by kernel_rfl) (by kernel_rfl) (by kernel_rfl) (fun _ _ _ h => h) (Or.inl ⟨by rfl, ?hys32⟩) (by assumption) ?_
      case hys32 => (intro w hSw; (try dsimp only at hSw); go_simp <;> with_reducible rfl)
      try simp only [Act.put, List.setIfInBounds_toArray, List.set_cons_zero, List.set_cons_succ]
      refine passD (i := 33) (d := some 49) rfl rfl (by kernel_rfl) (by kernel_rfl) (by kernel_rfl) (fun _ _ _ h => h) (by rfl) (by assumption) ?_
      try simp only [Act.put, List.setIfInBounds_toArray, List.set_cons_zero, List.set_cons_succ]
      refine passD (i := 34) (d := some 50) rfl rfl (by kernel_rfl) (by kernel_rfl) (by kernel_rfl) (fun _ _ _ h => h) (by rfl) (by assumption) ?_
      try simp only [Act.put, List.setIfInBounds_toArray, List.set_cons_zero, List.set_cons_succ]
      refine passD (i := 35) (d := some 51) rfl rfl (by kernel_rfl) (by kernel_rfl) (by kernel_rfl) (fun _ _ _ h => h) (by rfl) (by assumption) ?_
      try simp only [Act.put, List.setIfInBounds_toArray, List.set_cons_zero, List.set_cons_succ]
      refine passD (i := 36) (d := some 52) rfl rfl (by kernel_rfl) (by kernel_rfl) (by kernel_rfl) (fun _ _ _ h => h) (by rfl) (by assumption) ?_
      try simp only [Act.put, List.setIfInBounds_toArray, List.set_cons_zero, List.set_cons_succ]
      refine passD (i := 37) (d := some 53) rfl rfl (by kernel_rfl) (by kernel_rfl) (by kernel_rfl) (fun _ _ _ h => h) (by rfl) (by assumption) ?_
      try simp only [Act.put, List.setIfInBounds_toArray, List.set_cons_zero, List.set_cons_succ]
      refine passD (i := 38) (d := some 54) rfl rfl (by kernel_rfl) (by kernel_rfl) (by kernel_rfl) (fun _ _ _ h => h) (by rfl) (by assumption) ?_
      try simp only [Act.put, List.setIfInBounds_toArray, List.set_cons_zero, List.set_cons_succ]
      refine takeD (i := 39) (d := some 55) (v := ?vs39) rfl rfl (by kernel_rfl) (by kernel_rfl) (by kernel_rfl) (fun _ _ _ h => h) (Or.inl ⟨by rfl, ?hys39⟩) (by assumption) ?_
      case hys39 => (intro w hSw; (try dsimp only at hSw); go_simp <;> with_reducible rfl)
      try simp only [Act.put, List.setIfInBounds_toArray, List.set_cons_zero, List.set_cons_succ]
      refine takeD (i := 40) (d := some 56) (v := ?vs40) rfl rfl (by kernel_rfl) (by kernel_rfl) (by kernel_rfl) (fun _ _ _ h => h) (Or.inl ⟨by rfl, ?hys40⟩) (by assumption) ?_
      case hys40 => (intro w hSw; (try dsimp only at hSw); go_simp <;> with_reducible rfl)
      try simp only [Act.put, List.setIfInBounds_toArray, List.set_cons_zero, List.set_cons_succ]
      refine wpAnyH_done (by kernel_rfl) ?_ _
      refine NoPanic.normal ?_
      -- behind: hBs17
      go_wp2_with fail
      go_meet
      case rel => exact ⟨by assumption, rfl⟩
  obtain ⟨hBc, rfl⟩ := hcut
  have HDc : Hid (BsAt wc g 0 L (zz l)) := HD3.out.below hBc hg3'
  have HBc : Hid (Below w.heap.size w wc) := bl_then HB3.out hBc
  have hgc : g < wc.heap.size := Nat.lt_of_lt_of_le hg3' hBc.size
  clear c0 c1 c2 HD3 HB3 hBc HV
  go_wp2_with fail
  refine (DrawUnfoldNumber_any a n cap Z _ (HI.out.below HBc.out) HR.out hn1 hcap).mono ?_
  rintro e w4 ⟨m, rfl, hb4⟩
  have HD4 : Hid (BsAt w4 g 0 L (zz l)) := HDc.out.below hb4 hgc
  have HB4 : Hid (Below w.heap.size w w4) := bl_then HBc.out hb4
  have hg4 : g < w4.heap.size := Nat.lt_of_lt_of_le hgc hb4.size
  clear HDc HBc hb4 hgc
  go_wp2_with fail
  refine (impl_UnfoldNumber_any m _).mono ?_
  rintro e w5 ⟨rfl, hb5⟩
  have HD5 : Hid (BsAt w5 g 0 L (zz l)) := HD4.out.below hb5 hg4
  have HB5 : Hid (Below w.heap.size w w5) := bl_then HB4.out hb5
  have hg5 : g < w5.heap.size := Nat.lt_of_lt_of_le hg4 hb5.size
  clear HD4 HB4 hb5 hg4
  obtain ⟨fc, fv, hF⟩ : ∃ fc fv : Int, unfoldV m = .agg #[.int .i64 fc, .int .i64 fv] := by
    unfold unfoldV
    split <;> exact ⟨_, _, rfl⟩
  have HF : Hid (unfoldV m = .agg #[.int .i64 fc, .int .i64 fv]) := hF
  rw [hF]
  clear hF
  go_wp2_with fail
  generalize hW6 : (w5.alloc _ : World) = w6
  have hb56 : Below w5.heap.size w5 w6 := by subst hW6; (repeat (first | exact Below.refl _ _ | assumption | refine Below.drew ?_ | refine bl_alloc ?_ _ | refine bl_then ?_ (by assumption) | refine Below.setCell ?_ (by first | omega | (simp; done) | (simp; omega)) _ | refine bl_store ?_ ?_ _ _))
  have c0 : ∀ W', Below w6.heap.size w6 W' → W'.cell? ⟨w5.heap.size, 0, none⟩ = some (.int .i64 fc) := fun W' h => by
    rw [h.cell (by subst hW6; simp)]; subst hW6; simp [go_sem]
  have c1 : ∀ W', Below w6.heap.size w6 W' → W'.cell? ⟨w5.heap.size, 1, none⟩ = some (.int .i64 fv) := fun W' h => by
    rw [h.cell (by subst hW6; simp)]; subst hW6; simp [go_sem]
  clear hW6
  have HD6 : Hid (BsAt w6 g 0 L (zz l)) := HD5.out.below hb56 hg5
  have HB6 : Hid (Below w.heap.size w w6) := bl_then HB5.out hb56
  have hg6 : g < w6.heap.size := Nat.lt_of_lt_of_le hg5 hb56.size
  clear hb56 HD5 HB5
  go_cut [84] (fun t wc => Below w6.heap.size w6 wc ∧ t = .bool false)
  case first =>
    cases hin : inB m 0 2147483648
    · obtain ⟨rfl, rfl⟩ : fc = 3 ∧ fv = 0 := by
        have := HF.out
        unfold unfoldV at this
        rw [hin] at this
        simp at this
        omega
      have Hun : Hid (∀ W', Calls Try.prog 17 #[.int .i64 m] W' fun e w' => e = .returned (.agg #[.int .i64 3, .int .i64 0]) ∧ Below W'.heap.size W' w') := fun W' => HF.out ▸ spec_UnfoldNumber_any m W'
      have hfd : ∀ w : World, (Instr.field 33 (.agg #[.int .i64 3, .int .i64 0]) 0).run Try.prog w = .ok (.int .i64 3) w := fun _ => by kernel_rfl
      clear hin HF
      refine wp_region_noPanic ?_
      refine wp_region_held_drew (S := fun W' => Below w6.heap.size w6 W') (by kernel_rfl) (by (repeat (first | exact Below.refl _ _ | assumption | refine Below.drew ?_ | refine bl_alloc ?_ _ | refine bl_then ?_ (by assumption) | refine Below.setCell ?_ (by first | omega | (simp; done) | (simp; omega)) _ | refine bl_store ?_ ?_ _ _))) (fun hHeld => ?_)
      have hBdg : Below w6.heap.size w6 w6.drew := hHeld
      refine takeD (i := 0) (d := some 61) (v := ?vg0) rfl rfl (by kernel_rfl) (by kernel_rfl) (by kernel_rfl) (fun _ _ _ h => h) (Or.inl ⟨by rfl, ?hyg0⟩) (by assumption) ?_
      case hyg0 => (intro w hSw; (try dsimp only at hSw); go_simp <;> with_reducible rfl)
      try simp only [Act.put, List.setIfInBounds_toArray, List.set_cons_zero, List.set_cons_succ]
      refine takeD (i := 1) (d := some 62) (v := ?vg1) rfl rfl (by kernel_rfl) (by kernel_rfl) (by kernel_rfl) (fun _ _ _ h => h) (Or.inl ⟨by rfl, ?hyg1⟩) (by assumption) ?_
      case hyg1 => (intro w hSw; (try dsimp only at hSw); go_simp <;> with_reducible rfl)
      try simp only [Act.put, List.setIfInBounds_toArray, List.set_cons_zero, List.set_cons_succ]
      refine takeD (i := 2) (d := some 63) (v := ?vg2) rfl rfl (by kernel_rfl) (by kernel_rfl) (by kernel_rfl) (fun _ _ _ h => h) (Or.inl ⟨by rfl, ?hyg2⟩) (by assumption) ?_
      case hyg2 => (intro w hSw; (try dsimp only at hSw); go_simp <;> with_reducible rfl)
      try simp only [Act.put, List.setIfInBounds_toArray, List.set_cons_zero, List.set_cons_succ]
      refine takeD (i := 3) (d := some 64) (v := ?vg3) rfl rfl (by kernel_rfl) (by kernel_rfl) (by kernel_rfl) (fun _ _ _ h => h) (Or.inl ⟨by rfl, ?hyg3⟩) (by assumption) ?_
      case hyg3 => (intro w hSw; (try dsimp only at hSw); go_simp <;> with_reducible rfl)
      try simp only [Act.put, List.setIfInBounds_toArray, List.set_cons_zero, List.set_cons_succ]
      refine passD (i := 4) (d := some 65) rfl rfl (by kernel_rfl) (by kernel_rfl) (by kernel_rfl) (fun _ _ _ h => h) (by rfl) (by assumption) ?_
      try simp only [Act.put, List.setIfInBounds_toArray, List.set_cons_zero, List.set_cons_succ]
      refine passD (i := 5) (d := some 66) rfl rfl (by kernel_rfl) (by kernel_rfl) (by kernel_rfl) (fun _ _ _ h => h) (by rfl) (by assumption) ?_
      try simp only [Act.put, List.setIfInBounds_toArray, List.set_cons_zero, List.set_cons_succ]
      refine passD (i := 6) (d := some 67) rfl rfl (by kernel_rfl) (by kernel_rfl) (by kernel_rfl) (fun _ _ _ h => h) (by rfl) (by assumption) ?_
      try simp only [Act.put, List.setIfInBounds_toArray, List.set_cons_zero, List.set_cons_succ]
      refine passD (i := 7) (d := some 68) rfl rfl (by kernel_rfl) (by kernel_rfl) (by kernel_rfl) (fun _ _ _ h => h) (by rfl) (by assumption) ?_
      try simp only [Act.put, List.setIfInBounds_toArray, List.set_cons_zero, List.set_cons_succ]
      refine passD (i := 8) (d := some 69) rfl rfl (by kernel_rfl) (by kernel_rfl) (by kernel_rfl) (fun _ _ _ h => h) (by rfl) (by assumption) ?_
      try simp only [Act.put, List.setIfInBounds_toArray, List.set_cons_zero, List.set_cons_succ]
      refine passD (i := 9) (d := some 70) rfl rfl (by kernel_rfl) (by kernel_rfl) (by kernel_rfl) (fun _ _ _ h => h) (by rfl) (by assumption) ?_
      try simp only [Act.put, List.setIfInBounds_toArray, List.set_cons_zero, List.set_cons_succ]
      refine takeD (i := 10) (d := some 71) (v := ?vg10) rfl rfl (by kernel_rfl) (by kernel_rfl) (by kernel_rfl) (fun _ _ _ h => h) (Or.inl ⟨by rfl, ?hyg10⟩) (by assumption) ?_
      case hyg10 => (intro w hSw; (try dsimp only at hSw); go_simp <;> with_reducible rfl)
      try simp only [Act.put, List.setIfInBounds_toArray, List.set_cons_zero, List.set_cons_succ]
      refine takeD (i := 11) (d := some 72) (v := ?vg11) rfl rfl (by kernel_rfl) (by kernel_rfl) (by kernel_rfl) (fun _ _ _ h => h) (Or.inl ⟨by rfl, ?hyg11⟩) (by assumption) ?_
      case hyg11 => (intro w hSw; (try dsimp only at hSw); go_simp <;> with_reducible rfl)
      try simp only [Act.put, List.setIfInBounds_toArray, List.set_cons_zero, List.set_cons_succ]
      refine takeD (i := 12) (d := some 73) (v := ?vg12) rfl rfl (by kernel_rfl) (by kernel_rfl) (by kernel_rfl) (fun _ _ _ h => h) (Or.inl ⟨by rfl, ?hyg12⟩) (by assumption) ?_
      case hyg12 => (intro w hSw; (try dsimp only at hSw); go_simp <;> with_reducible rfl)
      try simp only [Act.put, List.setIfInBounds_toArray, List.set_cons_zero, List.set_cons_succ]
      refine takeD (i := 13) (d := some 74) (v := ?vg13) rfl rfl (by kernel_rfl) (by kernel_rfl) (by kernel_rfl) (fun _ _ _ h => h) (Or.inl ⟨by rfl, ?hyg13⟩) (by assumption) ?_
      case hyg13 => (intro w hSw; (try dsimp only at hSw); go_simp <;> with_reducible rfl)
      try simp only [Act.put, List.setIfInBounds_toArray, List.set_cons_zero, List.set_cons_succ]
      refine takeD (i := 14) (d := some 75) (v := ?vg14) rfl rfl (by kernel_rfl) (by kernel_rfl) (by kernel_rfl) (fun _ _ _ h => h) (Or.inl ⟨by rfl, ?hyg14⟩) (by assumption) ?_
      case hyg14 => (intro w hSw; (try dsimp only at hSw); go_simp <;> with_reducible rfl)
      try simp only [Act.put, List.setIfInBounds_toArray, List.set_cons_zero, List.set_cons_succ]
      refine takeD (i := 15) (d := some 76) (v := ?vg15) rfl rfl (by kernel_rfl) (by kernel_rfl) (by kernel_rfl) (fun _ _ _ h => h) (Or.inl ⟨by rfl, ?hyg15⟩) (by assumption) ?_
      case hyg15 => (intro w hSw; (try dsimp only at hSw); go_simp <;> with_reducible rfl)
      try simp only [Act.put, List.setIfInBounds_toArray, List.set_cons_zero, List.set_cons_succ]
      refine takeD (i := 16) (d := some 77) (v := ?vg16) rfl rfl (by kernel_rfl) (by kernel_rfl) (by kernel_rfl) (fun _ _ _ h => h) (Or.inl ⟨by rfl, ?hyg16⟩) (by assumption) ?_
      case hyg16 => (intro w hSw; (try dsimp only at hSw); go_simp <;> with_reducible rfl)
      try simp only [Act.put, List.setIfInBounds_toArray, List.set_cons_zero, List.set_cons_succ]
      refine takeD (i := 19) (d := some 80) (v := ?vg19) rfl rfl (by kernel_rfl) (by kernel_rfl) (by kernel_rfl) (fun _ _ _ h => h) (Or.inl ⟨by rfl, ?hyg19⟩) (by assumption) ?_
      case hyg19 => (intro w hSw; (try dsimp only at hSw); go_simp <;> with_reducible rfl)
      try simp only [Act.put, List.setIfInBounds_toArray, List.set_cons_zero, List.set_cons_succ]
      refine takeD (i := 20) (d := some 81) (v := ?vg20) rfl rfl (by kernel_rfl) (by kernel_rfl) (by kernel_rfl) (fun _ _ _ h => h) (Or.inl ⟨by rfl, ?hyg20⟩) (by assumption) ?_
      case hyg20 => (intro w hSw; (try dsimp only at hSw); go_simp <;> with_reducible rfl)
      try simp only [Act.put, List.setIfInBounds_toArray, List.set_cons_zero, List.set_cons_succ]
      refine wpAnyH_ready (rs := [17]) (by kernel_rfl) (by simp) ?_
      refine (AllReadyH.cons rfl (fun K hK => ?_) AllReadyH.nil)
      go_simp
      refine Calls.mono (Hun.out _) ?_
      rintro e wqg17 ⟨rfl, hqg17⟩
      have hBg17 : Below w6.heap.size w6 wqg17 := bl_then hBdg hqg17
      go_wp2_with fail
      refine hK.out _ _ hBg17 (fun hHeld => ?_)
      clear hK K
      try simp only [Act.put, List.setIfInBounds_toArray, List.set_cons_zero, List.set_cons_succ]
      refine takeD (i := 18) (d := some 79) (v := ?vg18) rfl rfl (by kernel_rfl) (by kernel_rfl) (by kernel_rfl) (fun _ _ _ h => h) (Or.inl ⟨by rfl, ?hyg18⟩) (by assumption) ?_
      case hyg18 => (intro w hSw; (try dsimp only at hSw); go_simp <;> with_reducible rfl)
      try simp only [Act.put, List.setIfInBounds_toArray, List.set_cons_zero, List.set_cons_succ]
      refine takeD (i := 21) (d := some 82) (v := ?vg21) rfl rfl (by kernel_rfl) (by kernel_rfl) (by kernel_rfl) (fun _ _ _ h => h) (Or.inl ⟨by rfl, ?hyg21⟩) (by assumption) ?_
      case hyg21 => (intro w hSw; (try dsimp only at hSw); go_simp <;> with_reducible rfl)
      try simp only [Act.put, List.setIfInBounds_toArray, List.set_cons_zero, List.set_cons_succ]
      refine takeD (i := 22) (d := some 83) (v := ?vg22) rfl rfl (by kernel_rfl) (by kernel_rfl) (by kernel_rfl) (fun _ _ _ h => h) (Or.inl ⟨by rfl, ?hyg22⟩) (by assumption) ?_
      case hyg22 => (intro w hSw; (try dsimp only at hSw); go_simp <;> with_reducible rfl)
      try simp only [Act.put, List.setIfInBounds_toArray, List.set_cons_zero, List.set_cons_succ]
      refine takeD (i := 23) (d := some 84) (v := ?vg23) rfl rfl (by kernel_rfl) (by kernel_rfl) (by kernel_rfl) (fun _ _ _ h => h) (Or.inl ⟨by rfl, ?hyg23⟩) (by assumption) ?_
      case hyg23 => (intro w hSw; (try dsimp only at hSw); go_simp <;> with_reducible rfl)
      try simp only [Act.put, List.setIfInBounds_toArray, List.set_cons_zero, List.set_cons_succ]
      refine wpAnyH_done (by kernel_rfl) ?_ _
      refine NoPanic.normal ?_
      -- behind: hBg17
      go_wp2_with fail
      go_meet
      case rel => exact ⟨by assumption, rfl⟩
    · obtain ⟨b1, b2⟩ := inB_bd hin
      obtain ⟨rfl, rfl⟩ : fc = 0 ∧ fv = unfoldI m := by
        have := HF.out
        unfold unfoldV at this
        rw [hin] at this
        simp at this
        omega
      obtain ⟨b3, b4⟩ := unfoldI_bd (B := 1073741824) b1 (by omega)
      have hfv : foldV (unfoldI m) = .agg #[.int .i64 0, .int .i64 m] := by
        have h1 : inB (unfoldI m) (-1073741824) 1073741824 = true := by simp [inB]; omega
        simp [foldV, h1, fold_unfold m b1]
      have Hfo : Hid (∀ W', Calls Try.prog 16 #[.int .i64 (unfoldI m)] W' fun e w' => e = .returned (.agg #[.int .i64 0, .int .i64 m]) ∧ Below W'.heap.size W' w') := fun W' => hfv ▸ impl_FoldNumber_any (unfoldI m) W'
      have hfd : ∀ w : World, (Instr.field 33 (.agg #[.int .i64 0, .int .i64 m]) 1).run Try.prog w = .ok (.int .i64 m) w := fun _ => by kernel_rfl
      clear hin HF hfv b3 b4
      generalize unfoldI m = um at *
      refine wp_region_noPanic ?_
      refine wp_region_held_drew (S := fun W' => Below w6.heap.size w6 W') (by kernel_rfl) (by (repeat (first | exact Below.refl _ _ | assumption | refine Below.drew ?_ | refine bl_alloc ?_ _ | refine bl_then ?_ (by assumption) | refine Below.setCell ?_ (by first | omega | (simp; done) | (simp; omega)) _ | refine bl_store ?_ ?_ _ _))) (fun hHeld => ?_)
      have hBdf : Below w6.heap.size w6 w6.drew := hHeld
      refine takeD (i := 0) (d := some 61) (v := ?vf0) rfl rfl (by kernel_rfl) (by kernel_rfl) (by kernel_rfl) (fun _ _ _ h => h) (Or.inl ⟨by rfl, ?hyf0⟩) (by assumption) ?_
      case hyf0 => (intro w hSw; (try dsimp only at hSw); go_simp <;> with_reducible rfl)
      try simp only [Act.put, List.setIfInBounds_toArray, List.set_cons_zero, List.set_cons_succ]
      refine takeD (i := 1) (d := some 62) (v := ?vf1) rfl rfl (by kernel_rfl) (by kernel_rfl) (by kernel_rfl) (fun _ _ _ h => h) (Or.inl ⟨by rfl, ?hyf1⟩) (by assumption) ?_
      case hyf1 => (intro w hSw; (try dsimp only at hSw); go_simp <;> with_reducible rfl)
      try simp only [Act.put, List.setIfInBounds_toArray, List.set_cons_zero, List.set_cons_succ]
      refine takeD (i := 2) (d := some 63) (v := ?vf2) rfl rfl (by kernel_rfl) (by kernel_rfl) (by kernel_rfl) (fun _ _ _ h => h) (Or.inl ⟨by rfl, ?hyf2⟩) (by assumption) ?_
      case hyf2 => (intro w hSw; (try dsimp only at hSw); go_simp <;> with_reducible rfl)
      try simp only [Act.put, List.setIfInBounds_toArray, List.set_cons_zero, List.set_cons_succ]
      refine takeD (i := 3) (d := some 64) (v := ?vf3) rfl rfl (by kernel_rfl) (by kernel_rfl) (by kernel_rfl) (fun _ _ _ h => h) (Or.inl ⟨by rfl, ?hyf3⟩) (by assumption) ?_
      case hyf3 => (intro w hSw; (try dsimp only at hSw); go_simp <;> with_reducible rfl)
      try simp only [Act.put, List.setIfInBounds_toArray, List.set_cons_zero, List.set_cons_succ]
      refine takeD (i := 4) (d := some 65) (v := ?vf4) rfl rfl (by kernel_rfl) (by kernel_rfl) (by kernel_rfl) (fun _ _ _ h => h) (Or.inl ⟨by rfl, ?hyf4⟩) (by assumption) ?_
      case hyf4 => (intro w hSw; (try dsimp only at hSw); go_simp <;> with_reducible rfl)
      try simp only [Act.put, List.setIfInBounds_toArray, List.set_cons_zero, List.set_cons_succ]
      refine takeD (i := 5) (d := some 66) (v := ?vf5) rfl rfl (by kernel_rfl) (by kernel_rfl) (by kernel_rfl) (fun _ _ _ h => h) (Or.inl ⟨by rfl, ?hyf5⟩) (by assumption) ?_
      case hyf5 => (intro w hSw; (try dsimp only at hSw); go_simp <;> with_reducible rfl)
      try simp only [Act.put, List.setIfInBounds_toArray, List.set_cons_zero, List.set_cons_succ]
      refine takeD (i := 8) (d := some 69) (v := ?vf8) rfl rfl (by kernel_rfl) (by kernel_rfl) (by kernel_rfl) (fun _ _ _ h => h) (Or.inl ⟨by rfl, ?hyf8⟩) (by assumption) ?_
      case hyf8 => (intro w hSw; (try dsimp only at hSw); go_simp <;> with_reducible rfl)
      try simp only [Act.put, List.setIfInBounds_toArray, List.set_cons_zero, List.set_cons_succ]
      refine wpAnyH_ready (rs := [6]) (by kernel_rfl) (by simp) ?_
      refine (AllReadyH.cons rfl (fun K hK => ?_) AllReadyH.nil)
      go_simp
      refine Calls.mono (Hfo.out _) ?_
      rintro e wqf6 ⟨rfl, hqf6⟩
      have hBf6 : Below w6.heap.size w6 wqf6 := bl_then hBdf hqf6
      go_wp2_with fail
      refine hK.out _ _ hBf6 (fun hHeld => ?_)
      clear hK K
      try simp only [Act.put, List.setIfInBounds_toArray, List.set_cons_zero, List.set_cons_succ]
      refine takeD (i := 7) (d := some 68) (v := ?vf7) rfl rfl (by kernel_rfl) (by kernel_rfl) (by kernel_rfl) (fun _ _ _ h => h) (Or.inl ⟨by rfl, ?hyf7⟩) (by assumption) ?_
      case hyf7 => (intro w hSw; (try dsimp only at hSw); go_simp <;> with_reducible rfl)
      try simp only [Act.put, List.setIfInBounds_toArray, List.set_cons_zero, List.set_cons_succ]
      refine takeD (i := 9) (d := some 70) (v := ?vf9) rfl rfl (by kernel_rfl) (by kernel_rfl) (by kernel_rfl) (fun _ _ _ h => h) (Or.inl ⟨by rfl, ?hyf9⟩) (by assumption) ?_
      case hyf9 => (intro w hSw; (try dsimp only at hSw); go_simp <;> with_reducible rfl)
      try simp only [Act.put, List.setIfInBounds_toArray, List.set_cons_zero, List.set_cons_succ]
      refine takeD (i := 10) (d := some 71) (v := ?vf10) rfl rfl (by kernel_rfl) (by kernel_rfl) (by kernel_rfl) (fun _ _ _ h => h) (Or.inl ⟨by rfl, ?hyf10⟩) (by assumption) ?_
      case hyf10 => (intro w hSw; (try dsimp only at hSw); go_simp <;> with_reducible rfl)
      try simp only [Act.put, List.setIfInBounds_toArray, List.set_cons_zero, List.set_cons_succ]
      refine takeD (i := 11) (d := some 72) (v := ?vf11) rfl rfl (by kernel_rfl) (by kernel_rfl) (by kernel_rfl) (fun _ _ _ h => h) (Or.inl ⟨by rfl, ?hyf11⟩) (by assumption) ?_
      case hyf11 => (intro w hSw; (try dsimp only at hSw); go_simp <;> with_reducible rfl)
      try simp only [Act.put, List.setIfInBounds_toArray, List.set_cons_zero, List.set_cons_succ]
      refine takeD (i := 12) (d := some 73) (v := ?vf12) rfl rfl (by kernel_rfl) (by kernel_rfl) (by kernel_rfl) (fun _ _ _ h => h) (Or.inl ⟨by rfl, ?hyf12⟩) (by assumption) ?_
      case hyf12 => (intro w hSw; (try dsimp only at hSw); go_simp <;> with_reducible rfl)
      try simp only [Act.put, List.setIfInBounds_toArray, List.set_cons_zero, List.set_cons_succ]
      refine takeD (i := 13) (d := some 74) (v := ?vf13) rfl rfl (by kernel_rfl) (by kernel_rfl) (by kernel_rfl) (fun _ _ _ h => h) (Or.inl ⟨by rfl, ?hyf13⟩) (by assumption) ?_
      case hyf13 => (intro w hSw; (try dsimp only at hSw); go_simp <;> with_reducible rfl)
      try simp only [Act.put, List.setIfInBounds_toArray, List.set_cons_zero, List.set_cons_succ]
      refine takeD (i := 14) (d := some 75) (v := ?vf14) rfl rfl (by kernel_rfl) (by kernel_rfl) (by kernel_rfl) (fun _ _ _ h => h) (Or.inl ⟨by rfl, ?hyf14⟩) (by assumption) ?_
      case hyf14 => (intro w hSw; (try dsimp only at hSw); go_simp <;> with_reducible rfl)
      try simp only [Act.put, List.setIfInBounds_toArray, List.set_cons_zero, List.set_cons_succ]
      refine takeD (i := 15) (d := some 76) (v := ?vf15) rfl rfl (by kernel_rfl) (by kernel_rfl) (by kernel_rfl) (fun _ _ _ h => h) (Or.inl ⟨by rfl, ?hyf15⟩) (by assumption) ?_
      case hyf15 => (intro w hSw; (try dsimp only at hSw); go_simp <;> with_reducible rfl)
      try simp only [Act.put, List.setIfInBounds_toArray, List.set_cons_zero, List.set_cons_succ]
      refine passD (i := 16) (d := some 77) rfl rfl (by kernel_rfl) (by kernel_rfl) (by kernel_rfl) (fun _ _ _ h => h) (by rfl) (by assumption) ?_
      try simp only [Act.put, List.setIfInBounds_toArray, List.set_cons_zero, List.set_cons_succ]
      refine passD (i := 17) (d := some 78) rfl rfl (by kernel_rfl) (by kernel_rfl) (by kernel_rfl) (fun _ _ _ h => h) (by rfl) (by assumption) ?_
      try simp only [Act.put, List.setIfInBounds_toArray, List.set_cons_zero, List.set_cons_succ]
      refine passD (i := 18) (d := some 79) rfl rfl (by kernel_rfl) (by kernel_rfl) (by kernel_rfl) (fun _ _ _ h => h) (by rfl) (by assumption) ?_
      try simp only [Act.put, List.setIfInBounds_toArray, List.set_cons_zero, List.set_cons_succ]
      refine passD (i := 19) (d := some 80) rfl rfl (by kernel_rfl) (by kernel_rfl) (by kernel_rfl) (fun _ _ _ h => h) (by rfl) (by assumption) ?_
      try simp only [Act.put, List.setIfInBounds_toArray, List.set_cons_zero, List.set_cons_succ]
      refine passD (i := 20) (d := some 81) rfl rfl (by kernel_rfl) (by kernel_rfl) (by kernel_rfl) (fun _ _ _ h => h) (by rfl) (by assumption) ?_
      try simp only [Act.put, List.setIfInBounds_toArray, List.set_cons_zero, List.set_cons_succ]
      refine passD (i := 21) (d := some 82) rfl rfl (by kernel_rfl) (by kernel_rfl) (by kernel_rfl) (fun _ _ _ h => h) (by rfl) (by assumption) ?_
      try simp only [Act.put, List.setIfInBounds_toArray, List.set_cons_zero, List.set_cons_succ]
      refine takeD (i := 22) (d := some 83) (v := ?vf22) rfl rfl (by kernel_rfl) (by kernel_rfl) (by kernel_rfl) (fun _ _ _ h => h) (Or.inl ⟨by rfl, ?hyf22⟩) (by assumption) ?_
      case hyf22 => (intro w hSw; (try dsimp only at hSw); go_simp <;> with_reducible rfl)
      try simp only [Act.put, List.setIfInBounds_toArray, List.set_cons_zero, List.set_cons_succ]
      refine takeD (i := 23) (d := some 84) (v := ?vf23) rfl rfl (by kernel_rfl) (by kernel_rfl) (by kernel_rfl) (fun _ _ _ h => h) (Or.inl ⟨by rfl, ?hyf23⟩) (by assumption) ?_
      case hyf23 => (intro w hSw; (try dsimp only at hSw); go_simp <;> with_reducible rfl)
      try simp only [Act.put, List.setIfInBounds_toArray, List.set_cons_zero, List.set_cons_succ]
      refine wpAnyH_done (by kernel_rfl) ?_ _
      refine NoPanic.normal ?_
      -- behind: hBf6
      go_wp2_with fail
      go_meet
      case rel => exact ⟨by assumption, rfl⟩
  generalize wc = wB at *
  obtain ⟨hBc, rfl⟩ := hcut
  have HDc : Hid (BsAt wB g 0 L (zz l)) := HD6.out.below hBc hg6
  have HBc : Hid (Below w.heap.size w wB) := bl_then HB6.out hBc
  have hgc : g < wB.heap.size := Nat.lt_of_lt_of_le hg6 hBc.size
  clear c0 c1 HD6 HB6 hBc HF
  go_wp2_with fail
  refine (DrawPutNumber_any a n cap Z _ (HI.out.below HBc.out) HR.out hn1 hcap).mono ?_
  rintro e w7 ⟨N, rfl, hb7⟩
  have HD7 : Hid (BsAt w7 g 0 L (zz l)) := HDc.out.below hb7 hgc
  have HB7 : Hid (Below w.heap.size w w7) := bl_then HBc.out hb7
  have hg7 : g < w7.heap.size := Nat.lt_of_lt_of_le hgc hb7.size
  clear HDc HBc hb7 hgc
  go_wp2_with fail
  refine (impl_PutNumber_any N _).mono ?_
  rintro e w8 ⟨pv, rfl, hR8, hb8⟩
  have HD8 : Hid (BsAt w8 g 0 L (zz l)) := HD7.out.below hb8 hg7
  have HB8 : Hid (Below w.heap.size w w8) := bl_then HB7.out hb8
  have hg8 : g < w8.heap.size := Nat.lt_of_lt_of_le hg7 hb8.size
  clear HD7 HB7 hb8 hg7
  cases hin : inB N 0 1099511627776
  · have hpc : pnC N = 3 := by simp [pnC, hin]
    have hpl : pnL N = [] := by simp [pnL, hin]
    rw [hpl] at hR8
    obtain ⟨pa, pcap, hpv, _, _⟩ := hR8.own
    have Hsp : Hid (∀ W', Calls Try.prog 19 #[.int .i64 N] W' fun e w' => ∃ v, e = .returned (.agg #[.int .i64 3, v]) ∧ RowB W'.heap.size w' v [] ∧ Below W'.heap.size W' w') := fun W' => hpc ▸ hpl ▸ spec_PutNumber_any N W'
    rw [hpc]
    subst hpv
    clear hR8 hpc hpl hin
    have hfd : ∀ (a : Option Addr) (m c : Nat) (w : World), (Instr.field 29 (.agg #[.int .i64 3, .slice a m c]) 0).run Try.prog w = .ok (.int .i64 3) w := fun _ _ _ _ => by kernel_rfl
    go_wp2_with fail
    generalize hW9 : (w8.alloc _ : World) = w9
    have hb89 : Below w8.heap.size w8 w9 := by subst hW9; (repeat (first | exact Below.refl _ _ | assumption | refine Below.drew ?_ | refine bl_alloc ?_ _ | refine bl_then ?_ (by assumption) | refine Below.setCell ?_ (by first | omega | (simp; done) | (simp; omega)) _ | refine bl_store ?_ ?_ _ _))
    have c0 : ∀ W', Below w9.heap.size w9 W' → W'.cell? ⟨w8.heap.size, 0, none⟩ = some (.int .i64 3) := fun W' h => by
      rw [h.cell (by subst hW9; simp)]; subst hW9; simp [go_sem]
    clear hW9
    have HB9 : Hid (Below w.heap.size w w9) := bl_then HB8.out hb89
    clear hb89 HD8 HB8
    refine wp_region_noPanic ?_
    refine wp_region_held_drew (S := fun W' => Below w9.heap.size w9 W') (by kernel_rfl) (by (repeat (first | exact Below.refl _ _ | assumption | refine Below.drew ?_ | refine bl_alloc ?_ _ | refine bl_then ?_ (by assumption) | refine Below.setCell ?_ (by first | omega | (simp; done) | (simp; omega)) _ | refine bl_store ?_ ?_ _ _))) (fun hHeld => ?_)
    have hBdh : Below w9.heap.size w9 w9.drew := hHeld
    refine takeD (i := 0) (d := some 92) (v := ?vh0) rfl rfl (by kernel_rfl) (by kernel_rfl) (by kernel_rfl) (fun _ _ _ h => h) (Or.inl ⟨by rfl, ?hyh0⟩) (by assumption) ?_
    case hyh0 => (intro w hSw; (try dsimp only at hSw); go_simp <;> with_reducible rfl)
    try simp only [Act.put, List.setIfInBounds_toArray, List.set_cons_zero, List.set_cons_succ]
    refine takeD (i := 3) (d := some 95) (v := ?vh3) rfl rfl (by kernel_rfl) (by kernel_rfl) (by kernel_rfl) (fun _ _ _ h => h) (Or.inl ⟨by rfl, ?hyh3⟩) (by assumption) ?_
    case hyh3 => (intro w hSw; (try dsimp only at hSw); go_simp <;> with_reducible rfl)
    try simp only [Act.put, List.setIfInBounds_toArray, List.set_cons_zero, List.set_cons_succ]
    refine takeD (i := 4) (d := some 96) (v := ?vh4) rfl rfl (by kernel_rfl) (by kernel_rfl) (by kernel_rfl) (fun _ _ _ h => h) (Or.inl ⟨by rfl, ?hyh4⟩) (by assumption) ?_
    case hyh4 => (intro w hSw; (try dsimp only at hSw); go_simp <;> with_reducible rfl)
    try simp only [Act.put, List.setIfInBounds_toArray, List.set_cons_zero, List.set_cons_succ]
    refine wpAnyH_ready (rs := [1]) (by kernel_rfl) (by simp) ?_
    refine (AllReadyH.cons rfl (fun K hK => ?_) AllReadyH.nil)
    go_simp
    refine Calls.mono (Hsp.out _) ?_
    rintro e wqh1 ⟨pv2, rfl, hRr, hqh1⟩
    have hBh1 : Below w9.heap.size w9 wqh1 := bl_then hBdh hqh1
    obtain ⟨pa2, pc2, rfl, _, _⟩ := hRr.own
    clear hRr
    go_wp2_with fail
    refine hK.out _ _ hBh1 (fun hHeld => ?_)
    clear hK K
    try simp only [Act.put, List.setIfInBounds_toArray, List.set_cons_zero, List.set_cons_succ]
    refine takeD (i := 2) (d := some 94) (v := ?vh2) rfl rfl (by kernel_rfl) (by kernel_rfl) (by kernel_rfl) (fun _ _ _ h => h) (Or.inl ⟨by rfl, ?hyh2⟩) (by assumption) ?_
    case hyh2 => (intro w hSw; (try dsimp only at hSw); go_simp <;> with_reducible rfl)
    try simp only [Act.put, List.setIfInBounds_toArray, List.set_cons_zero, List.set_cons_succ]
    refine takeD (i := 5) (d := some 97) (v := ?vh5) rfl rfl (by kernel_rfl) (by kernel_rfl) (by kernel_rfl) (fun _ _ _ h => h) (Or.inl ⟨by rfl, ?hyh5⟩) (by assumption) ?_
    case hyh5 => (intro w hSw; (try dsimp only at hSw); go_simp <;> with_reducible rfl)
    try simp only [Act.put, List.setIfInBounds_toArray, List.set_cons_zero, List.set_cons_succ]
    refine takeD (i := 6) (d := some 2) (v := ?vh6) rfl rfl (by kernel_rfl) (by kernel_rfl) (by kernel_rfl) (fun _ _ _ h => h) (Or.inl ⟨by rfl, ?hyh6⟩) (by assumption) ?_
    case hyh6 => (intro w hSw; (try dsimp only at hSw); go_simp <;> with_reducible rfl)
    try simp only [Act.put, List.setIfInBounds_toArray, List.set_cons_zero, List.set_cons_succ]
    refine wpAnyH_done (by kernel_rfl) ?_ _
    refine NoPanic.normal ?_
    -- behind: hBh1
    go_wp2
    go_ret
    exact ⟨rfl, bl_then HB9.out (by assumption)⟩
  · obtain ⟨b1, b2⟩ : 0 ≤ N ∧ N ≤ 1099511627776 := by simpa [inB] using hin
    obtain ⟨M, rfl⟩ : ∃ M : Nat, N = (M : Int) := ⟨N.toNat, by omega⟩
    have hpc : pnC (M : Int) = 0 := by simp [pnC, hin]
    have hpl : pnL (M : Int) = putI M := by simp [pnL, hin]
    rw [hpl] at hR8
    rw [hpc]
    obtain ⟨gp, cpp, rfl, hgp1, hgp2, hgp3, hbsp⟩ := hR8.at (putI_ne M)
    have h6 := putI_len6 M (by omega)
    have hne := putI_ne M
    have HP8 : Hid (BsAt w8 gp 0 (putI M).length (zz (putI M))) := hbsp
    clear hR8 hpc hpl hin hbsp
    obtain ⟨i0, hi, hz0, hz1, hz2⟩ := info_parts info_u8
    have HR0 : Hid (∀ (W : World), RowB W.heap.size (W.alloc (.cells #[] 5)) (.slice (some ⟨W.heap.size, 0, none⟩) 0 0) []) := fun W => World.ownsRow_lit (base := W.heap.size) W #[] 0 (Nat.le_refl _) (Nat.zero_le _) rfl
    obtain ⟨P, hP⟩ : ∃ P, (putI M).length = P := ⟨_, rfl⟩
    have HPL : Hid ((putI M).length = P) := hP
    rw [hP] at h6 hne hgp3 HP8 ⊢
    have HN8 : Hid (∀ j u, (cellsB (putI M))[j]? = some u → w8.cell? ((⟨gp, 0, none⟩ : Addr).add j) = some u) := by
      have h := HP8.out
      rw [← hP] at h
      exact h.news
    have HNl : Hid (∀ j u, (cellsB l)[j]? = some u → w8.cell? ((⟨g, 0, none⟩ : Addr).add j) = some u) := by
      have h := HD8.out
      rw [← HL.out] at h
      exact h.news
    have hcl : (cellsB (putI M)).length = P * 1 := by rw [cellsB_len, hP]; omega
    have hcl2 : (cellsB l).length = L * 1 := by rw [cellsB_len, HL.out]; omega
    clear hP
    go_wp2_with (first
      | (at_builtin; go_must (refine wpList_append_own _ rfl _ _ 22 rfl (w8.heap.size + 1) 5 i0 (.int .u8 0) 1 1 Try.underlying22 hi hz0 hz1 hz2 rfl (by decide) _ 0 (cellsB []) rfl ?c0 ⟨gp, 0, none⟩ P cpp (cellsB (putI M)) rfl hcl ?c1 (cellsB_one _) ?c3 ?c4 ?c5 ?_)))
    case c0 =>
      have h := HR0.out (w8.alloc (.cells #[.int .i64 0, .slice (some ⟨gp, 0, none⟩) P cpp] 29))
      have e : (w8.alloc (.cells #[.int .i64 0, .slice (some ⟨gp, 0, none⟩) P cpp] 29)).heap.size = w8.heap.size + 1 := by simp
      rw [e] at h
      exact h
    case c1 => exact fun j u hj => bl_cellB (by (repeat (first | exact Below.refl _ _ | assumption | refine Below.drew ?_ | refine bl_alloc ?_ _ | refine bl_then ?_ (by assumption) | refine Below.setCell ?_ (by first | omega | (simp; done) | (simp; omega)) _ | refine bl_store ?_ ?_ _ _))) (HN8.out j u hj)
    case c3 => unfold maxLen; omega
    case c4 => omega
    case c5 => simp
    intro v1 w10 hown1 hgrow1 hnil1
    have hV : Below w8.heap.size w8 ((w8.alloc (.cells #[.int .i64 0, .slice (some ⟨gp, 0, none⟩) P cpp] 29)).alloc (.cells #[] 5)) := by (repeat (first | exact Below.refl _ _ | assumption | refine Below.drew ?_ | refine bl_alloc ?_ _ | refine bl_then ?_ (by assumption) | refine Below.setCell ?_ (by first | omega | (simp; done) | (simp; omega)) _ | refine bl_store ?_ ?_ _ _))
    have hg10 : Below (w8.heap.size + 1) ((w8.alloc (.cells #[.int .i64 0, .slice (some ⟨gp, 0, none⟩) P cpp] 29)).alloc (.cells #[] 5)) w10 := (Below.refl _ _).grown hgrow1 (by simp) (fun k hk => by simp [Value.ownBlock] at hk; omega)
    have k0 : w10.cell? ⟨w8.heap.size, 0, none⟩ = some (.int .i64 0) := by rw [hg10.cell (by simp)]; simp [go_sem]
    have k1 : w10.cell? ⟨w8.heap.size, 1, none⟩ = some (.slice (some ⟨gp, 0, none⟩) P cpp) := by rw [hg10.cell (by simp)]; simp [go_sem]
    have hb10 : Below w8.heap.size w8 w10 := hV.trans (hg10.mono (by omega))
    have hl10 : w8.heap.size + 1 ≤ w10.heap.size := by have := hg10.size; simp at this; omega
    have HO10 : Hid (w10.ownsRow (w8.heap.size + 1) 5 1 v1 P (cellsB (putI M))) := by
      show World.ownsRow _ _ _ _ _ _ _
      simpa [cellsB] using hown1
    have HB10 : Hid (Below w8.heap.size w8 w10) := hb10
    clear hV hg10 hown1 hgrow1 hnil1 hb10
    go_wp2_with (first
      | (at_builtin; go_must (refine wpList_append_own _ rfl _ _ 22 rfl (w8.heap.size + 1) 5 i0 (.int .u8 0) 1 1 Try.underlying22 hi hz0 hz1 hz2 rfl (by decide) v1 P (cellsB (putI M)) rfl HO10.out ⟨g, 0, none⟩ L cp (cellsB l) rfl hcl2 ?d1 (cellsB_one _) ?d3 ?d4 ?d5 ?_)))
    case d1 => exact fun j u hj => bl_cellB HB10.out (HNl.out j u hj)
    case d3 => unfold maxLen; omega
    case d4 => omega
    case d5 => first | omega | (simp; omega)
    intro v2 w11 hown2 hgrow2 hnil2
    have hg11 : Below (w8.heap.size + 1) w10 w11 := (Below.refl _ _).grown hgrow2 hl10 (fun k hk => (HO10.out.lt k hk).1)
    have q0 : w11.cell? ⟨w8.heap.size, 0, none⟩ = some (.int .i64 0) := by rw [hg11.cell (by simp)]; exact k0
    have q1 : w11.cell? ⟨w8.heap.size, 1, none⟩ = some (.slice (some ⟨gp, 0, none⟩) P cpp) := by rw [hg11.cell (by simp)]; exact k1
    have HB11 : Hid (Below w.heap.size w w11) := bl_then HB8.out (HB10.out.trans (hg11.mono (by omega)))
    have hl11 : w8.heap.size + 1 ≤ w11.heap.size := Nat.le_trans hl10 hg11.size
    obtain ⟨K, hK⟩ : ∃ K, (putI M ++ l).length = K := ⟨_, rfl⟩
    have hKP : K = P + L := by rw [← hK, List.length_append, HPL.out, HL.out]
    have hO11 : RowB (w8.heap.size + 1) w11 v2 (putI M ++ l) := by
      unfold RowB
      rw [cellsB_add, hK, hKP]
      exact hown2
    obtain ⟨g2, cap2, rfl, hg21, hg22, hg23, hbs2⟩ := hO11.at (by omega)
    have hK1 : P ≤ K := by omega
    have hK2 : K ≤ 1000 := by omega
    clear hKP
    rw [hK] at hg23 hbs2 ⊢
    have hrd : rd (zz (putI M ++ l)) K = some (M, P) := by
      have h := rd_put (Z := zz (putI M ++ l)) (n := K) (m := M) (fun j hj => by
        unfold zz
        simp [List.getD_eq_getElem?_getD, List.getElem?_append_left hj]) (by rw [HPL.out]; omega) (by omega)
      rwa [HPL.out] at h
    have hrv : rdV (zz (putI M ++ l)) K = .agg #[.int .i64 0, .int .i64 (M : Int), .int .i64 (P : Int)] := by unfold rdV; rw [hrd]
    have HRN : Hid (Calls Try.prog 11 #[.slice (some ⟨g2, 0, none⟩) K cap2] w11 fun e w' => e = .returned (.agg #[.int .i64 0, .int .i64 (M : Int), .int .i64 (P : Int)]) ∧ Below w11.heap.size w11 w') := hrv ▸ impl_ReadNumber_any (some ⟨g2, 0, none⟩) K cap2 (zz (putI M ++ l)) w11 (hbs2.is hg22) (fun i => ((putI_bys M).append HY.out).zz i) (by omega) hg23
    clear hg11 hown2 hgrow2 hnil2 hO11 hbs2 hrd hrv hK k0 k1
    go_wp2_with fail
    refine Calls.mono HRN.out ?_
    rintro e w12 ⟨rfl, hb12⟩
    have r0 := bl_cellB hb12 q0
    have r1 := bl_cellB hb12 q1
    have HB12 : Hid (Below w.heap.size w w12) := bl_then HB11.out hb12
    have hl12 : w8.heap.size < w12.heap.size := Nat.lt_of_lt_of_le (by omega) hb12.size
    have hP0 : (0 : Int) < (P : Int) := by omega
    clear q0 q1 HRN hb12 HB11
    go_wp2
    go_ret
    have HB12' := HB12.out
    exact ⟨rfl, by (repeat (first | exact Below.refl _ _ | assumption | refine Below.drew ?_ | refine bl_alloc ?_ _ | refine bl_then ?_ (by assumption) | refine Below.setCell ?_ (by first | omega | (simp; done) | (simp; omega)) _ | refine bl_store ?_ ?_ _ _))⟩
end Go.Proofs.Ytdkjbfppogdokaa
