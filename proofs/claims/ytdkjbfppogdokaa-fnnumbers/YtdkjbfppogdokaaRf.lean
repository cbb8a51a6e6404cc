/- ReadNumber: the program's way; what cannot be read is a panic that is recovered. -/
import Derived.Test.YtdkjbfppogdokaaNu
import Derived.Test.YtdkjbfppogdokaaRn
import Derived.Tactics
import Derived.Tactics2
import Derived.Defers
import Derived.Recover
import Derived.Laws.Pointers
namespace Go.Proofs.Ytdkjbfppogdokaa
open Go.RowKit
set_option linter.unusedSimpArgs false
set_option linter.unusedVariables false
set_option maxRecDepth 100000

theorem set3 {W : World} {b : Nat} {v0 v1 v2 : Value} (ht : There W b 3) : ((((W.setCell ⟨b, 0, none⟩ v0).setCell ⟨b, 1, none⟩ v1).setCell ⟨b, 2, none⟩ v2).cell? ⟨b, 0, none⟩ = some v0) ∧ ((((W.setCell ⟨b, 0, none⟩ v0).setCell ⟨b, 1, none⟩ v1).setCell ⟨b, 2, none⟩ v2).cell? ⟨b, 1, none⟩ = some v1) ∧ ((((W.setCell ⟨b, 0, none⟩ v0).setCell ⟨b, 1, none⟩ v1).setCell ⟨b, 2, none⟩ v2).cell? ⟨b, 2, none⟩ = some v2) := by
  obtain ⟨u0, h0⟩ := (ht 0 (by omega)).1
  obtain ⟨u1, h1⟩ := ((ht.set1 0 v0) 1 (by omega)).1
  obtain ⟨u2, h2⟩ := (((ht.set1 0 v0).set1 1 v1) 2 (by omega)).1
  refine ⟨?_, ?_, ?_⟩
  · rw [World.cell?_setCell_other, World.cell?_setCell_other]
    · exact World.cell?_setCell_same _ _ _ h0
    · simp
    · simp
  · rw [World.cell?_setCell_other]
    · exact World.cell?_setCell_same _ _ _ h1
    · simp
  · exact World.cell?_setCell_same _ _ _ h2
theorem below3 {B b : Nat} {w W : World} {v0 v1 v2 : Value} (h : Below B w W) (hb : B ≤ b) : Below B w (((W.setCell ⟨b, 0, none⟩ v0).setCell ⟨b, 1, none⟩ v1).setCell ⟨b, 2, none⟩ v2) :=
  ((h.setCell (p := ⟨b, 0, none⟩) hb v0).setCell (p := ⟨b, 1, none⟩) hb v1).setCell (p := ⟨b, 2, none⟩) hb v2
theorem readCatch_panicking (r : Nat) (u : TypeId) (pv : Value) (older : List PanicEntry) (w : World) (ht : There w r 3) :
    CallsD Try.prog 35 #[.pointer (some ⟨r, 0, none⟩)] (.panicking ({ v := .iface u pv, recovered := false } :: older)) w fun e u' w' =>
      e = .returned (.tuple #[]) ∧ u' = .panicking ({ v := .iface u pv, recovered := true } :: older) ∧ ((w.setCell ⟨r, 0, none⟩ (.int .i64 5)).setCell ⟨r, 1, none⟩ (.int .i64 0)).setCell ⟨r, 2, none⟩ (.int .i64 0) = w' := by
  have c0 := ht.cell 0 (by omega)
  have c1 := ht.cell 1 (by omega)
  have c2 := ht.cell 2 (by omega)
  have f0 := (ht 0 (by omega)).2
  have f1 := (ht 1 (by omega)).2
  have f2 := (ht 2 (by omega)).2
  refine callsD_of_wpS Try.func35 rfl fun a₀ cs hu => ?_
  apply wpS_seq
  apply wpS_region
  simp [wpOpsS, go_sem, recoverD, hu, Try.ntmps35, Exit.thenS]
  refine wpS_cond (t := true) (by simp [Act.eval, Array.replicate]) ?_
  simp only [if_true]
  apply wpS_region
  simp [wpOpsS, go_sem, c0, c1, c2, f0, f1, f2, bodyPostS, results, Try.results35]
theorem readCatch_idle (p : Addr) (w : World) :
    CallsD Try.prog 35 #[.pointer (some p)] .returning w fun e u' w' => e = .returned (.tuple #[]) ∧ u' = .returning ∧ w = w' := by
  refine callsD_of_wpS Try.func35 rfl fun a₀ cs hu => ?_
  apply wpS_seq
  apply wpS_region
  simp [wpOpsS, go_sem, recoverD, hu, Try.ntmps35, Exit.thenS]
  refine wpS_cond (t := false) (by simp [Act.eval, Array.replicate]) ?_
  simp only [Bool.false_eq_true, if_false]
  refine wpS_of_wp (wp_skip ?_)
  cases a₀
  simp_all [bodyPostS, results, Try.results35]
set_option maxHeartbeats 2000000 in
theorem impl_ReadNumber_any (a : Option Addr) (n cap : Nat) (Z : Nat → Int) (w : World) (hp : IsBytes w a n Z) (hr : ∀ i, 0 ≤ Z i ∧ Z i ≤ 255) (hmax : n ≤ 1048576) (hcap : n ≤ cap) :
    Calls Try.prog 11 #[.slice a n cap] w fun e w' => e = .returned (rdV Z n) ∧ Below w.heap.size w w' := by
  have hmf : ∀ (fn : Fn) (first cap : Array Value) (w : World), (Instr.makeFunc fn first cap).run Try.prog w = .ok (.func fn first cap) w := fun _ _ _ _ => rfl
  have HP : Hid (IsBytes w a n Z) := hp
  have HR : Hid (∀ i, 0 ≤ Z i ∧ Z i ≤ 255) := hr
  clear hp hr
  go_enter_defers Try.func11, Try.ntmps11
  go_wp2_with fail
  generalize hW : ((w.alloc _).alloc _ : World) = W
  have hB0 : Below w.heap.size w W := by subst hW; (repeat (first | exact Below.refl _ _ | assumption | refine Below.drew ?_ | refine bl_alloc ?_ _ | refine bl_then ?_ (by assumption) | refine Below.setCell ?_ (by first | omega | (simp; done) | (simp; omega)) _ | refine bl_store ?_ ?_ _ _))
  have hT0 : There W w.heap.size 3 := fun o ho => by
    subst hW
    match o, ho with
    | 0, _ => exact ⟨⟨_, by simp [go_sem]; rfl⟩, by simp [go_sem]⟩
    | 1, _ => exact ⟨⟨_, by simp [go_sem]; rfl⟩, by simp [go_sem]⟩
    | 2, _ => exact ⟨⟨_, by simp [go_sem]; rfl⟩, by simp [go_sem]⟩
  have hU0 : UpAt W (w.heap.size + 1) w.heap.size n Z := by
    refine ⟨a, cap, by subst hW; simp [go_sem], by subst hW; simp [go_sem], hcap, ?_⟩
    rcases HP.out with h | ⟨b, off, e, hb, hz⟩
    · exact .inl h
    · exact .inr ⟨b, off, e, hb, fun i hi => (hB0.cell (p := ⟨b, off + i, none⟩) hb).trans (hz i hi)⟩
  have hlW : w.heap.size + 1 < W.heap.size := by subst hW; simp
  clear hW
  refine (number_any (w.heap.size + 1) w.heap.size n Z W hU0 (by omega) hlW HR.out hmax).mono ?_
  rintro e w1 hN
  unfold NumP at hN
  cases hrd : rd Z n with
  | none =>
    rw [hrd] at hN
    obtain ⟨⟨u, pv, rfl⟩, hK⟩ := hN
    have HV : Hid (rdV Z n = .agg #[.int .i64 5, .int .i64 0, .int .i64 0]) := by show _ = _; unfold rdV; rw [hrd]
    have hT1 : There w1 w.heap.size 3 := fun o ho => by
      obtain ⟨v, hv⟩ := (hT0 o ho).1
      exact ⟨⟨v, (hK.cell (p := ⟨w.heap.size, o, none⟩) (show w.heap.size < _ by omega) (show w.heap.size ≠ _ by omega)).trans hv⟩, (hK.frozen (p := ⟨w.heap.size, o, none⟩) (show w.heap.size < _ by omega) (show w.heap.size ≠ _ by omega)).trans (hT0 o ho).2⟩
    have hB1 : Below w.heap.size w w1 := hB0.trans (hK.below (by omega) (by omega))
    clear hrd
    simp only [Exit.then]
    refine leaves_cons (f := 35) (args := #[.pointer (some ⟨w.heap.size, 0, none⟩)]) (by simp) (by simp [go_sem]) ?_
    refine (readCatch_panicking w.heap.size u pv [] _ hT1).mono ?_
    rintro e u' w2 ⟨rfl, rfl, rfl⟩
    obtain ⟨s0, s1, s2⟩ := set3 (v0 := .int .i64 5) (v1 := .int .i64 0) (v2 := .int .i64 0) hT1
    have HBf := below3 (v0 := .int .i64 5) (v1 := .int .i64 0) (v2 := .int .i64 0) hB1 (Nat.le_refl _)
    generalize (((w1.setCell ⟨w.heap.size, 0, none⟩ (.int .i64 5)).setCell ⟨w.heap.size, 1, none⟩ (.int .i64 0)).setCell ⟨w.heap.size, 2, none⟩ (.int .i64 0)) = Wf at *
    simp [Leaves, settle, results, Try.results11, go_sem, s0, s1, s2]
    exact ⟨HV.out.symm, HBf⟩
  | some x =>
    obtain ⟨x, y⟩ := x
    rw [hrd] at hN
    obtain ⟨rfl, hU, hK⟩ := hN
    obtain ⟨b1, b2, b3, b4⟩ := rd_bd hrd
    simp only at b1 b2 b3 b4 hU
    have HV : Hid (rdV Z n = .agg #[.int .i64 0, .int .i64 (x : Int), .int .i64 (y : Int)]) := by show _ = _; unfold rdV; rw [hrd]
    have hT1 : There w1 w.heap.size 3 := fun o ho => by
      obtain ⟨v, hv⟩ := (hT0 o ho).1
      exact ⟨⟨v, (hK.cell (p := ⟨w.heap.size, o, none⟩) (show w.heap.size < _ by omega) (show w.heap.size ≠ _ by omega)).trans hv⟩, (hK.frozen (p := ⟨w.heap.size, o, none⟩) (show w.heap.size < _ by omega) (show w.heap.size ≠ _ by omega)).trans (hT0 o ho).2⟩
    have HB1 : Hid (Below w.heap.size w w1) := hB0.trans (hK.below (by omega) (by omega))
    obtain ⟨a', cap', h0, h1, h2, h3⟩ := hU
    have HT1 : Hid (There w1 w.heap.size 3) := hT1
    have c0 := hT1.cell 0 (by omega)
    have c1 := hT1.cell 1 (by omega)
    have c2 := hT1.cell 2 (by omega)
    have f0 := (hT1 0 (by omega)).2
    have f1 := (hT1 1 (by omega)).2
    have f2 := (hT1 2 (by omega)).2
    have e1 : IntKind.i64.wrap (x : Int) = (x : Int) := IntWalk.i64_in _ (by omega)
    have e2 : (n : Int) - ((n - y : Nat) : Int) = (y : Int) := by omega
    clear hrd h3 hT0 hT1 hU0 hK hB0
    obtain ⟨m, hm⟩ : ∃ m, n - y = m := ⟨_, rfl⟩
    rw [hm] at h0 e2
    have hmn : m ≤ n := by omega
    clear hm
    go_wp2
    refine leaves_cons (f := 35) (args := #[.pointer (some ⟨w.heap.size, 0, none⟩)]) (by simp) (by simp [go_sem]) ?_
    refine (readCatch_idle _ _).mono ?_
    rintro e u' w2 ⟨rfl, rfl, rfl⟩
    obtain ⟨s0, s1, s2⟩ := set3 (v0 := .int .i64 0) (v1 := .int .i64 (x : Int)) (v2 := .int .i64 (y : Int)) HT1.out
    have HBf := below3 (v0 := .int .i64 0) (v1 := .int .i64 (x : Int)) (v2 := .int .i64 (y : Int)) HB1.out (Nat.le_refl _)
    generalize (((w1.setCell ⟨w.heap.size, 0, none⟩ (.int .i64 0)).setCell ⟨w.heap.size, 1, none⟩ (.int .i64 (x : Int))).setCell ⟨w.heap.size, 2, none⟩ (.int .i64 (y : Int))) = Wf at *
    simp [Leaves, settle, results, Try.results11, go_sem, s0, s1, s2]
    exact ⟨HV.out.symm, HBf⟩
end Go.Proofs.Ytdkjbfppogdokaa
