/- Several texts in one. -/
import Derived.Test.YtdohlnnbibnnbaaGreatVPlaceLabels40
import Derived.Test.YtdohlnnbibnnbaaGreatVPlaceLabels1
import Derived.Test.YtdohlnnbibnnbaaGreatVPlaceLabels9
import Derived.Test.YtdohlnnbibnnbaaGreatVPlaceLabels38
import Derived.Test.YtdohlnnbibnnbaaGreatVPlaceLabels21
import Derived.Test.YtdohlnnbibnnbaaGreatVPlaceLabels6
import Derived.Test.YtdohlnnbibnnbaaGreatVPlaceLabels37
import Derived.Test.YtdohlnnbibnnbaaGreatVPlaceLabels39

/- DoOverlap and LabelAt: the program and the model, and the laws' steps. -/

namespace Go.Proofs.YtdohlnnbibnnbaaGreat
open Go.RowKit
set_option linter.unusedSimpArgs false
set_option linter.unusedVariables false
set_option maxRecDepth 100000

theorem enter_ov (args : Array Value) (w : World) : (callFunc 82 args).run Tryz.prog w = .ok (.enter 82 args) w := by
  have h1 : (Tryz.f82).name ≠ "runtime.NumGoroutine" := by
    have : ((Tryz.f82).name == "runtime.NumGoroutine") = false := by kernel_rfl
    simpa using this
  have hb : ∃ c, (Tryz.f82).body = some c := ⟨_, rfl⟩
  obtain ⟨c, hb⟩ := hb
  simp [callFunc, Tryz.func82, h1, hb]
set_option maxHeartbeats 4000000 in
theorem indexOv_any (a : Option Addr) (n cap : Nat) (E : Nat → Plc) (f : Plc) (w : World) (hp : IsLb w a n E) (hn : n ≤ 1048576) :
    Calls Tryz.prog 81 #[.slice a n cap, .func (.func 82) #[plcV f] #[]] w fun e w' => e = .returned (.int .i64 (firstI (fun i => ovB f (E i)) n)) ∧ Below w.heap.size w w' := by
  have HP : Hid (IsLb w a n E) := hp
  have hce := enter_ov
  clear hp
  go_enter Tryz.func81, Tryz.ntmps81
  go_wp2_with fail
  go_loopw [8] (fun i wr => ∃ k : Nat, k ≤ n ∧ i = .int .i64 (k : Int) ∧ (∀ j, j < k → ovB f (E j) = false) ∧ Below w.heap.size w wr) (fun i _ => n - (intOf i).toNat)
  case atStart => exact ⟨0, by omega, rfl, fun j hj => absurd hj (Nat.not_lt_zero _), Below.refl _ _⟩
  case round =>
    obtain ⟨k, hk, rfl, hno, hB⟩ := hrel
    have HN : Hid (∀ j, j < k → ovB f (E j) = false) := hno
    have HB : Hid (Below w.heap.size w wr) := hB
    by_cases hlt : k < n
    · rcases HP.out with h0 | ⟨b, off, rfl, hb, hpt⟩
      · omega
      obtain ⟨q0, q1, q2, q3, q4⟩ := (hpt.below hB hb) k hlt
      have hi : (k : Int) < (n : Int) := by omega
      have hi0 : (0 : Int) ≤ (k : Int) := by omega
      have sO : ∀ w, Calls Tryz.prog 82 #[plcV f, plcV (E k)] w fun r w' => r = .returned (.bool (ovB f (E k))) ∧ Below w.heap.size w w' := fun w => overlaps_any f (E k) w
      clear hno hB hpt
      cases hE : ovB f (E k)
      · rw [hE] at sO
        have HN2 : Hid (∀ j, j < k + 1 → ovB f (E j) = false) := fun j hj => by
          by_cases e : j = k
          · rw [e]; exact hE
          · exact HN.out j (by omega)
        clear hE
        go_wp2_with fail
        refine (sO _).mono ?_
        rintro e w1 ⟨rfl, hb1⟩
        go_wp2_with fail
        exact ⟨⟨k + 1, by omega, by simp, HN2.out, bl_then HB.out hb1⟩, by simp [intOf]; omega⟩
      · rw [hE] at sO
        have HY : Hid (firstI (fun i => ovB f (E i)) n = (k : Int)) := firstI_yes hlt hE HN.out
        clear hE
        go_wp2_with fail
        refine (sO _).mono ?_
        rintro e w1 ⟨rfl, hb1⟩
        go_wp2
        go_ret
        exact ⟨ret_int HY.out.symm, bl_then HB.out hb1⟩
    · obtain rfl : n = k := by omega
      have HY : Hid (firstI (fun i => ovB f (E i)) n = -1) := firstI_no HN.out
      go_wp2
      go_ret
      exact ⟨ret_int HY.out.symm, HB.out⟩
set_option maxHeartbeats 2000000 in
theorem firstOver_any (a : Option Addr) (n cap : Nat) (E : Nat → Plc) (f : Plc) (w : World) (hp : IsLb w a n E) (hn : n ≤ 1048576) :
    Calls Tryz.prog 35 #[plcV f, .slice a n cap] w fun e w' => e = .returned (.int .i64 (firstI (fun i => ovB f (E i)) n)) ∧ Below w.heap.size w w' := by
  have HI : Hid (∀ W, Below w.heap.size w W → Calls Tryz.prog 81 #[.slice a n cap, .func (.func 82) #[plcV f] #[]] W fun e w' => e = .returned (.int .i64 (firstI (fun i => ovB f (E i)) n)) ∧ Below W.heap.size W w') := fun W h => indexOv_any a n cap E f W (hp.below h) hn
  clear hp
  have hmf : ∀ (fn : Fn) (first cap : Array Value) (w : World), (Instr.makeFunc fn first cap).run Tryz.prog w = .ok (.func fn first cap) w := fun _ _ _ _ => rfl
  generalize firstI (fun i => ovB f (E i)) n = r at *
  go_enter Tryz.func35, Tryz.ntmps35
  go_wp2_with fail
  generalize hW : (w.alloc _ : World) = W
  have HB0 : Below w.heap.size w W := by subst hW; (repeat (first | exact Below.refl _ _ | assumption | refine Below.drew ?_ | refine bl_alloc ?_ _ | refine bl_then ?_ (by assumption) | refine Below.setCell ?_ (by first | omega | (simp; done) | (simp; omega)) _ | refine bl_store ?_ ?_ _ _))
  clear hW
  refine (HI.out _ HB0).mono ?_
  rintro e w1 ⟨rfl, hb1⟩
  go_wp2
  go_ret
  exact ⟨rfl, bl_then HB0 hb1⟩
end Go.Proofs.YtdohlnnbibnnbaaGreat
/- The law of LabelBox returns true, where the program and the model answer the same code and the same list in memory of their own. -/

namespace Go.Proofs.YtdohlnnbibnnbaaGreat
open Go.RowKit
set_option linter.unusedSimpArgs false
set_option linter.unusedVariables false
set_option maxRecDepth 100000

end Go.Proofs.YtdohlnnbibnnbaaGreat
/- The law of SnapPoint returns true at every point and number. -/

namespace Go.Proofs.YtdohlnnbibnnbaaGreat
open Go.RowKit
set_option linter.unusedSimpArgs false
set_option linter.unusedVariables false
end Go.Proofs.YtdohlnnbibnnbaaGreat
/- The law of AnchorOf: its steps. -/

namespace Go.Proofs.YtdohlnnbibnnbaaGreat
open Go.RowKit
set_option linter.unusedSimpArgs false
set_option linter.unusedVariables false
set_option maxRecDepth 100000
end Go.Proofs.YtdohlnnbibnnbaaGreat
/- The law of AnchorOf returns true at every feature and number. -/

namespace Go.Proofs.YtdohlnnbibnnbaaGreat
open Go.RowKit
set_option linter.unusedVariables false
end Go.Proofs.YtdohlnnbibnnbaaGreat
/- LabelBox: the program and the model, and the law at every feature. -/

namespace Go.Proofs.YtdohlnnbibnnbaaGreat
open Go.RowKit
set_option linter.unusedSimpArgs false
set_option linter.unusedVariables false
set_option maxRecDepth 100000

theorem lab_ne {lab : ByteArray} (h : ¬ lab = ⟨#[]⟩) : lab.toList.isEmpty = false := by
  cases hb : lab.toList.isEmpty
  · rfl
  · have e : lab.toList = [] := by simpa using hb
    rw [ByteArray.toList_eq] at e
    exact absurd (ByteArray.ext (Array.toList_inj.1 e)) h
theorem OwnP.set {w : World} {base B r o : Nat} {v u : Value} {n : Nat} {E : Nat → Plc} (h : OwnP w base v n E) (hr : r < base) (hB : B ≤ base) : OwnP (w.setCell ⟨r, o, none⟩ u) B v n E := by
  obtain ⟨a, cap, hv, hc, h0 | ⟨b, ha, hbb, hl, hp, ht⟩⟩ := h
  · exact ⟨a, cap, hv, hc, .inl h0⟩
  · have hne : r ≠ b := by omega
    have ne : ∀ k : Nat, (⟨r, o, none⟩ : Addr) ≠ ⟨b, k, none⟩ := fun k e => hne (by injection e)
    refine ⟨a, cap, hv, hc, .inr ⟨b, ha, by omega, by simpa using hl, fun i hi => ?_, ht.outP hne⟩⟩
    obtain ⟨h0, h1, h2, h3, h4⟩ := hp i hi
    exact ⟨(set1_other (ne _)).trans h0, (set1_other (ne _)).trans h1, (set1_other (ne _)).trans h2, (set1_other (ne _)).trans h3, (set1_other (ne _)).trans h4⟩
end Go.Proofs.YtdohlnnbibnnbaaGreat
