/- Numbers are copied; how a list of numbers that came in is read. -/
import Derived.Test.YtbdhhclamgmfkaaGreatVIsComplete18
namespace Go.Proofs.YtbdhhclamgmfkaaGreat
open Go.RowKit
set_option linter.unusedSimpArgs false
set_option linter.unusedVariables false
set_option maxRecDepth 100000

theorem make_n64 (n : Nat) (h : n ≤ 1048576) (w : World) :
    (Instr.makeSlice 49 (.int .i64 (n : Int)) (.int .i64 (n : Int))).run Tryz.prog w = .ok (.slice (some ⟨w.heap.size, 0, none⟩) n n) (w.alloc (.cells (madeCells #[.int .i64 0] n) 2)) := by
  obtain ⟨i, hi, hz, hs, hb⟩ := info_parts info_n64
  have hr := run_make (P := Tryz.prog) w 49 2 i _ Tryz.underlying49 hi hz .i64 .i64 (n : Int) (n : Int) (by omega) (Int.le_refl _) (by rw [hb]; omega) (by omega)
  simp only [Int.toNat_natCast, hs, Nat.mul_one] at hr
  exact hr
theorem there_madeN (n : Nat) (w : World) (t : TypeId) : There (w.alloc (.cells (madeCells #[.int .i64 0] n) t)) w.heap.size n := fun o ho => by
  have hz := size_madeCells #[.int .i64 0] n
  refine ⟨⟨(madeCells #[.int .i64 0] n)[o]'(by rw [hz]; exact ho), ?_⟩, World.frozen?_alloc_at _ _ _ _ rfl⟩
  rw [World.cell?_alloc_at _ _ _ _ rfl]
  exact Array.getElem?_eq_getElem _

set_option maxHeartbeats 1000000 in
theorem toInt64S_own (a : Option Addr) (n cap : Nat) (Z : Nat → Int) (w : World) (hp : IsNs w a n Z) (hmax : n ≤ 1048576) :
    Calls Tryz.prog 110 #[.slice a n cap] w fun e w' => ∃ b, e = .returned (.slice (some ⟨b, 0, none⟩) n n) ∧ w.heap.size ≤ b ∧ b < w'.heap.size ∧ NsAt w' b 0 n Z ∧ There w' b n ∧ Below w.heap.size w w' := by
  have hmk := make_n64 n hmax
  have HP : Hid (IsNs w a n Z) := hp
  clear hp
  go_enter Tryz.func110, Tryz.ntmps110
  go_wp2
  generalize hW : (w.alloc _ : World) = W
  have HB0 : Hid (Below w.heap.size w W) := by show Below _ _ _; subst hW; (repeat (first | exact Below.refl _ _ | assumption | refine Below.drew ?_ | refine bl_alloc ?_ _ | refine bl_then ?_ (by assumption) | refine Below.setCell ?_ (by first | omega | (simp; done) | (simp; omega)) _ | refine bl_store ?_ ?_ _ _))
  have HT0 : Hid (There W w.heap.size n) := by show There _ _ _; subst hW; exact there_madeN _ _ _
  have HL0 : Hid (w.heap.size < W.heap.size) := by show _ < _; subst hW; simp
  clear hW hmk
  go_loopw [4] (fun i wr => ∃ k : Nat, k ≤ n ∧ i = .int .i64 k ∧ Below w.heap.size w wr ∧ There wr w.heap.size n ∧ NsAt wr w.heap.size 0 k Z ∧ w.heap.size < wr.heap.size) (fun i _ => n - (intOf i).toNat)
  case atStart => exact ⟨0, by omega, rfl, HB0.out, HT0.out, fun i hi => by omega, HL0.out⟩
  case round =>
    obtain ⟨k, hk, rfl, hB, hT, hPt, hlw⟩ := hrel
    by_cases hlt : k < n
    · rcases HP.out with h0 | ⟨b, off, rfl, hbl, hpt⟩
      · omega
      · have hx : wr.cell? ⟨b, off + k, none⟩ = some (.int .i64 (Z k)) := (hB.cell (p := ⟨b, off + k, none⟩) hbl).trans (hpt k hlt)
        have HB : Hid (Below w.heap.size w wr) := hB
        have HT : Hid (There wr w.heap.size n) := hT
        have HQ : Hid (NsAt wr w.heap.size 0 k Z) := hPt
        have t0 := hT.cell k hlt
        have f0 := (hT k hlt).2
        clear hB hT hPt hpt
        have hi : (k : Int) < (n : Int) := by omega
        have hi0 : (0 : Int) ≤ (k : Int) := by omega
        go_wp2
        go_roundw
        case rel =>
          refine ⟨k + 1, by omega, by go_num, ?_, HT.out.setN _ _, fillN HT.out hlt HQ.out, ?_⟩
          · have HB' := HB.out
            (repeat (first | exact Below.refl _ _ | assumption | refine Below.drew ?_ | refine bl_alloc ?_ _ | refine bl_then ?_ (by assumption) | refine Below.setCell ?_ (by first | omega | (simp; done) | (simp; omega)) _ | refine bl_store ?_ ?_ _ _))
          · simp; omega
        case measure => simp [intOf]; omega
    · go_wp2
      go_ret
      have hkn : k = n := by omega
      subst hkn
      exact ⟨_, rfl, Nat.le_refl _, hlw, hPt, hT, hB⟩
end Go.Proofs.YtbdhhclamgmfkaaGreat
