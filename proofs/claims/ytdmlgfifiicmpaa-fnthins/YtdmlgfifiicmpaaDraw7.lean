/- Drawn arguments of ThinLine. -/
import Derived.Test.YtdmlgfifiicmpaaDraw6
namespace Go.Proofs.Ytdmlgfifiicmpaa
open Go.RowKit
set_option linter.unusedSimpArgs false
set_option linter.unusedVariables false

theorem l1Later_ex (a : Option Addr) (n cap : Nat) (w : World) : Calls Try.prog 54 #[.slice a n cap, .int .i64 3] w fun e w' => e = .returned (.pointer (some ⟨w.heap.size, 0, none⟩)) ∧ w.alloc (.cells #[.slice a n cap, .int .i64 26] 115) = w' := by
  go_enter Try.func54, Try.ntmps54
  go_wp2
  go_ret
  exact ⟨rfl, rfl⟩
theorem src_later (a : Option Addr) (n cap : Nat) (Z : Nat → Int) (w : World) (h : IsBytes w a n Z) (hr : ∀ i, 0 ≤ Z i ∧ Z i ≤ 255) (hn : n ≤ 1048576) : Src a n cap Z w.heap.size 26 (w.alloc (.cells #[.slice a n cap, .int .i64 26] 115)) := by
  have hb : Below w.heap.size w (w.alloc (.cells #[.slice a n cap, .int .i64 26] 115)) := by (repeat (first | exact Below.refl _ _ | assumption | refine Below.drew ?_ | refine bl_alloc ?_ _ | refine bl_then ?_ (by assumption) | refine Below.setCell ?_ (by first | omega | (simp; done) | (simp; omega)) _ | refine bl_store ?_ ?_ _ _))
  refine ⟨by simp [go_sem], by simp [go_sem], by simp [go_sem], ?_, hr, hn⟩
  rcases h with h | ⟨b, off, e, hl, hz⟩
  · exact .inl h
  · exact .inr ⟨b, off, e, hl, fun i hi => (hb.cell (p := ⟨b, off + i, none⟩) hl).trans (hz i hi)⟩

set_option maxHeartbeats 1000000 in
theorem DrawThinLine_any (a : Option Addr) (n cap : Nat) (Z : Nat → Int) (w : World) (h : IsBytes w a n Z) (hrng : ∀ i, 0 ≤ Z i ∧ Z i ≤ 255) (hn : n ≤ 1048576) (hcap : n ≤ cap) :
    Calls Try.prog 18 #[.slice a n cap] w fun e w' => ∃ (v : Value) (r : Int), e = .returned (.tuple #[v, .int .i64 r]) ∧ Ring w w' v ∧ Below w.heap.size w w' := by
  have HI : Hid (IsBytes w a n Z) := h
  have HR : Hid (∀ i, 0 ≤ Z i ∧ Z i ≤ 255) := hrng
  clear h hrng
  go_enter Try.func18, Try.ntmps18
  go_wp2_with fail
  refine (DrawSnapAll_any a n cap Z _ HI.out HR.out hn hcap).mono ?_
  rintro e w1 ⟨v, z, rfl, hR1, hB1⟩
  have HR1 : Hid (Ring w w1 v) := hR1
  have HB1 : Hid (Below w.heap.size w w1) := hB1
  clear hR1 hB1
  go_wp2_with fail
  refine (l1Later_ex _ _ _ _).mono ?_
  rintro e w2 ⟨rfl, hw2⟩
  have hS2 : Src a n cap Z w1.heap.size 26 w2 := by rw [← hw2]; exact src_later a n cap Z w1 (HI.out.below HB1.out) HR.out hn
  have hb2 : Below w1.heap.size w1 w2 := by rw [← hw2]; (repeat (first | exact Below.refl _ _ | assumption | refine Below.drew ?_ | refine bl_alloc ?_ _ | refine bl_then ?_ (by assumption) | refine Below.setCell ?_ (by first | omega | (simp; done) | (simp; omega)) _ | refine bl_store ?_ ?_ _ _))
  have HS2 : Hid (Src a n cap Z w1.heap.size 26 w2) := hS2
  have HK2 : Hid (Keeps w1.heap.size w1 w2) := Keeps.of_below hb2
  clear hw2 hS2 hb2
  go_wp2_with fail
  refine (l1Next_any a n cap Z _ 26 200 _ HS2.out hcap (by omega) (by omega) (by omega)).mono ?_
  rintro e w3 ⟨v3, rfl, hv3, hS3, hK3⟩
  have HS3 : Hid (Src a n cap Z w1.heap.size 27 w3) := hS3
  have HK3 : Hid (Keeps w1.heap.size w1 w3) := HK2.out.trans hK3
  clear hS3 hK3 HS2 HK2
  go_wp2_with fail
  refine (l1Next_any a n cap Z _ 27 200 _ HS3.out hcap (by omega) (by omega) (by omega)).mono ?_
  rintro e w4 ⟨v4, rfl, hv4, hS4, hK4⟩
  have HS4 : Hid (Src a n cap Z w1.heap.size 28 w4) := hS4
  have HK4 : Hid (Keeps w1.heap.size w1 w4) := HK3.out.trans hK4
  clear hS4 hK4 HS3 HK3
  go_wp2_with fail
  refine (l1Pick_new6 a n cap Z _ 28 _ _ _ _ _ _ _ _ HS4.out hcap (by omega)).mono ?_
  rintro e w5 ⟨rr, rfl, hS5, hK5⟩
  have hB5 : Below w1.heap.size w1 w5 := (HK4.out.trans hK5).below (Nat.le_refl _) (Nat.le_refl _)
  have HR5 : Hid (Ring w w5 v) := HR1.out.below hB5
  have HB5 : Hid (Below w.heap.size w w5) := bl_then HB1.out hB5
  clear hS5 hK5 HS4 HK4 hB5
  go_wp2
  refine bodyPost_ret (v := .tuple #[v, .int .i64 rr]) (by simp [results, Try.results18, go_sem]) rfl ⟨v, rr, rfl, HR5.out, HB5.out⟩
end Go.Proofs.Ytdmlgfifiicmpaa
