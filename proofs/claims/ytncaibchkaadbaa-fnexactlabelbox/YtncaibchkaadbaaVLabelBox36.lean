/- The model's copy of a feature. -/
import Derived.Test.YtncaibchkaadbaaVLabelBox34
import Derived.Test.YtncaibchkaadbaaVLabelBox5
import Derived.Test.YtncaibchkaadbaaVLabelBox35
import Derived.Deep.DeepCutAuto
namespace Go.Proofs.Ytncaibchkaadbaa
open Go.RowKit
set_option linter.unusedSimpArgs false
set_option linter.unusedVariables false
set_option maxRecDepth 100000

theorem resC (T : Array Value) (Wf : World) (r : Nat) (v0 v1 v2 v3 v4 v5 v6 : Value) (hT : T[2]?.getD undef = .pointer (some ⟨r, 0, none⟩)) (h0 : Wf.cell? ⟨r, 0, none⟩ = some v0) (h1 : Wf.cell? ⟨r, 1, none⟩ = some v1) (h2 : Wf.cell? ⟨r, 2, none⟩ = some v2) (h3 : Wf.cell? ⟨r, 3, none⟩ = some v3) (h4 : Wf.cell? ⟨r, 4, none⟩ = some v4) (h5 : Wf.cell? ⟨r, 5, none⟩ = some v5) (h6 : Wf.cell? ⟨r, 6, none⟩ = some v6) :
    (results Try.f34 T).run Try.prog Wf = .ok (.agg #[v0, v1, v2, v3, v4, v5, v6]) Wf := by
  simp [results, Try.results34, go_sem, hT, h0, h1, h2, h3, h4, h5, h6]

set_option maxRecDepth 8000 in
set_option maxHeartbeats 4000000 in
theorem l2CopyOne_row {off : Nat} (id la ki wi : Int) (b n cap : Nat) (X Y : Nat → Int) (lab : ByteArray) (pr : Int) (w : World) (hp : PtsAt w b off n X Y) (hbl : b < w.heap.size) (hn : n ≤ 1048576) :
    Calls Try.prog 34 #[.agg #[.int .i64 id, .int .i64 la, .int .i64 ki, .int .i64 wi, .slice (some ⟨b, off, none⟩) n cap, .string lab, .int .i64 pr]] w fun e w' => ∃ a c, e = .returned (.agg #[.int .i64 id, .int .i64 la, .int .i64 ki, .int .i64 wi, .slice a n c, .string lab, .int .i64 pr]) ∧ Row (w.heap.size + 1 + 1) w' (.slice a n c) (ptsOf X Y (List.range n)) ∧ Below w.heap.size w w' := by
  obtain ⟨i0, hi, hz0, hz1, hz2⟩ := info_parts (show (Try.prog.info? 27).map (fun i => (i.zero, i.size, i.bytes)) = some (some (.agg #[.int .i64 0, .int .i64 0]), 2, 16) by kernel_rfl)
  have HP : Hid (PtsAt w b off n X Y) := hp
  have HLEN : Hid ((ptsOf X Y (List.range n)).length = n) := by show _ = _; simp [ptsOf]
  clear hp
  obtain ⟨W, hWd⟩ : ∃ W, W = (((w.alloc (.cells #[.int .i64 id, .int .i64 la, .int .i64 ki, .int .i64 wi, .slice (some ⟨b, off, none⟩) n cap, .string lab, .int .i64 pr] 33)).alloc (.cells #[.int .i64 0, .int .i64 0, .int .i64 0, .int .i64 0, .slice none 0 0, .string ⟨#[]⟩, .int .i64 0] 33)) : World) := ⟨_, rfl⟩
  have hB0 : Below w.heap.size w W := by subst hWd; (repeat (first | exact Below.refl _ _ | assumption | refine Below.drew ?_ | refine bl_alloc ?_ _ | refine bl_then ?_ (by assumption) | refine Below.setCell ?_ (by first | omega | (simp; done) | (simp; omega)) _ | refine bl_store ?_ ?_ _ _))
  have hO : OutAt W w.heap.size id la ki wi (.slice (some ⟨b, off, none⟩) n cap) lab pr := by
    subst hWd
    unfold OutAt
    rw [Below.heap_alloc _ _ _ (by simp)]
    exact heap_alloc_new w _
  have hT : There W (w.heap.size + 1) 7 := by
    subst hWd
    have := there7 (w.alloc (.cells #[.int .i64 id, .int .i64 la, .int .i64 ki, .int .i64 wi, .slice (some ⟨b, off, none⟩) n cap, .string lab, .int .i64 pr] 33)) (.int .i64 0) (.int .i64 0) (.int .i64 0) (.int .i64 0) (.slice none 0 0) (.string ⟨#[]⟩) (.int .i64 0) 33
    simpa using this
  have hsW : W.heap.size = w.heap.size + 2 := by subst hWd; simp
  have HB0 := (show Hid _ from hB0)
  have HO := (show Hid _ from hO)
  have HT : Hid (There W (w.heap.size + 1) 7) := hT
  have HSW := (show Hid _ from hsW)
  have HWD := (show Hid _ from hWd)
  clear hB0 hO hT hsW hWd
  go_enter Try.func34, Try.ntmps34
  go_wp2_with (first
    | (at_builtin; go_must (refine wpList_append_own _ rfl _ _ 31 rfl (w.heap.size + 1 + 1) 27 i0 (.agg #[.int .i64 0, .int .i64 0]) 2 16 Try.underlying31 hi hz0 hz1 hz2 rfl (by decide) (.slice (some ⟨w.heap.size + 1 + 1, 0, none⟩) 0 0) 0 [] rfl ?c6 ⟨b, off, none⟩ n cap (cellsL (ptsOf X Y (List.range n))) rfl ?c0 ?c1 ?c2 ?c3 ?c4 ?c5 ?_)))
  case c6 =>
    have := World.ownsRow_lit (base := w.heap.size + 1 + 1) (e := 27) (size := 2) W #[] 0 (by rw [HSW.out]; exact Nat.le_refl _) (Nat.zero_le _) rfl
    rw [HSW.out, HWD.out] at this
    exact this
  case c0 => rw [cellsL_len, HLEN.out]
  case c1 =>
    intro q u hq
    have hb : Below w.heap.size w (W.alloc (.cells #[] 27)) := bl_alloc HB0.out _
    rw [HWD.out] at hb
    have h1 := pts_cellsO (HP.out.below hb hbl) q u hq
    by_cases hq0 : q = 0
    · subst hq0; simpa [Addr.add] using h1
    · simpa [Addr.add, hq0] using h1
  case c2 =>
    intro u hu
    unfold cellsL at hu
    rw [List.mem_flatMap] at hu
    obtain ⟨p, _, hp⟩ := hu
    simp at hp
    rcases hp with rfl | rfl <;> rfl
  case c3 => unfold maxLen; omega
  case c4 => omega
  case c5 => first | omega | (simp; done) | (simp; omega)
  intro v' w2 hown' hgrow hnil
  clear hnil
  obtain ⟨a', c', hv'⟩ : ∃ a' c', v' = .slice a' n c' := by
    obtain ⟨_, h2 | ⟨g, cp, cur, hv, _⟩⟩ := hown'
    · exact ⟨none, 0, by have e := h2.2; have e2 : n = 0 := by omega
                         subst e2; exact h2.1⟩
    · exact ⟨_, cp, by rw [hv]⟩
  have HOWN : Hid (Row (w.heap.size + 1 + 1) w2 v' (ptsOf X Y (List.range n))) := by
    show Row _ _ _ _
    unfold Row
    rw [HLEN.out]
    simpa using hown'
  have hgb : Below (w.heap.size + 1 + 1) (W.alloc (.cells #[] 27)) w2 := by
    rw [HWD.out]
    exact (Below.refl _ _).grown hgrow (by simp) (fun k hk => by simp [Value.ownBlock] at hk; omega)
  have hWa : Below W.heap.size W (W.alloc (.cells #[] 27)) := (Below.refl _ _).alloc (Nat.le_refl _) _
  have hW2 : Below (w.heap.size + 2) W w2 := (hWa.mono (by rw [HSW.out]; exact Nat.le_refl _)).trans hgb
  have hO2 : OutAt w2 w.heap.size id la ki wi (.slice (some ⟨b, off, none⟩) n cap) lab pr := (hW2.block _ (by omega)).trans HO.out
  have hT2 : There w2 (w.heap.size + 1) 7 := There.belowB' HT.out hW2 (by omega)
  have hB2 : Below w.heap.size w w2 := HB0.out.trans (hW2.mono (by omega))
  have hs2 : w.heap.size + 2 < w2.heap.size ∨ True := .inr trivial
  obtain ⟨⟨u0, u1, u2, u3, u4, u5, u6⟩, f4⟩ := hO2.cells
  have hlw := hO2.lt
  have t0 := hT2.cell 0 (by omega)
  have t1 := hT2.cell 1 (by omega)
  have t2 := hT2.cell 2 (by omega)
  have t3 := hT2.cell 3 (by omega)
  have t4 := hT2.cell 4 (by omega)
  have t5 := hT2.cell 5 (by omega)
  have t6 := hT2.cell 6 (by omega)
  have z0 := (hT2 0 (by omega)).2
  have z1 := (hT2 1 (by omega)).2
  have z2 := (hT2 2 (by omega)).2
  have z3 := (hT2 3 (by omega)).2
  have z4 := (hT2 4 (by omega)).2
  have z5 := (hT2 5 (by omega)).2
  have z6 := (hT2 6 (by omega)).2
  have HT9 : Hid (There (w2.setCell ⟨w.heap.size, 4, none⟩ v') (w.heap.size + 1) 7) := There.out hT2 (by omega)
  have HB9 : Hid (Below w.heap.size w w2) := hB2
  subst hv'
  clear hown' hgrow hgb hWa hW2 hO2 hT2 hB2 hs2
  go_wp2_with fail
  obtain ⟨y0, y1, y2, y3, y4, y5, y6⟩ := set7_at (v0 := .int .i64 id) (v1 := .int .i64 la) (v2 := .int .i64 ki) (v3 := .int .i64 wi) (v4 := .slice a' n c') (v5 := .string lab) (v6 := .int .i64 pr) HT9.out
  exact bodyPost_ret (resC _ _ (w.heap.size + 1) _ _ _ _ _ _ _ rfl y0 y1 y2 y3 y4 y5 y6) rfl ⟨a', c', rfl, ((((((((HOWN.out.setB (by omega)).setB (by omega)).setB (by omega)).setB (by omega)).setB (by omega)).setB (by omega)).setB (by omega)).setB (by omega)), below7 (HB9.out.setCell (Nat.le_refl _) _) (Nat.le_succ _)⟩
theorem l2CopyOne_any {off : Nat} (id la ki wi : Int) (b n cap : Nat) (X Y : Nat → Int) (lab : ByteArray) (pr : Int) (w : World) (hp : PtsAt w b off n X Y) (hbl : b < w.heap.size) (hn : n ≤ 1048576) :
    Calls Try.prog 34 #[.agg #[.int .i64 id, .int .i64 la, .int .i64 ki, .int .i64 wi, .slice (some ⟨b, off, none⟩) n cap, .string lab, .int .i64 pr]] w fun e w' => ∃ a m c, e = .returned (.agg #[.int .i64 id, .int .i64 la, .int .i64 ki, .int .i64 wi, .slice a m c, .string lab, .int .i64 pr]) ∧ Below w.heap.size w w' :=
  (l2CopyOne_row id la ki wi b n cap X Y lab pr w hp hbl hn).mono fun e w' ⟨a, c, he, _, hb⟩ => ⟨a, n, c, he, hb⟩
end Go.Proofs.Ytncaibchkaadbaa
