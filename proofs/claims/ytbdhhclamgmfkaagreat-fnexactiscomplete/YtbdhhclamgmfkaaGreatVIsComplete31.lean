/- Viewers: how they lie in memory; they are copied, measured and compared. -/
import Derived.Test.YtbdhhclamgmfkaaGreatVIsComplete25
import Derived.Test.YtbdhhclamgmfkaaGreatVIsComplete28
import Derived.Test.YtbdhhclamgmfkaaGreatVIsComplete30
import Derived.Test.YtbdhhclamgmfkaaGreatVIsComplete22
namespace Go.Proofs.YtbdhhclamgmfkaaGreat
open Go.RowKit
set_option linter.unusedSimpArgs false
set_option linter.unusedVariables false
set_option maxRecDepth 100000

theorem le2 (n : Nat) : n ≤ n + 1 + 1 := by omega
/-- A viewer. -/
abbrev vwV (z x y wd ht now s : Int) (kv rv : Value) (bad : Int) : Value := .agg #[.int .i64 z, .int .i64 x, .int .i64 y, .int .i64 wd, .int .i64 ht, .int .i64 now, .int .i64 s, kv, rv, .int .i64 bad]
/-- A block whose first cells are these. -/
def Blk (w : World) (q : Nat) (l : List Value) : Prop := ∀ i v, l[i]? = some v → w.cell? ⟨q, i, none⟩ = some v ∧ w.frozen? ⟨q, i, none⟩ = false
theorem Blk.cell {w : World} {q : Nat} {l : List Value} (h : Blk w q l) (i : Nat) {v : Value} (hi : l[i]? = some v) : w.cell? ⟨q, i, none⟩ = some v := (h i v hi).1
theorem Blk.free {w : World} {q : Nat} {l : List Value} (h : Blk w q l) (i : Nat) {v : Value} (hi : l[i]? = some v) : w.frozen? ⟨q, i, none⟩ = false := (h i v hi).2
theorem Blk.lt {w : World} {q : Nat} {l : List Value} {v : Value} (h : Blk w q (v :: l)) : q < w.heap.size := World.block_lt_of_cell? _ _ (h 0 v rfl).1
theorem Blk.below {w w' : World} {q : Nat} {l : List Value} (h : Blk w q l) (hq : q < w.heap.size) (hb : Below w.heap.size w w') : Blk w' q l := fun i v hi =>
  ⟨(hb.cell (p := ⟨q, i, none⟩) hq).trans (h i v hi).1, (hb.frozen (p := ⟨q, i, none⟩) hq).trans (h i v hi).2⟩
theorem Blk.set {w : World} {q : Nat} {l : List Value} (h : Blk w q l) (j : Nat) (u : Value) : Blk (w.setCell ⟨q, j, none⟩ u) q (l.set j u) := fun i v hi => by
  rw [List.getElem?_set] at hi
  by_cases e : j = i
  · subst e
    rw [if_pos rfl] at hi
    by_cases hl : j < l.length
    · rw [if_pos hl] at hi
      injection hi with hi
      subst hi
      have h0 := h j _ (List.getElem?_eq_getElem hl)
      exact ⟨set1_same h0.1, (World.frozen?_setCell _ _ _ _).trans h0.2⟩
    · rw [if_neg hl] at hi; cases hi
  · rw [if_neg e] at hi
    have h0 := h i v hi
    exact ⟨by rw [set1_other (fun e' => e (by injection e'))]; exact h0.1, (World.frozen?_setCell _ _ _ _).trans h0.2⟩
theorem Blk.other {w : World} {q r o : Nat} {u : Value} {l : List Value} (h : Blk w q l) (hne : r ≠ q) : Blk (w.setCell ⟨r, o, none⟩ u) q l := fun i v hi =>
  ⟨by rw [set1_other (fun e' => hne (by injection e'))]; exact (h i v hi).1, (World.frozen?_setCell _ _ _ _).trans (h i v hi).2⟩
theorem Blk.new (w : World) (l : List Value) (t : TypeId) : Blk (w.alloc (.cells l.toArray t)) w.heap.size l := fun i v hi =>
  ⟨by rw [World.cell?_alloc_at _ _ _ _ rfl]; simpa using hi, World.frozen?_alloc_at _ _ _ _ rfl⟩
theorem Blk.alloc {w : World} {q : Nat} {l : List Value} (h : Blk w q l) (hq : q < w.heap.size) (o : Obj) : Blk (w.alloc o) q l := h.below hq (bl_alloc (Below.refl _ _) o)
set_option maxHeartbeats 2000000 in
theorem szCache_le (s : Int) (a : Option Addr) (n cap : Nat) (K : Nat → Kp) (w : World) (hk : IsKs w a n K) (hc : CameKs n K) :
    Calls Tryz.prog 22 #[caV s (.slice a n cap), .int .i64 1048576] w fun e w' => (e = .returned (.int .i64 (-1)) ∨ ∃ m : Nat, m ≤ 1048576 ∧ SmallKs n K ∧ e = .returned (.int .i64 m)) ∧ Below w.heap.size w w' := by
  have HK : Hid (IsKs w a n K) := hk
  have HC : Hid (CameKs n K) := hc
  clear hk hc
  go_enter Tryz.func22, Tryz.ntmps22
  go_wp2_with fail
  generalize hW : (w.alloc _ : World) = W
  have hB0 : Below w.heap.size w W := by subst hW; (repeat (first | exact Below.refl _ _ | assumption | refine Below.drew ?_ | refine bl_alloc ?_ _ | refine bl_then ?_ (by assumption) | refine Below.setCell ?_ (by first | omega | (simp; done) | (simp; omega)) _ | refine bl_store ?_ ?_ _ _))
  clear hW
  refine (szKeptS_l a n cap 1048576 K W (by omega) (HK.out.below hB0) HC.out).mono ?_
  rintro e w1 ⟨rfl | ⟨m, hm, hS, rfl⟩, hb1⟩
  · go_wp2
    go_ret
    exact ⟨.inl rfl, bl_then hB0 hb1⟩
  · have hneg : ¬ ((m : Nat) : Int) < 0 := by omega
    have HS : Hid (SmallKs n K) := hS
    have HMm : Hid (m ≤ 1048576) := hm
    clear hS
    go_wp2
    go_ret
    exact ⟨.inr ⟨m, HMm.out, HS.out, rfl⟩, bl_then hB0 hb1⟩
set_option maxHeartbeats 4000000 in
theorem szViewer_any (z x y wd ht now s : Int) (a : Option Addr) (n cap : Nat) (K : Nat → Kp) (ra : Option Addr) (rn rc : Nat) (bad : Int) (w : World) (hk : IsKs w a n K) (hc : CameKs n K) (hrm : rn ≤ maxLen) :
    Calls Tryz.prog 6 #[vwV z x y wd ht now s (.slice a n cap) (.slice ra rn rc) bad, .int .i64 1048576] w fun e w' => (e = .returned (.int .i64 (-1)) ∨ ∃ m : Nat, SmallKs n K ∧ rn ≤ 1048576 ∧ e = .returned (.int .i64 m)) ∧ Below w.heap.size w w' := by
  have HK : Hid (IsKs w a n K) := hk
  have HC : Hid (CameKs n K) := hc
  clear hk hc
  go_enter Tryz.func6, Tryz.ntmps6
  go_wp2_with fail
  generalize hW : (w.alloc _ : World) = W
  have HB0 : Hid (Below w.heap.size w W) := by show Below _ _ _; subst hW; (repeat (first | exact Below.refl _ _ | assumption | refine Below.drew ?_ | refine bl_alloc ?_ _ | refine bl_then ?_ (by assumption) | refine Below.setCell ?_ (by first | omega | (simp; done) | (simp; omega)) _ | refine bl_store ?_ ?_ _ _))
  have HV : Hid (Blk W w.heap.size [.int .i64 z, .int .i64 x, .int .i64 y, .int .i64 wd, .int .i64 ht, .int .i64 now, .int .i64 s, .slice a n cap, .slice ra rn rc, .int .i64 bad]) := by show Blk _ _ _; subst hW; exact Blk.new _ _ _
  clear hW
  refine (szCache_le s a n cap K W (HK.out.below HB0.out) HC.out).mono ?_
  rintro e w1 ⟨rfl | ⟨m, hm, hS, rfl⟩, hb1⟩
  · have HB1 : Hid (Below w.heap.size w w1) := bl_then HB0.out hb1
    clear hb1
    go_wp2
    go_ret
    exact ⟨.inl rfl, HB1.out⟩
  · have HS : Hid (SmallKs n K) := hS
    have HB1 : Hid (Below w.heap.size w w1) := bl_then HB0.out hb1
    have HV1 : Hid (Blk w1 w.heap.size [.int .i64 z, .int .i64 x, .int .i64 y, .int .i64 wd, .int .i64 ht, .int .i64 now, .int .i64 s, .slice a n cap, .slice ra rn rc, .int .i64 bad]) := HV.out.below HV.out.lt hb1
    have c8 := HV1.out.cell 8 rfl
    have hneg : ¬ ((m : Nat) : Int) < 0 := by omega
    clear hS hb1
    go_wp2_with fail
    by_cases hr : m < rn
    · refine (szRequestS_no ra rn rc m w1 hm hr hrm).mono ?_
      rintro e w2 ⟨rfl, hb2⟩
      have HB2 : Hid (Below w.heap.size w w2) := bl_then HB1.out hb2
      clear hb2 c8
      go_wp2
      go_ret
      exact ⟨.inl rfl, HB2.out⟩
    · refine (szRequestS_ok ra rn rc m w1 hm (by omega)).mono ?_
      rintro e w2 ⟨rfl, hb2⟩
      have HB2 : Hid (Below w.heap.size w w2) := bl_then HB1.out hb2
      have hneg2 : ¬ (m : Int) - (rn : Int) < 0 := by omega
      have he : (m : Int) - (rn : Int) = ((m - rn : Nat) : Int) := by omega
      clear hb2 c8
      go_wp2
      go_ret
      exact ⟨.inr ⟨m - rn, HS.out, by omega, rfl⟩, HB2.out⟩
/-- A viewer of its own: the copies of its lists. -/
def OwnV (w : World) (b n : Nat) (K A : Nat → Kp) (rb rn : Nat) (E : Nat → Req) : Prop := OwnKs w (b + 1) b n K A ∧ rb < w.heap.size ∧ WsAt w rb 0 rn E
theorem OwnV.below {w w' : World} {b n : Nat} {K A : Nat → Kp} {rb rn : Nat} {E : Nat → Req} (h : OwnV w b n K A rb rn E) (hb : Below w.heap.size w w') : OwnV w' b n K A rb rn E :=
  ⟨h.1.below hb, Nat.lt_of_lt_of_le h.2.1 hb.size, h.2.2.below hb h.2.1⟩
theorem resTV {T : Array Value} {Wf : World} {r : Nat} {z x y wd ht now s : Int} {kv rv : Value} {bad : Int} (hT : T[2]?.getD undef = .pointer (some ⟨r, 0, none⟩)) (h : Blk Wf r [.int .i64 z, .int .i64 x, .int .i64 y, .int .i64 wd, .int .i64 ht, .int .i64 now, .int .i64 s, kv, rv, .int .i64 bad]) :
    (results Tryz.f8 T).run Tryz.prog Wf = .ok (vwV z x y wd ht now s kv rv bad) Wf := by
  have h0 := h.cell 0 rfl
  have h1 := h.cell 1 rfl
  have h2 := h.cell 2 rfl
  have h3 := h.cell 3 rfl
  have h4 := h.cell 4 rfl
  have h5 := h.cell 5 rfl
  have h6 := h.cell 6 rfl
  have h7 := h.cell 7 rfl
  have h8 := h.cell 8 rfl
  have h9 := h.cell 9 rfl
  simp [results, Tryz.results8, go_sem, hT, h0, h1, h2, h3, h4, h5, h6, h7, h8, h9]
set_option maxHeartbeats 8000000 in
theorem toViewer_any (z x y wd ht now s : Int) (a : Option Addr) (n cap : Nat) (K : Nat → Kp) (ra : Option Addr) (rn rc : Nat) (E : Nat → Req) (bad : Int) (w : World) (hk : IsKs w a n K) (hs : SmallKs n K) (hr : IsWs w ra rn E) (hrn : rn ≤ 1048576) :
    Calls Tryz.prog 8 #[vwV z x y wd ht now s (.slice a n cap) (.slice ra rn rc) bad] w fun e w' => ∃ b A rb, e = .returned (vwV z x y wd ht now s (.slice (some ⟨b, 0, none⟩) n n) (.slice (some ⟨rb, 0, none⟩) rn rn) bad) ∧ w.heap.size ≤ b ∧ w.heap.size ≤ rb ∧ OwnV w' b n K A rb rn E ∧ Below w.heap.size w w' := by
  have HP : Hid (IsKs w a n K) := hk
  have HS : Hid (SmallKs n K) := hs
  have HR : Hid (IsWs w ra rn E) := hr
  clear hk hs hr
  go_enter Tryz.func8, Tryz.ntmps8
  go_wp2_with fail
  generalize hW : (((w.alloc _).alloc _).alloc _ : World) = W
  have HB0 : Hid (Below w.heap.size w W) := by show Below _ _ _; subst hW; (repeat (first | exact Below.refl _ _ | assumption | refine Below.drew ?_ | refine bl_alloc ?_ _ | refine bl_then ?_ (by assumption) | refine Below.setCell ?_ (by first | omega | (simp; done) | (simp; omega)) _ | refine bl_store ?_ ?_ _ _))
  have HV : Hid (Blk W w.heap.size [.int .i64 z, .int .i64 x, .int .i64 y, .int .i64 wd, .int .i64 ht, .int .i64 now, .int .i64 s, .slice a n cap, .slice ra rn rc, .int .i64 bad]) := by
    show Blk _ _ _; subst hW
    exact ((Blk.new w _ _).alloc (by simp) _).alloc (by simp; omega) _
  have HU : Hid (Blk W (w.heap.size + 1) [.int .i64 0, .int .i64 0, .int .i64 0, .int .i64 0, .int .i64 0, .int .i64 0, .int .i64 0, .slice none 0 0, .slice none 0 0, .int .i64 0]) := by
    show Blk _ _ _; subst hW
    have := (Blk.new (w.alloc (.cells #[.int .i64 z, .int .i64 x, .int .i64 y, .int .i64 wd, .int .i64 ht, .int .i64 now, .int .i64 s, .slice a n cap, .slice ra rn rc, .int .i64 bad] 29)) [.int .i64 0, .int .i64 0, .int .i64 0, .int .i64 0, .int .i64 0, .int .i64 0, .int .i64 0, .slice none 0 0, .slice none 0 0, .int .i64 0] 41).alloc (by simp) (.cells #[.int .i64 0, .int .i64 0, .int .i64 0, .int .i64 0, .int .i64 0, .int .i64 0, .int .i64 0, .slice none 0 0, .slice none 0 0, .int .i64 0] 41)
    simpa using this
  have HO : Hid (Blk W (w.heap.size + 1 + 1) [.int .i64 0, .int .i64 0, .int .i64 0, .int .i64 0, .int .i64 0, .int .i64 0, .int .i64 0, .slice none 0 0, .slice none 0 0, .int .i64 0]) := by
    show Blk _ _ _; subst hW
    have := Blk.new ((w.alloc (.cells #[.int .i64 z, .int .i64 x, .int .i64 y, .int .i64 wd, .int .i64 ht, .int .i64 now, .int .i64 s, .slice a n cap, .slice ra rn rc, .int .i64 bad] 29)).alloc (.cells #[.int .i64 0, .int .i64 0, .int .i64 0, .int .i64 0, .int .i64 0, .int .i64 0, .int .i64 0, .slice none 0 0, .slice none 0 0, .int .i64 0] 41)) [.int .i64 0, .int .i64 0, .int .i64 0, .int .i64 0, .int .i64 0, .int .i64 0, .int .i64 0, .slice none 0 0, .slice none 0 0, .int .i64 0] 41
    simpa using this
  clear hW
  refine (toCamera_any z x y wd ht W).mono ?_
  rintro e w1 ⟨rfl, hb1⟩
  have HB1 : Hid (Below w.heap.size w w1) := bl_then HB0.out hb1
  have HV1 : Hid (Blk w1 w.heap.size [.int .i64 z, .int .i64 x, .int .i64 y, .int .i64 wd, .int .i64 ht, .int .i64 now, .int .i64 s, .slice a n cap, .slice ra rn rc, .int .i64 bad]) := HV.out.below HV.out.lt hb1
  have HU1 : Hid (Blk w1 (w.heap.size + 1) [.int .i64 0, .int .i64 0, .int .i64 0, .int .i64 0, .int .i64 0, .int .i64 0, .int .i64 0, .slice none 0 0, .slice none 0 0, .int .i64 0]) := HU.out.below HU.out.lt hb1
  have hO1 := HO.out.below HO.out.lt hb1
  have HO1 : Hid (Blk w1 (w.heap.size + 1 + 1) [.int .i64 0, .int .i64 0, .int .i64 0, .int .i64 0, .int .i64 0, .int .i64 0, .int .i64 0, .slice none 0 0, .slice none 0 0, .int .i64 0]) := hO1
  have d0 := HV1.out.cell 0 rfl
  have d1 := HV1.out.cell 1 rfl
  have d2 := HV1.out.cell 2 rfl
  have d3 := HV1.out.cell 3 rfl
  have d4 := HV1.out.cell 4 rfl
  have d5 := HV1.out.cell 5 rfl
  have d6 := HV1.out.cell 6 rfl
  have d7 := HV1.out.cell 7 rfl
  have d8 := HV1.out.cell 8 rfl
  have d9 := HV1.out.cell 9 rfl
  have t0 := hO1.cell 0 rfl
  have t1 := hO1.cell 1 rfl
  have t2 := hO1.cell 2 rfl
  have t3 := hO1.cell 3 rfl
  have t4 := hO1.cell 4 rfl
  have t5 := hO1.cell 5 rfl
  have t6 := hO1.cell 6 rfl
  have t7 := hO1.cell 7 rfl
  have t8 := hO1.cell 8 rfl
  have t9 := hO1.cell 9 rfl
  have f0 := hO1.free 0 rfl
  have f1 := hO1.free 1 rfl
  have f2 := hO1.free 2 rfl
  have f3 := hO1.free 3 rfl
  have f4 := hO1.free 4 rfl
  have f5 := hO1.free 5 rfl
  have f6 := hO1.free 6 rfl
  have f7 := hO1.free 7 rfl
  have f8 := hO1.free 8 rfl
  have f9 := hO1.free 9 rfl
  clear hb1 hO1 HV HU HO HB0
  go_wp2_with fail
  generalize hW2 : (World.setCell _ _ _ : World) = W2
  have HB2 : Hid (Below w.heap.size w W2) := by show Below _ _ _; subst hW2; exact ((((((HB1.out.setCell (le2 _) _).setCell (le2 _) _).setCell (le2 _) _).setCell (le2 _) _).setCell (le2 _) _).setCell (le2 _) _)
  have HV2 : Hid (Blk W2 w.heap.size [.int .i64 z, .int .i64 x, .int .i64 y, .int .i64 wd, .int .i64 ht, .int .i64 now, .int .i64 s, .slice a n cap, .slice ra rn rc, .int .i64 bad]) := by show Blk _ _ _; subst hW2; exact ((((((HV1.out.other (by omega)).other (by omega)).other (by omega)).other (by omega)).other (by omega)).other (by omega))
  have HU2 : Hid (Blk W2 (w.heap.size + 1) [.int .i64 0, .int .i64 0, .int .i64 0, .int .i64 0, .int .i64 0, .int .i64 0, .int .i64 0, .slice none 0 0, .slice none 0 0, .int .i64 0]) := by show Blk _ _ _; subst hW2; exact ((((((HU1.out.other (by omega)).other (by omega)).other (by omega)).other (by omega)).other (by omega)).other (by omega))
  have HO2 : Hid (Blk W2 (w.heap.size + 1 + 1) [.int .i64 z, .int .i64 x, .int .i64 y, .int .i64 wd, .int .i64 ht, .int .i64 now, .int .i64 0, .slice none 0 0, .slice none 0 0, .int .i64 0]) := by show Blk _ _ _; subst hW2; exact ((((((HO1.out.set 0 _).set 1 _).set 2 _).set 3 _).set 4 _).set 5 _)
  clear hW2 HV1 HU1 HO1 HB1
  clear d0 t0 f0
  clear d1 t1 f1
  clear d2 t2 f2
  clear d3 t3 f3
  clear d4 t4 f4
  clear d5 t5 f5
  clear d6 t6 f6
  clear d7 t7 f7
  clear d8 t8 f8
  clear d9 t9 f9
  refine (toCache_any s a n cap K W2 (HP.out.below HB2.out) HS.out).mono ?_
  rintro e w3 ⟨b, A, rfl, hge3, hOK3, hb3⟩
  have hbb : w.heap.size + 1 + 1 < b := Nat.lt_of_lt_of_le HO2.out.lt hge3
  have HK3 : Hid (OwnKs w3 (b + 1) b n K A) := hOK3
  have HB3 : Hid (Below w.heap.size w w3) := bl_then HB2.out hb3
  have HV3 : Hid (Blk w3 w.heap.size [.int .i64 z, .int .i64 x, .int .i64 y, .int .i64 wd, .int .i64 ht, .int .i64 now, .int .i64 s, .slice a n cap, .slice ra rn rc, .int .i64 bad]) := HV2.out.below HV2.out.lt hb3
  have HU3 : Hid (Blk w3 (w.heap.size + 1) [.int .i64 0, .int .i64 0, .int .i64 0, .int .i64 0, .int .i64 0, .int .i64 0, .int .i64 0, .slice none 0 0, .slice none 0 0, .int .i64 0]) := HU2.out.below HU2.out.lt hb3
  have hO3 := HO2.out.below HO2.out.lt hb3
  have HO3 : Hid (Blk w3 (w.heap.size + 1 + 1) [.int .i64 z, .int .i64 x, .int .i64 y, .int .i64 wd, .int .i64 ht, .int .i64 now, .int .i64 0, .slice none 0 0, .slice none 0 0, .int .i64 0]) := hO3
  have d0 := HV3.out.cell 0 rfl
  have d1 := HV3.out.cell 1 rfl
  have d2 := HV3.out.cell 2 rfl
  have d3 := HV3.out.cell 3 rfl
  have d4 := HV3.out.cell 4 rfl
  have d5 := HV3.out.cell 5 rfl
  have d6 := HV3.out.cell 6 rfl
  have d7 := HV3.out.cell 7 rfl
  have d8 := HV3.out.cell 8 rfl
  have d9 := HV3.out.cell 9 rfl
  have t0 := hO3.cell 0 rfl
  have t1 := hO3.cell 1 rfl
  have t2 := hO3.cell 2 rfl
  have t3 := hO3.cell 3 rfl
  have t4 := hO3.cell 4 rfl
  have t5 := hO3.cell 5 rfl
  have t6 := hO3.cell 6 rfl
  have t7 := hO3.cell 7 rfl
  have t8 := hO3.cell 8 rfl
  have t9 := hO3.cell 9 rfl
  have f0 := hO3.free 0 rfl
  have f1 := hO3.free 1 rfl
  have f2 := hO3.free 2 rfl
  have f3 := hO3.free 3 rfl
  have f4 := hO3.free 4 rfl
  have f5 := hO3.free 5 rfl
  have f6 := hO3.free 6 rfl
  have f7 := hO3.free 7 rfl
  have f8 := hO3.free 8 rfl
  have f9 := hO3.free 9 rfl
  clear hb3 hO3 hOK3 HV2 HU2 HO2 HB2 hge3
  go_wp2_with fail
  generalize hW4 : (World.setCell _ _ _ : World) = W4
  have HB4 : Hid (Below w.heap.size w W4) := by show Below _ _ _; subst hW4; exact ((HB3.out.setCell (le2 _) _).setCell (le2 _) _)
  have HV4 : Hid (Blk W4 w.heap.size [.int .i64 z, .int .i64 x, .int .i64 y, .int .i64 wd, .int .i64 ht, .int .i64 now, .int .i64 s, .slice a n cap, .slice ra rn rc, .int .i64 bad]) := by show Blk _ _ _; subst hW4; exact ((HV3.out.other (by omega)).other (by omega))
  have HU4 : Hid (Blk W4 (w.heap.size + 1) [.int .i64 0, .int .i64 0, .int .i64 0, .int .i64 0, .int .i64 0, .int .i64 0, .int .i64 0, .slice none 0 0, .slice none 0 0, .int .i64 0]) := by show Blk _ _ _; subst hW4; exact ((HU3.out.other (by omega)).other (by omega))
  have HO4 : Hid (Blk W4 (w.heap.size + 1 + 1) [.int .i64 z, .int .i64 x, .int .i64 y, .int .i64 wd, .int .i64 ht, .int .i64 now, .int .i64 s, .slice (some ⟨b, 0, none⟩) n n, .slice none 0 0, .int .i64 0]) := by show Blk _ _ _; subst hW4; exact ((HO3.out.set 6 _).set 7 _)
  have HM4 : Hid (MidB w.heap.size (w.heap.size + 1 + 1 + 1) w3 W4) := by show MidB _ _ _ _; subst hW4; exact (((MidB.refl _ _ _).set (by omega) (by omega) _ _).set (by omega) (by omega) _ _)
  have HK4 : Hid (OwnKs W4 (b + 1) b n K A) := HK3.out.mid (C := 0) HM4.out (by omega)
  clear hW4 HV3 HU3 HO3 HB3 HK3 HM4
  clear d0 t0 f0
  clear d1 t1 f1
  clear d2 t2 f2
  clear d3 t3 f3
  clear d4 t4 f4
  clear d5 t5 f5
  clear d6 t6 f6
  clear d7 t7 f7
  clear d8 t8 f8
  clear d9 t9 f9
  refine (toRequestS_any ra rn rc E W4 (HR.out.below HB4.out) hrn).mono ?_
  rintro e w5 ⟨rb, rfl, hge5, hlt5, hW5, _, hb5⟩
  have hrb : w.heap.size + 1 + 1 < rb := Nat.lt_of_lt_of_le HO4.out.lt hge5
  have HW5 : Hid (WsAt w5 rb 0 rn E) := hW5
  have HK5 : Hid (OwnKs w5 (b + 1) b n K A) := HK4.out.below hb5
  have HB5 : Hid (Below w.heap.size w w5) := bl_then HB4.out hb5
  have HV5 : Hid (Blk w5 w.heap.size [.int .i64 z, .int .i64 x, .int .i64 y, .int .i64 wd, .int .i64 ht, .int .i64 now, .int .i64 s, .slice a n cap, .slice ra rn rc, .int .i64 bad]) := HV4.out.below HV4.out.lt hb5
  have hU5 := HU4.out.below HU4.out.lt hb5
  have HU5 : Hid (Blk w5 (w.heap.size + 1) [.int .i64 0, .int .i64 0, .int .i64 0, .int .i64 0, .int .i64 0, .int .i64 0, .int .i64 0, .slice none 0 0, .slice none 0 0, .int .i64 0]) := hU5
  have hO5 := HO4.out.below HO4.out.lt hb5
  have HO5 : Hid (Blk w5 (w.heap.size + 1 + 1) [.int .i64 z, .int .i64 x, .int .i64 y, .int .i64 wd, .int .i64 ht, .int .i64 now, .int .i64 s, .slice (some ⟨b, 0, none⟩) n n, .slice none 0 0, .int .i64 0]) := hO5
  have d9 := HV5.out.cell 9 rfl
  have t0 := hO5.cell 0 rfl
  have t1 := hO5.cell 1 rfl
  have t2 := hO5.cell 2 rfl
  have t3 := hO5.cell 3 rfl
  have t4 := hO5.cell 4 rfl
  have t5 := hO5.cell 5 rfl
  have t6 := hO5.cell 6 rfl
  have t7 := hO5.cell 7 rfl
  have t8 := hO5.cell 8 rfl
  have t9 := hO5.cell 9 rfl
  have f0 := hO5.free 0 rfl
  have f1 := hO5.free 1 rfl
  have f2 := hO5.free 2 rfl
  have f3 := hO5.free 3 rfl
  have f4 := hO5.free 4 rfl
  have f5 := hO5.free 5 rfl
  have f6 := hO5.free 6 rfl
  have f7 := hO5.free 7 rfl
  have f8 := hO5.free 8 rfl
  have f9 := hO5.free 9 rfl
  have u0 := hU5.cell 0 rfl
  have u1 := hU5.cell 1 rfl
  have u2 := hU5.cell 2 rfl
  have u3 := hU5.cell 3 rfl
  have u4 := hU5.cell 4 rfl
  have u5 := hU5.cell 5 rfl
  have u6 := hU5.cell 6 rfl
  have u7 := hU5.cell 7 rfl
  have u8 := hU5.cell 8 rfl
  have u9 := hU5.cell 9 rfl
  have g0 := hU5.free 0 rfl
  have g1 := hU5.free 1 rfl
  have g2 := hU5.free 2 rfl
  have g3 := hU5.free 3 rfl
  have g4 := hU5.free 4 rfl
  have g5 := hU5.free 5 rfl
  have g6 := hU5.free 6 rfl
  have g7 := hU5.free 7 rfl
  have g8 := hU5.free 8 rfl
  have g9 := hU5.free 9 rfl
  clear hb5 hO5 hU5 hW5 HV4 HU4 HO4 HB4 HK4 hge5
  go_wp2_with fail
  generalize hW6 : (World.setCell _ _ _ : World) = W6
  have HB6 : Hid (Below w.heap.size w W6) := by show Below _ _ _; subst hW6; exact ((((((((((((HB5.out.setCell (le2 _) _).setCell (le2 _) _).setCell (Nat.le_succ _) _).setCell (Nat.le_succ _) _).setCell (Nat.le_succ _) _).setCell (Nat.le_succ _) _).setCell (Nat.le_succ _) _).setCell (Nat.le_succ _) _).setCell (Nat.le_succ _) _).setCell (Nat.le_succ _) _).setCell (Nat.le_succ _) _).setCell (Nat.le_succ _) _)
  have HU6 : Hid (Blk W6 (w.heap.size + 1) [.int .i64 z, .int .i64 x, .int .i64 y, .int .i64 wd, .int .i64 ht, .int .i64 now, .int .i64 s, .slice (some ⟨b, 0, none⟩) n n, .slice (some ⟨rb, 0, none⟩) rn rn, .int .i64 bad]) := by show Blk _ _ _; subst hW6; exact ((((((((((((HU5.out.other (by omega)).other (by omega)).set 0 _).set 1 _).set 2 _).set 3 _).set 4 _).set 5 _).set 6 _).set 7 _).set 8 _).set 9 _)
  have HM6 : Hid (MidB w.heap.size (w.heap.size + 1 + 1 + 1) w5 W6) := by show MidB _ _ _ _; subst hW6; exact (((((((((((((MidB.refl _ _ _).set (by omega) (by omega) _ _).set (by omega) (by omega) _ _).set (by omega) (by omega) _ _).set (by omega) (by omega) _ _).set (by omega) (by omega) _ _).set (by omega) (by omega) _ _).set (by omega) (by omega) _ _).set (by omega) (by omega) _ _).set (by omega) (by omega) _ _).set (by omega) (by omega) _ _).set (by omega) (by omega) _ _).set (by omega) (by omega) _ _)
  clear hW6
  refine bodyPost_ret (resTV rfl HU6.out) rfl ⟨b, A, rb, rfl, by omega, by omega, ⟨HK5.out.mid (C := 0) HM6.out (by omega), Nat.lt_of_lt_of_le hlt5 HM6.out.size, fun i hi => ?_⟩, HB6.out⟩
  obtain ⟨q0, q1, q2, q3, q4⟩ := HW5.out i hi
  exact ⟨HM6.out.cell q0 (.inr (by omega)), HM6.out.cell q1 (.inr (by omega)), HM6.out.cell q2 (.inr (by omega)), HM6.out.cell q3 (.inr (by omega)), HM6.out.cell q4 (.inr (by omega))⟩
set_option maxHeartbeats 8000000 in
theorem eqViewer_any (z x y wd ht now s : Int) (n rn : Nat) (b b' rb rb' : Nat) (K A H : Nat → Kp) (E : Nat → Req) (bad : Int) (w : World) (ha : OwnV w b n K A rb rn E) (hh : OwnV w b' n K H rb' rn E) (hs : SmallKs n K) (hrn : rn ≤ 1048576) :
    Calls Tryz.prog 11 #[vwV z x y wd ht now s (.slice (some ⟨b, 0, none⟩) n n) (.slice (some ⟨rb, 0, none⟩) rn rn) bad, vwV z x y wd ht now s (.slice (some ⟨b', 0, none⟩) n n) (.slice (some ⟨rb', 0, none⟩) rn rn) bad] w fun e w' => e = .returned (.bool true) ∧ Below w.heap.size w w' := by
  have HA : Hid (OwnV w b n K A rb rn E) := ha
  have HH : Hid (OwnV w b' n K H rb' rn E) := hh
  have HS : Hid (SmallKs n K) := hs
  clear ha hh hs
  go_enter Tryz.func11, Tryz.ntmps11
  go_wp2_with fail
  generalize hW : ((w.alloc _).alloc _ : World) = W
  have HB0 : Hid (Below w.heap.size w W) := by show Below _ _ _; subst hW; (repeat (first | exact Below.refl _ _ | assumption | refine Below.drew ?_ | refine bl_alloc ?_ _ | refine bl_then ?_ (by assumption) | refine Below.setCell ?_ (by first | omega | (simp; done) | (simp; omega)) _ | refine bl_store ?_ ?_ _ _))
  have HV : Hid (Blk W w.heap.size [.int .i64 z, .int .i64 x, .int .i64 y, .int .i64 wd, .int .i64 ht, .int .i64 now, .int .i64 s, .slice (some ⟨b, 0, none⟩) n n, .slice (some ⟨rb, 0, none⟩) rn rn, .int .i64 bad]) := by
    show Blk _ _ _; subst hW
    exact (Blk.new w _ _).alloc (by simp) _
  have HU : Hid (Blk W (w.heap.size + 1) [.int .i64 z, .int .i64 x, .int .i64 y, .int .i64 wd, .int .i64 ht, .int .i64 now, .int .i64 s, .slice (some ⟨b', 0, none⟩) n n, .slice (some ⟨rb', 0, none⟩) rn rn, .int .i64 bad]) := by
    show Blk _ _ _; subst hW
    have := Blk.new (w.alloc (.cells #[.int .i64 z, .int .i64 x, .int .i64 y, .int .i64 wd, .int .i64 ht, .int .i64 now, .int .i64 s, .slice (some ⟨b, 0, none⟩) n n, .slice (some ⟨rb, 0, none⟩) rn rn, .int .i64 bad] 41)) [.int .i64 z, .int .i64 x, .int .i64 y, .int .i64 wd, .int .i64 ht, .int .i64 now, .int .i64 s, .slice (some ⟨b', 0, none⟩) n n, .slice (some ⟨rb', 0, none⟩) rn rn, .int .i64 bad] 41
    simpa using this
  have hvl : w.heap.size < W.heap.size := HV.out.lt
  have hul : w.heap.size + 1 < W.heap.size := HU.out.lt
  clear hW
  refine (eqCamera_any z x y wd ht W).mono ?_
  rintro e w1 ⟨rfl, hb1⟩
  have HB1 : Hid (Below W.heap.size W w1) := hb1
  have hV1 := HV.out.below hvl hb1
  have hU1 := HU.out.below hul hb1
  have d0 := hV1.cell 0 rfl
  have d1 := hV1.cell 1 rfl
  have d2 := hV1.cell 2 rfl
  have d3 := hV1.cell 3 rfl
  have d4 := hV1.cell 4 rfl
  have d5 := hV1.cell 5 rfl
  have d6 := hV1.cell 6 rfl
  have d7 := hV1.cell 7 rfl
  have d8 := hV1.cell 8 rfl
  have d9 := hV1.cell 9 rfl
  have e0 := hU1.cell 0 rfl
  have e1 := hU1.cell 1 rfl
  have e2 := hU1.cell 2 rfl
  have e3 := hU1.cell 3 rfl
  have e4 := hU1.cell 4 rfl
  have e5 := hU1.cell 5 rfl
  have e6 := hU1.cell 6 rfl
  have e7 := hU1.cell 7 rfl
  have e8 := hU1.cell 8 rfl
  have e9 := hU1.cell 9 rfl
  clear hb1 hV1 hU1
  go_wp2_with fail
  refine (eqCache_any s _ _ _ _ n K _ _ w1 (HA.out.1.below (bl_then HB0.out HB1.out)) (HH.out.1.below (bl_then HB0.out HB1.out)) HS.out).mono ?_
  rintro e w2 ⟨rfl, hb2⟩
  have HB2 : Hid (Below W.heap.size W w2) := bl_then HB1.out hb2
  have hV2 := HV.out.below hvl HB2.out
  have hU2 := HU.out.below hul HB2.out
  clear d0 e0
  clear d1 e1
  clear d2 e2
  clear d3 e3
  clear d4 e4
  clear d5 e5
  clear d6 e6
  clear d7 e7
  clear d8 e8
  clear d9 e9
  have d0 := hV2.cell 0 rfl
  have d1 := hV2.cell 1 rfl
  have d2 := hV2.cell 2 rfl
  have d3 := hV2.cell 3 rfl
  have d4 := hV2.cell 4 rfl
  have d5 := hV2.cell 5 rfl
  have d6 := hV2.cell 6 rfl
  have d7 := hV2.cell 7 rfl
  have d8 := hV2.cell 8 rfl
  have d9 := hV2.cell 9 rfl
  have e0 := hU2.cell 0 rfl
  have e1 := hU2.cell 1 rfl
  have e2 := hU2.cell 2 rfl
  have e3 := hU2.cell 3 rfl
  have e4 := hU2.cell 4 rfl
  have e5 := hU2.cell 5 rfl
  have e6 := hU2.cell 6 rfl
  have e7 := hU2.cell 7 rfl
  have e8 := hU2.cell 8 rfl
  have e9 := hU2.cell 9 rfl
  clear hb2 hV2 hU2 HB1
  have HA2 := HA.out.below (bl_then HB0.out HB2.out)
  have HH2 := HH.out.below (bl_then HB0.out HB2.out)
  have hq1 : IsWs w2 (some ⟨rb, 0, none⟩) rn E := .inr ⟨rb, 0, rfl, HA2.2.1, HA2.2.2⟩
  have hq2 : IsWs w2 (some ⟨rb', 0, none⟩) rn E := .inr ⟨rb', 0, rfl, HH2.2.1, HH2.2.2⟩
  have HEq := (show Hid _ from eqRequestS_any (some ⟨rb, 0, none⟩) (some ⟨rb', 0, none⟩) rn rn rn E w2 hq1 hq2 hrn)
  clear HA2 HH2 hq1 hq2
  go_wp2_with fail
  refine Calls.mono HEq.out ?_
  rintro e w3 ⟨rfl, hb3⟩
  have HB3 : Hid (Below W.heap.size W w3) := bl_then HB2.out hb3
  have hV3 := HV.out.below hvl HB3.out
  have hU3 := HU.out.below hul HB3.out
  clear d0 e0
  clear d1 e1
  clear d2 e2
  clear d3 e3
  clear d4 e4
  clear d5 e5
  clear d6 e6
  clear d7 e7
  clear d8 e8
  clear d9 e9
  have d9 := hV3.cell 9 rfl
  have e9 := hU3.cell 9 rfl
  have HB9 : Hid (Below w.heap.size w w3) := bl_then HB0.out HB3.out
  clear hb3 hV3 hU3
  go_wp2
  go_ret
  exact ⟨rfl, HB9.out⟩
end Go.Proofs.YtbdhhclamgmfkaaGreat
