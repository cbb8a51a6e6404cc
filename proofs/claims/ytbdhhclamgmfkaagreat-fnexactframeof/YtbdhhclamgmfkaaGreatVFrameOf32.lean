/- Several texts in one. -/
import Derived.Test.YtbdhhclamgmfkaaGreatVFrameOf30
import Derived.Test.YtbdhhclamgmfkaaGreatVFrameOf20
import Derived.Test.YtbdhhclamgmfkaaGreatVFrameOf23
import Derived.Test.YtbdhhclamgmfkaaGreatVFrameOf31
import Derived.Test.YtbdhhclamgmfkaaGreatVFrameOf18

/- Two cameras compared. -/

namespace Go.Proofs.YtbdhhclamgmfkaaGreat
open Go.RowKit
set_option linter.unusedSimpArgs false
set_option linter.unusedVariables false
set_option maxRecDepth 100000

theorem eqCamera_any (z x y wd ht : Int) (w : World) : Calls Tryz.prog 32 #[camV z x y wd ht, camV z x y wd ht] w fun e w' => e = .returned (.bool true) ∧ Below w.heap.size w w' := by
  go_enter Tryz.func32, Tryz.ntmps32
  go_wp2
  go_ret
  exact ⟨rfl, by (repeat (first | exact Below.refl _ _ | assumption | refine Below.drew ?_ | refine bl_alloc ?_ _ | refine bl_then ?_ (by assumption) | refine Below.setCell ?_ (by first | omega | (simp; done) | (simp; omega)) _ | refine bl_store ?_ ?_ _ _))⟩
end Go.Proofs.YtbdhhclamgmfkaaGreat
/- Viewers: how they lie in memory; they are copied, measured and compared. -/

namespace Go.Proofs.YtbdhhclamgmfkaaGreat
open Go.RowKit
set_option linter.unusedSimpArgs false
set_option linter.unusedVariables false
set_option maxRecDepth 100000

theorem le2 (n : Nat) : n ≤ n + 1 + 1 := by omega
/-- A viewer. -/
abbrev vwV (z x y wd ht now s : Int) (kv rv : Value) (bad : Int) : Value := .agg #[.int .i64 z, .int .i64 x, .int .i64 y, .int .i64 wd, .int .i64 ht, .int .i64 now, .int .i64 s, kv, rv, .int .i64 bad]
/-- A block whose first cells are these. -/
def Blk (w : World) (q : Nat) (l : List Value) : Prop := ∀ i v, l[i]? = some v → w.cell? ⟨q, i, none⟩ = some v ∧ w.frozen? ⟨q, i, none⟩ = false
theorem Blk.cell {w : World} {q : Nat} {l : List Value} (h : Blk w q l) (i : Nat) {v : Value} (hi : l[i]? = some v) : w.cell? ⟨q, i, none⟩ = some v := (h i v hi).1
theorem Blk.free {w : World} {q : Nat} {l : List Value} (h : Blk w q l) (i : Nat) {v : Value} (hi : l[i]? = some v) : w.frozen? ⟨q, i, none⟩ = false := (h i v hi).2
theorem Blk.lt {w : World} {q : Nat} {l : List Value} {v : Value} (h : Blk w q (v :: l)) : q < w.heap.size := World.block_lt_of_cell? _ _ (h 0 v rfl).1
theorem Blk.below {w w' : World} {q : Nat} {l : List Value} (h : Blk w q l) (hq : q < w.heap.size) (hb : Below w.heap.size w w') : Blk w' q l := fun i v hi =>
  ⟨(hb.cell (p := ⟨q, i, none⟩) hq).trans (h i v hi).1, (hb.frozen (p := ⟨q, i, none⟩) hq).trans (h i v hi).2⟩
theorem Blk.set {w : World} {q : Nat} {l : List Value} (h : Blk w q l) (j : Nat) (u : Value) : Blk (w.setCell ⟨q, j, none⟩ u) q (l.set j u) := fun i v hi => by
  rw [List.getElem?_set] at hi
  by_cases e : j = i
  · subst e
    rw [if_pos rfl] at hi
    by_cases hl : j < l.length
    · rw [if_pos hl] at hi
      injection hi with hi
      subst hi
      have h0 := h j _ (List.getElem?_eq_getElem hl)
      exact ⟨set1_same h0.1, (World.frozen?_setCell _ _ _ _).trans h0.2⟩
    · rw [if_neg hl] at hi; cases hi
  · rw [if_neg e] at hi
    have h0 := h i v hi
    exact ⟨by rw [set1_other (fun e' => e (by injection e'))]; exact h0.1, (World.frozen?_setCell _ _ _ _).trans h0.2⟩
theorem Blk.other {w : World} {q r o : Nat} {u : Value} {l : List Value} (h : Blk w q l) (hne : r ≠ q) : Blk (w.setCell ⟨r, o, none⟩ u) q l := fun i v hi =>
  ⟨by rw [set1_other (fun e' => hne (by injection e'))]; exact (h i v hi).1, (World.frozen?_setCell _ _ _ _).trans (h i v hi).2⟩
theorem Blk.new (w : World) (l : List Value) (t : TypeId) : Blk (w.alloc (.cells l.toArray t)) w.heap.size l := fun i v hi =>
  ⟨by rw [World.cell?_alloc_at _ _ _ _ rfl]; simpa using hi, World.frozen?_alloc_at _ _ _ _ rfl⟩
theorem Blk.alloc {w : World} {q : Nat} {l : List Value} (h : Blk w q l) (hq : q < w.heap.size) (o : Obj) : Blk (w.alloc o) q l := h.below hq (bl_alloc (Below.refl _ _) o)
set_option maxHeartbeats 2000000 in
theorem szCache_le (s : Int) (a : Option Addr) (n cap : Nat) (K : Nat → Kp) (w : World) (hk : IsKs w a n K) (hc : CameKs n K) :
    Calls Tryz.prog 22 #[caV s (.slice a n cap), .int .i64 1048576] w fun e w' => (e = .returned (.int .i64 (-1)) ∨ ∃ m : Nat, m ≤ 1048576 ∧ SmallKs n K ∧ e = .returned (.int .i64 m)) ∧ Below w.heap.size w w' := by
  have HK : Hid (IsKs w a n K) := hk
  have HC : Hid (CameKs n K) := hc
  clear hk hc
  go_enter Tryz.func22, Tryz.ntmps22
  go_wp2_with fail
  generalize hW : (w.alloc _ : World) = W
  have hB0 : Below w.heap.size w W := by subst hW; (repeat (first | exact Below.refl _ _ | assumption | refine Below.drew ?_ | refine bl_alloc ?_ _ | refine bl_then ?_ (by assumption) | refine Below.setCell ?_ (by first | omega | (simp; done) | (simp; omega)) _ | refine bl_store ?_ ?_ _ _))
  clear hW
  refine (szKeptS_l a n cap 1048576 K W (by omega) (HK.out.below hB0) HC.out).mono ?_
  rintro e w1 ⟨rfl | ⟨m, hm, hS, rfl⟩, hb1⟩
  · go_wp2
    go_ret
    exact ⟨.inl rfl, bl_then hB0 hb1⟩
  · have hneg : ¬ ((m : Nat) : Int) < 0 := by omega
    have HS : Hid (SmallKs n K) := hS
    have HMm : Hid (m ≤ 1048576) := hm
    clear hS
    go_wp2
    go_ret
    exact ⟨.inr ⟨m, HMm.out, HS.out, rfl⟩, bl_then hB0 hb1⟩
set_option maxHeartbeats 4000000 in
theorem szViewer_any (z x y wd ht now s : Int) (a : Option Addr) (n cap : Nat) (K : Nat → Kp) (ra : Option Addr) (rn rc : Nat) (bad : Int) (w : World) (hk : IsKs w a n K) (hc : CameKs n K) (hrm : rn ≤ maxLen) :
    Calls Tryz.prog 6 #[vwV z x y wd ht now s (.slice a n cap) (.slice ra rn rc) bad, .int .i64 1048576] w fun e w' => (e = .returned (.int .i64 (-1)) ∨ ∃ m : Nat, SmallKs n K ∧ rn ≤ 1048576 ∧ e = .returned (.int .i64 m)) ∧ Below w.heap.size w w' := by
  have HK : Hid (IsKs w a n K) := hk
  have HC : Hid (CameKs n K) := hc
  clear hk hc
  go_enter Tryz.func6, Tryz.ntmps6
  go_wp2_with fail
  generalize hW : (w.alloc _ : World) = W
  have HB0 : Hid (Below w.heap.size w W) := by show Below _ _ _; subst hW; (repeat (first | exact Below.refl _ _ | assumption | refine Below.drew ?_ | refine bl_alloc ?_ _ | refine bl_then ?_ (by assumption) | refine Below.setCell ?_ (by first | omega | (simp; done) | (simp; omega)) _ | refine bl_store ?_ ?_ _ _))
  have HV : Hid (Blk W w.heap.size [.int .i64 z, .int .i64 x, .int .i64 y, .int .i64 wd, .int .i64 ht, .int .i64 now, .int .i64 s, .slice a n cap, .slice ra rn rc, .int .i64 bad]) := by show Blk _ _ _; subst hW; exact Blk.new _ _ _
  clear hW
  refine (szCache_le s a n cap K W (HK.out.below HB0.out) HC.out).mono ?_
  rintro e w1 ⟨rfl | ⟨m, hm, hS, rfl⟩, hb1⟩
  · have HB1 : Hid (Below w.heap.size w w1) := bl_then HB0.out hb1
    clear hb1
    go_wp2
    go_ret
    exact ⟨.inl rfl, HB1.out⟩
  · have HS : Hid (SmallKs n K) := hS
    have HB1 : Hid (Below w.heap.size w w1) := bl_then HB0.out hb1
    have HV1 : Hid (Blk w1 w.heap.size [.int .i64 z, .int .i64 x, .int .i64 y, .int .i64 wd, .int .i64 ht, .int .i64 now, .int .i64 s, .slice a n cap, .slice ra rn rc, .int .i64 bad]) := HV.out.below HV.out.lt hb1
    have c8 := HV1.out.cell 8 rfl
    have hneg : ¬ ((m : Nat) : Int) < 0 := by omega
    clear hS hb1
    go_wp2_with fail
    by_cases hr : m < rn
    · refine (szRequestS_no ra rn rc m w1 hm hr hrm).mono ?_
      rintro e w2 ⟨rfl, hb2⟩
      have HB2 : Hid (Below w.heap.size w w2) := bl_then HB1.out hb2
      clear hb2 c8
      go_wp2
      go_ret
      exact ⟨.inl rfl, HB2.out⟩
    · refine (szRequestS_ok ra rn rc m w1 hm (by omega)).mono ?_
      rintro e w2 ⟨rfl, hb2⟩
      have HB2 : Hid (Below w.heap.size w w2) := bl_then HB1.out hb2
      have hneg2 : ¬ (m : Int) - (rn : Int) < 0 := by omega
      have he : (m : Int) - (rn : Int) = ((m - rn : Nat) : Int) := by omega
      clear hb2 c8
      go_wp2
      go_ret
      exact ⟨.inr ⟨m - rn, HS.out, by omega, rfl⟩, HB2.out⟩
/-- A viewer of its own: the copies of its lists. -/
def OwnV (w : World) (b n : Nat) (K A : Nat → Kp) (rb rn : Nat) (E : Nat → Req) : Prop := OwnKs w (b + 1) b n K A ∧ rb < w.heap.size ∧ WsAt w rb 0 rn E
theorem OwnV.below {w w' : World} {b n : Nat} {K A : Nat → Kp} {rb rn : Nat} {E : Nat → Req} (h : OwnV w b n K A rb rn E) (hb : Below w.heap.size w w') : OwnV w' b n K A rb rn E :=
  ⟨h.1.below hb, Nat.lt_of_lt_of_le h.2.1 hb.size, h.2.2.below hb h.2.1⟩
theorem resTV {T : Array Value} {Wf : World} {r : Nat} {z x y wd ht now s : Int} {kv rv : Value} {bad : Int} (hT : T[2]?.getD undef = .pointer (some ⟨r, 0, none⟩)) (h : Blk Wf r [.int .i64 z, .int .i64 x, .int .i64 y, .int .i64 wd, .int .i64 ht, .int .i64 now, .int .i64 s, kv, rv, .int .i64 bad]) :
    (results Tryz.f8 T).run Tryz.prog Wf = .ok (vwV z x y wd ht now s kv rv bad) Wf := by
  have h0 := h.cell 0 rfl
  have h1 := h.cell 1 rfl
  have h2 := h.cell 2 rfl
  have h3 := h.cell 3 rfl
  have h4 := h.cell 4 rfl
  have h5 := h.cell 5 rfl
  have h6 := h.cell 6 rfl
  have h7 := h.cell 7 rfl
  have h8 := h.cell 8 rfl
  have h9 := h.cell 9 rfl
  simp [results, Tryz.results8, go_sem, hT, h0, h1, h2, h3, h4, h5, h6, h7, h8, h9]
set_option maxHeartbeats 8000000 in
theorem eqViewer_any (z x y wd ht now s : Int) (n rn : Nat) (b b' rb rb' : Nat) (K A H : Nat → Kp) (E : Nat → Req) (bad : Int) (w : World) (ha : OwnV w b n K A rb rn E) (hh : OwnV w b' n K H rb' rn E) (hs : SmallKs n K) (hrn : rn ≤ 1048576) :
    Calls Tryz.prog 11 #[vwV z x y wd ht now s (.slice (some ⟨b, 0, none⟩) n n) (.slice (some ⟨rb, 0, none⟩) rn rn) bad, vwV z x y wd ht now s (.slice (some ⟨b', 0, none⟩) n n) (.slice (some ⟨rb', 0, none⟩) rn rn) bad] w fun e w' => e = .returned (.bool true) ∧ Below w.heap.size w w' := by
  have HA : Hid (OwnV w b n K A rb rn E) := ha
  have HH : Hid (OwnV w b' n K H rb' rn E) := hh
  have HS : Hid (SmallKs n K) := hs
  clear ha hh hs
  go_enter Tryz.func11, Tryz.ntmps11
  go_wp2_with fail
  generalize hW : ((w.alloc _).alloc _ : World) = W
  have HB0 : Hid (Below w.heap.size w W) := by show Below _ _ _; subst hW; (repeat (first | exact Below.refl _ _ | assumption | refine Below.drew ?_ | refine bl_alloc ?_ _ | refine bl_then ?_ (by assumption) | refine Below.setCell ?_ (by first | omega | (simp; done) | (simp; omega)) _ | refine bl_store ?_ ?_ _ _))
  have HV : Hid (Blk W w.heap.size [.int .i64 z, .int .i64 x, .int .i64 y, .int .i64 wd, .int .i64 ht, .int .i64 now, .int .i64 s, .slice (some ⟨b, 0, none⟩) n n, .slice (some ⟨rb, 0, none⟩) rn rn, .int .i64 bad]) := by
    show Blk _ _ _; subst hW
    exact (Blk.new w _ _).alloc (by simp) _
  have HU : Hid (Blk W (w.heap.size + 1) [.int .i64 z, .int .i64 x, .int .i64 y, .int .i64 wd, .int .i64 ht, .int .i64 now, .int .i64 s, .slice (some ⟨b', 0, none⟩) n n, .slice (some ⟨rb', 0, none⟩) rn rn, .int .i64 bad]) := by
    show Blk _ _ _; subst hW
    have := Blk.new (w.alloc (.cells #[.int .i64 z, .int .i64 x, .int .i64 y, .int .i64 wd, .int .i64 ht, .int .i64 now, .int .i64 s, .slice (some ⟨b, 0, none⟩) n n, .slice (some ⟨rb, 0, none⟩) rn rn, .int .i64 bad] 41)) [.int .i64 z, .int .i64 x, .int .i64 y, .int .i64 wd, .int .i64 ht, .int .i64 now, .int .i64 s, .slice (some ⟨b', 0, none⟩) n n, .slice (some ⟨rb', 0, none⟩) rn rn, .int .i64 bad] 41
    simpa using this
  have hvl : w.heap.size < W.heap.size := HV.out.lt
  have hul : w.heap.size + 1 < W.heap.size := HU.out.lt
  clear hW
  refine (eqCamera_any z x y wd ht W).mono ?_
  rintro e w1 ⟨rfl, hb1⟩
  have HB1 : Hid (Below W.heap.size W w1) := hb1
  have hV1 := HV.out.below hvl hb1
  have hU1 := HU.out.below hul hb1
  have d0 := hV1.cell 0 rfl
  have d1 := hV1.cell 1 rfl
  have d2 := hV1.cell 2 rfl
  have d3 := hV1.cell 3 rfl
  have d4 := hV1.cell 4 rfl
  have d5 := hV1.cell 5 rfl
  have d6 := hV1.cell 6 rfl
  have d7 := hV1.cell 7 rfl
  have d8 := hV1.cell 8 rfl
  have d9 := hV1.cell 9 rfl
  have e0 := hU1.cell 0 rfl
  have e1 := hU1.cell 1 rfl
  have e2 := hU1.cell 2 rfl
  have e3 := hU1.cell 3 rfl
  have e4 := hU1.cell 4 rfl
  have e5 := hU1.cell 5 rfl
  have e6 := hU1.cell 6 rfl
  have e7 := hU1.cell 7 rfl
  have e8 := hU1.cell 8 rfl
  have e9 := hU1.cell 9 rfl
  clear hb1 hV1 hU1
  go_wp2_with fail
  refine (eqCache_any s _ _ _ _ n K _ _ w1 (HA.out.1.below (bl_then HB0.out HB1.out)) (HH.out.1.below (bl_then HB0.out HB1.out)) HS.out).mono ?_
  rintro e w2 ⟨rfl, hb2⟩
  have HB2 : Hid (Below W.heap.size W w2) := bl_then HB1.out hb2
  have hV2 := HV.out.below hvl HB2.out
  have hU2 := HU.out.below hul HB2.out
  clear d0 e0
  clear d1 e1
  clear d2 e2
  clear d3 e3
  clear d4 e4
  clear d5 e5
  clear d6 e6
  clear d7 e7
  clear d8 e8
  clear d9 e9
  have d0 := hV2.cell 0 rfl
  have d1 := hV2.cell 1 rfl
  have d2 := hV2.cell 2 rfl
  have d3 := hV2.cell 3 rfl
  have d4 := hV2.cell 4 rfl
  have d5 := hV2.cell 5 rfl
  have d6 := hV2.cell 6 rfl
  have d7 := hV2.cell 7 rfl
  have d8 := hV2.cell 8 rfl
  have d9 := hV2.cell 9 rfl
  have e0 := hU2.cell 0 rfl
  have e1 := hU2.cell 1 rfl
  have e2 := hU2.cell 2 rfl
  have e3 := hU2.cell 3 rfl
  have e4 := hU2.cell 4 rfl
  have e5 := hU2.cell 5 rfl
  have e6 := hU2.cell 6 rfl
  have e7 := hU2.cell 7 rfl
  have e8 := hU2.cell 8 rfl
  have e9 := hU2.cell 9 rfl
  clear hb2 hV2 hU2 HB1
  have HA2 := HA.out.below (bl_then HB0.out HB2.out)
  have HH2 := HH.out.below (bl_then HB0.out HB2.out)
  have hq1 : IsWs w2 (some ⟨rb, 0, none⟩) rn E := .inr ⟨rb, 0, rfl, HA2.2.1, HA2.2.2⟩
  have hq2 : IsWs w2 (some ⟨rb', 0, none⟩) rn E := .inr ⟨rb', 0, rfl, HH2.2.1, HH2.2.2⟩
  have HEq := (show Hid _ from eqRequestS_any (some ⟨rb, 0, none⟩) (some ⟨rb', 0, none⟩) rn rn rn E w2 hq1 hq2 hrn)
  clear HA2 HH2 hq1 hq2
  go_wp2_with fail
  refine Calls.mono HEq.out ?_
  rintro e w3 ⟨rfl, hb3⟩
  have HB3 : Hid (Below W.heap.size W w3) := bl_then HB2.out hb3
  have hV3 := HV.out.below hvl HB3.out
  have hU3 := HU.out.below hul HB3.out
  clear d0 e0
  clear d1 e1
  clear d2 e2
  clear d3 e3
  clear d4 e4
  clear d5 e5
  clear d6 e6
  clear d7 e7
  clear d8 e8
  clear d9 e9
  have d9 := hV3.cell 9 rfl
  have e9 := hU3.cell 9 rfl
  have HB9 : Hid (Below w.heap.size w w3) := bl_then HB0.out HB3.out
  clear hb3 hV3 hU3
  go_wp2
  go_ret
  exact ⟨rfl, HB9.out⟩
end Go.Proofs.YtbdhhclamgmfkaaGreat
