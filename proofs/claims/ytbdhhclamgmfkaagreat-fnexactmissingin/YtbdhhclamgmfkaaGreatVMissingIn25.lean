/- Several texts in one. -/
import Derived.Test.YtbdhhclamgmfkaaGreatVMissingIn20
import Derived.Test.YtbdhhclamgmfkaaGreatVMissingIn23
import Derived.Test.YtbdhhclamgmfkaaGreatVMissingIn24
import Derived.Test.YtbdhhclamgmfkaaGreatVMissingIn18
import Derived.Test.YtbdhhclamgmfkaaGreatVMissingIn21

/- Viewers: how they lie in memory; they are copied, measured and compared. -/

namespace Go.Proofs.YtbdhhclamgmfkaaGreat
open Go.RowKit
set_option linter.unusedSimpArgs false
set_option linter.unusedVariables false
set_option maxRecDepth 100000

theorem le2 (n : Nat) : n ≤ n + 1 + 1 := by omega
/-- A viewer. -/
abbrev vwV (z x y wd ht now s : Int) (kv rv : Value) (bad : Int) : Value := .agg #[.int .i64 z, .int .i64 x, .int .i64 y, .int .i64 wd, .int .i64 ht, .int .i64 now, .int .i64 s, kv, rv, .int .i64 bad]
/-- A block whose first cells are these. -/
def Blk (w : World) (q : Nat) (l : List Value) : Prop := ∀ i v, l[i]? = some v → w.cell? ⟨q, i, none⟩ = some v ∧ w.frozen? ⟨q, i, none⟩ = false
theorem Blk.cell {w : World} {q : Nat} {l : List Value} (h : Blk w q l) (i : Nat) {v : Value} (hi : l[i]? = some v) : w.cell? ⟨q, i, none⟩ = some v := (h i v hi).1
theorem Blk.free {w : World} {q : Nat} {l : List Value} (h : Blk w q l) (i : Nat) {v : Value} (hi : l[i]? = some v) : w.frozen? ⟨q, i, none⟩ = false := (h i v hi).2
theorem Blk.lt {w : World} {q : Nat} {l : List Value} {v : Value} (h : Blk w q (v :: l)) : q < w.heap.size := World.block_lt_of_cell? _ _ (h 0 v rfl).1
theorem Blk.below {w w' : World} {q : Nat} {l : List Value} (h : Blk w q l) (hq : q < w.heap.size) (hb : Below w.heap.size w w') : Blk w' q l := fun i v hi =>
  ⟨(hb.cell (p := ⟨q, i, none⟩) hq).trans (h i v hi).1, (hb.frozen (p := ⟨q, i, none⟩) hq).trans (h i v hi).2⟩
theorem Blk.set {w : World} {q : Nat} {l : List Value} (h : Blk w q l) (j : Nat) (u : Value) : Blk (w.setCell ⟨q, j, none⟩ u) q (l.set j u) := fun i v hi => by
  rw [List.getElem?_set] at hi
  by_cases e : j = i
  · subst e
    rw [if_pos rfl] at hi
    by_cases hl : j < l.length
    · rw [if_pos hl] at hi
      injection hi with hi
      subst hi
      have h0 := h j _ (List.getElem?_eq_getElem hl)
      exact ⟨set1_same h0.1, (World.frozen?_setCell _ _ _ _).trans h0.2⟩
    · rw [if_neg hl] at hi; cases hi
  · rw [if_neg e] at hi
    have h0 := h i v hi
    exact ⟨by rw [set1_other (fun e' => e (by injection e'))]; exact h0.1, (World.frozen?_setCell _ _ _ _).trans h0.2⟩
theorem Blk.other {w : World} {q r o : Nat} {u : Value} {l : List Value} (h : Blk w q l) (hne : r ≠ q) : Blk (w.setCell ⟨r, o, none⟩ u) q l := fun i v hi =>
  ⟨by rw [set1_other (fun e' => hne (by injection e'))]; exact (h i v hi).1, (World.frozen?_setCell _ _ _ _).trans (h i v hi).2⟩
theorem Blk.new (w : World) (l : List Value) (t : TypeId) : Blk (w.alloc (.cells l.toArray t)) w.heap.size l := fun i v hi =>
  ⟨by rw [World.cell?_alloc_at _ _ _ _ rfl]; simpa using hi, World.frozen?_alloc_at _ _ _ _ rfl⟩
theorem Blk.alloc {w : World} {q : Nat} {l : List Value} (h : Blk w q l) (hq : q < w.heap.size) (o : Obj) : Blk (w.alloc o) q l := h.below hq (bl_alloc (Below.refl _ _) o)
set_option maxHeartbeats 2000000 in
theorem szCache_le (s : Int) (a : Option Addr) (n cap : Nat) (K : Nat → Kp) (w : World) (hk : IsKs w a n K) (hc : CameKs n K) :
    Calls Tryz.prog 22 #[caV s (.slice a n cap), .int .i64 1048576] w fun e w' => (e = .returned (.int .i64 (-1)) ∨ ∃ m : Nat, m ≤ 1048576 ∧ SmallKs n K ∧ e = .returned (.int .i64 m)) ∧ Below w.heap.size w w' := by
  have HK : Hid (IsKs w a n K) := hk
  have HC : Hid (CameKs n K) := hc
  clear hk hc
  go_enter Tryz.func22, Tryz.ntmps22
  go_wp2_with fail
  generalize hW : (w.alloc _ : World) = W
  have hB0 : Below w.heap.size w W := by subst hW; (repeat (first | exact Below.refl _ _ | assumption | refine Below.drew ?_ | refine bl_alloc ?_ _ | refine bl_then ?_ (by assumption) | refine Below.setCell ?_ (by first | omega | (simp; done) | (simp; omega)) _ | refine bl_store ?_ ?_ _ _))
  clear hW
  refine (szKeptS_l a n cap 1048576 K W (by omega) (HK.out.below hB0) HC.out).mono ?_
  rintro e w1 ⟨rfl | ⟨m, hm, hS, rfl⟩, hb1⟩
  · go_wp2
    go_ret
    exact ⟨.inl rfl, bl_then hB0 hb1⟩
  · have hneg : ¬ ((m : Nat) : Int) < 0 := by omega
    have HS : Hid (SmallKs n K) := hS
    have HMm : Hid (m ≤ 1048576) := hm
    clear hS
    go_wp2
    go_ret
    exact ⟨.inr ⟨m, HMm.out, HS.out, rfl⟩, bl_then hB0 hb1⟩
set_option maxHeartbeats 4000000 in
theorem szViewer_any (z x y wd ht now s : Int) (a : Option Addr) (n cap : Nat) (K : Nat → Kp) (ra : Option Addr) (rn rc : Nat) (bad : Int) (w : World) (hk : IsKs w a n K) (hc : CameKs n K) (hrm : rn ≤ maxLen) :
    Calls Tryz.prog 6 #[vwV z x y wd ht now s (.slice a n cap) (.slice ra rn rc) bad, .int .i64 1048576] w fun e w' => (e = .returned (.int .i64 (-1)) ∨ ∃ m : Nat, SmallKs n K ∧ rn ≤ 1048576 ∧ e = .returned (.int .i64 m)) ∧ Below w.heap.size w w' := by
  have HK : Hid (IsKs w a n K) := hk
  have HC : Hid (CameKs n K) := hc
  clear hk hc
  go_enter Tryz.func6, Tryz.ntmps6
  go_wp2_with fail
  generalize hW : (w.alloc _ : World) = W
  have HB0 : Hid (Below w.heap.size w W) := by show Below _ _ _; subst hW; (repeat (first | exact Below.refl _ _ | assumption | refine Below.drew ?_ | refine bl_alloc ?_ _ | refine bl_then ?_ (by assumption) | refine Below.setCell ?_ (by first | omega | (simp; done) | (simp; omega)) _ | refine bl_store ?_ ?_ _ _))
  have HV : Hid (Blk W w.heap.size [.int .i64 z, .int .i64 x, .int .i64 y, .int .i64 wd, .int .i64 ht, .int .i64 now, .int .i64 s, .slice a n cap, .slice ra rn rc, .int .i64 bad]) := by show Blk _ _ _; subst hW; exact Blk.new _ _ _
  clear hW
  refine (szCache_le s a n cap K W (HK.out.below HB0.out) HC.out).mono ?_
  rintro e w1 ⟨rfl | ⟨m, hm, hS, rfl⟩, hb1⟩
  · have HB1 : Hid (Below w.heap.size w w1) := bl_then HB0.out hb1
    clear hb1
    go_wp2
    go_ret
    exact ⟨.inl rfl, HB1.out⟩
  · have HS : Hid (SmallKs n K) := hS
    have HB1 : Hid (Below w.heap.size w w1) := bl_then HB0.out hb1
    have HV1 : Hid (Blk w1 w.heap.size [.int .i64 z, .int .i64 x, .int .i64 y, .int .i64 wd, .int .i64 ht, .int .i64 now, .int .i64 s, .slice a n cap, .slice ra rn rc, .int .i64 bad]) := HV.out.below HV.out.lt hb1
    have c8 := HV1.out.cell 8 rfl
    have hneg : ¬ ((m : Nat) : Int) < 0 := by omega
    clear hS hb1
    go_wp2_with fail
    by_cases hr : m < rn
    · refine (szRequestS_no ra rn rc m w1 hm hr hrm).mono ?_
      rintro e w2 ⟨rfl, hb2⟩
      have HB2 : Hid (Below w.heap.size w w2) := bl_then HB1.out hb2
      clear hb2 c8
      go_wp2
      go_ret
      exact ⟨.inl rfl, HB2.out⟩
    · refine (szRequestS_ok ra rn rc m w1 hm (by omega)).mono ?_
      rintro e w2 ⟨rfl, hb2⟩
      have HB2 : Hid (Below w.heap.size w w2) := bl_then HB1.out hb2
      have hneg2 : ¬ (m : Int) - (rn : Int) < 0 := by omega
      have he : (m : Int) - (rn : Int) = ((m - rn : Nat) : Int) := by omega
      clear hb2 c8
      go_wp2
      go_ret
      exact ⟨.inr ⟨m - rn, HS.out, by omega, rfl⟩, HB2.out⟩
/-- A viewer of its own: the copies of its lists. -/
def OwnV (w : World) (b n : Nat) (K A : Nat → Kp) (rb rn : Nat) (E : Nat → Req) : Prop := OwnKs w (b + 1) b n K A ∧ rb < w.heap.size ∧ WsAt w rb 0 rn E
theorem OwnV.below {w w' : World} {b n : Nat} {K A : Nat → Kp} {rb rn : Nat} {E : Nat → Req} (h : OwnV w b n K A rb rn E) (hb : Below w.heap.size w w') : OwnV w' b n K A rb rn E :=
  ⟨h.1.below hb, Nat.lt_of_lt_of_le h.2.1 hb.size, h.2.2.below hb h.2.1⟩
theorem resTV {T : Array Value} {Wf : World} {r : Nat} {z x y wd ht now s : Int} {kv rv : Value} {bad : Int} (hT : T[2]?.getD undef = .pointer (some ⟨r, 0, none⟩)) (h : Blk Wf r [.int .i64 z, .int .i64 x, .int .i64 y, .int .i64 wd, .int .i64 ht, .int .i64 now, .int .i64 s, kv, rv, .int .i64 bad]) :
    (results Tryz.f8 T).run Tryz.prog Wf = .ok (vwV z x y wd ht now s kv rv bad) Wf := by
  have h0 := h.cell 0 rfl
  have h1 := h.cell 1 rfl
  have h2 := h.cell 2 rfl
  have h3 := h.cell 3 rfl
  have h4 := h.cell 4 rfl
  have h5 := h.cell 5 rfl
  have h6 := h.cell 6 rfl
  have h7 := h.cell 7 rfl
  have h8 := h.cell 8 rfl
  have h9 := h.cell 9 rfl
  simp [results, Tryz.results8, go_sem, hT, h0, h1, h2, h3, h4, h5, h6, h7, h8, h9]
set_option maxHeartbeats 8000000 in
theorem eqViewer_any (z x y wd ht now s : Int) (n rn : Nat) (b b' rb rb' : Nat) (K A H : Nat → Kp) (E : Nat → Req) (bad : Int) (w : World) (ha : OwnV w b n K A rb rn E) (hh : OwnV w b' n K H rb' rn E) (hs : SmallKs n K) (hrn : rn ≤ 1048576) :
    Calls Tryz.prog 11 #[vwV z x y wd ht now s (.slice (some ⟨b, 0, none⟩) n n) (.slice (some ⟨rb, 0, none⟩) rn rn) bad, vwV z x y wd ht now s (.slice (some ⟨b', 0, none⟩) n n) (.slice (some ⟨rb', 0, none⟩) rn rn) bad] w fun e w' => e = .returned (.bool true) ∧ Below w.heap.size w w' := by
  have HA : Hid (OwnV w b n K A rb rn E) := ha
  have HH : Hid (OwnV w b' n K H rb' rn E) := hh
  have HS : Hid (SmallKs n K) := hs
  clear ha hh hs
  go_enter Tryz.func11, Tryz.ntmps11
  go_wp2_with fail
  generalize hW : ((w.alloc _).alloc _ : World) = W
  have HB0 : Hid (Below w.heap.size w W) := by show Below _ _ _; subst hW; (repeat (first | exact Below.refl _ _ | assumption | refine Below.drew ?_ | refine bl_alloc ?_ _ | refine bl_then ?_ (by assumption) | refine Below.setCell ?_ (by first | omega | (simp; done) | (simp; omega)) _ | refine bl_store ?_ ?_ _ _))
  have HV : Hid (Blk W w.heap.size [.int .i64 z, .int .i64 x, .int .i64 y, .int .i64 wd, .int .i64 ht, .int .i64 now, .int .i64 s, .slice (some ⟨b, 0, none⟩) n n, .slice (some ⟨rb, 0, none⟩) rn rn, .int .i64 bad]) := by
    show Blk _ _ _; subst hW
    exact (Blk.new w _ _).alloc (by simp) _
  have HU : Hid (Blk W (w.heap.size + 1) [.int .i64 z, .int .i64 x, .int .i64 y, .int .i64 wd, .int .i64 ht, .int .i64 now, .int .i64 s, .slice (some ⟨b', 0, none⟩) n n, .slice (some ⟨rb', 0, none⟩) rn rn, .int .i64 bad]) := by
    show Blk _ _ _; subst hW
    have := Blk.new (w.alloc (.cells #[.int .i64 z, .int .i64 x, .int .i64 y, .int .i64 wd, .int .i64 ht, .int .i64 now, .int .i64 s, .slice (some ⟨b, 0, none⟩) n n, .slice (some ⟨rb, 0, none⟩) rn rn, .int .i64 bad] 41)) [.int .i64 z, .int .i64 x, .int .i64 y, .int .i64 wd, .int .i64 ht, .int .i64 now, .int .i64 s, .slice (some ⟨b', 0, none⟩) n n, .slice (some ⟨rb', 0, none⟩) rn rn, .int .i64 bad] 41
    simpa using this
  have hvl : w.heap.size < W.heap.size := HV.out.lt
  have hul : w.heap.size + 1 < W.heap.size := HU.out.lt
  clear hW
  refine (eqCamera_any z x y wd ht W).mono ?_
  rintro e w1 ⟨rfl, hb1⟩
  have HB1 : Hid (Below W.heap.size W w1) := hb1
  have hV1 := HV.out.below hvl hb1
  have hU1 := HU.out.below hul hb1
  have d0 := hV1.cell 0 rfl
  have d1 := hV1.cell 1 rfl
  have d2 := hV1.cell 2 rfl
  have d3 := hV1.cell 3 rfl
  have d4 := hV1.cell 4 rfl
  have d5 := hV1.cell 5 rfl
  have d6 := hV1.cell 6 rfl
  have d7 := hV1.cell 7 rfl
  have d8 := hV1.cell 8 rfl
  have d9 := hV1.cell 9 rfl
  have e0 := hU1.cell 0 rfl
  have e1 := hU1.cell 1 rfl
  have e2 := hU1.cell 2 rfl
  have e3 := hU1.cell 3 rfl
  have e4 := hU1.cell 4 rfl
  have e5 := hU1.cell 5 rfl
  have e6 := hU1.cell 6 rfl
  have e7 := hU1.cell 7 rfl
  have e8 := hU1.cell 8 rfl
  have e9 := hU1.cell 9 rfl
  clear hb1 hV1 hU1
  go_wp2_with fail
  refine (eqCache_any s _ _ _ _ n K _ _ w1 (HA.out.1.below (bl_then HB0.out HB1.out)) (HH.out.1.below (bl_then HB0.out HB1.out)) HS.out).mono ?_
  rintro e w2 ⟨rfl, hb2⟩
  have HB2 : Hid (Below W.heap.size W w2) := bl_then HB1.out hb2
  have hV2 := HV.out.below hvl HB2.out
  have hU2 := HU.out.below hul HB2.out
  clear d0 e0
  clear d1 e1
  clear d2 e2
  clear d3 e3
  clear d4 e4
  clear d5 e5
  clear d6 e6
  clear d7 e7
  clear d8 e8
  clear d9 e9
  have d0 := hV2.cell 0 rfl
  have d1 := hV2.cell 1 rfl
  have d2 := hV2.cell 2 rfl
  have d3 := hV2.cell 3 rfl
  have d4 := hV2.cell 4 rfl
  have d5 := hV2.cell 5 rfl
  have d6 := hV2.cell 6 rfl
  have d7 := hV2.cell 7 rfl
  have d8 := hV2.cell 8 rfl
  have d9 := hV2.cell 9 rfl
  have e0 := hU2.cell 0 rfl
  have e1 := hU2.cell 1 rfl
  have e2 := hU2.cell 2 rfl
  have e3 := hU2.cell 3 rfl
  have e4 := hU2.cell 4 rfl
  have e5 := hU2.cell 5 rfl
  have e6 := hU2.cell 6 rfl
  have e7 := hU2.cell 7 rfl
  have e8 := hU2.cell 8 rfl
  have e9 := hU2.cell 9 rfl
  clear hb2 hV2 hU2 HB1
  have HA2 := HA.out.below (bl_then HB0.out HB2.out)
  have HH2 := HH.out.below (bl_then HB0.out HB2.out)
  have hq1 : IsWs w2 (some ⟨rb, 0, none⟩) rn E := .inr ⟨rb, 0, rfl, HA2.2.1, HA2.2.2⟩
  have hq2 : IsWs w2 (some ⟨rb', 0, none⟩) rn E := .inr ⟨rb', 0, rfl, HH2.2.1, HH2.2.2⟩
  have HEq := (show Hid _ from eqRequestS_any (some ⟨rb, 0, none⟩) (some ⟨rb', 0, none⟩) rn rn rn E w2 hq1 hq2 hrn)
  clear HA2 HH2 hq1 hq2
  go_wp2_with fail
  refine Calls.mono HEq.out ?_
  rintro e w3 ⟨rfl, hb3⟩
  have HB3 : Hid (Below W.heap.size W w3) := bl_then HB2.out hb3
  have hV3 := HV.out.below hvl HB3.out
  have hU3 := HU.out.below hul HB3.out
  clear d0 e0
  clear d1 e1
  clear d2 e2
  clear d3 e3
  clear d4 e4
  clear d5 e5
  clear d6 e6
  clear d7 e7
  clear d8 e8
  clear d9 e9
  have d9 := hV3.cell 9 rfl
  have e9 := hU3.cell 9 rfl
  have HB9 : Hid (Below w.heap.size w w3) := bl_then HB0.out HB3.out
  clear hb3 hV3 hU3
  go_wp2
  go_ret
  exact ⟨rfl, HB9.out⟩
end Go.Proofs.YtbdhhclamgmfkaaGreat
/- A cache within another struct: where in it a ref is, and its fault: the model. -/

namespace Go.Proofs.YtbdhhclamgmfkaaGreat
open Go.RowKit
set_option linter.unusedSimpArgs false
set_option linter.unusedVariables false
set_option maxRecDepth 100000

/-- Two cells: a cache. -/
def CaO (w : World) (q o : Nat) (s : Int) (v : Value) : Prop := w.cell? ⟨q, o, none⟩ = some (.int .i64 s) ∧ w.cell? ⟨q, o + 1, none⟩ = some v
theorem CaO.below {w w' : World} {q o : Nat} {s : Int} {v : Value} (h : CaO w q o s v) (hb : Below w.heap.size w w') : CaO w' q o s v :=
  have hl := World.block_lt_of_cell? _ _ h.1
  ⟨(hb.cell (p := ⟨q, o, none⟩) hl).trans h.1, (hb.cell (p := ⟨q, o + 1, none⟩) hl).trans h.2⟩
set_option maxHeartbeats 4000000 in
theorem l11At_off (q o : Nat) (s : Int) (a : Option Addr) (n cap : Nat) (K : Nat → Kp) (z x y : Int) (w : World) (hc : CaO w q o s (.slice a n cap)) (hp : IsKs w a n K) (hn : n ≤ 1048576) :
    Calls Tryz.prog 50 #[.pointer (some ⟨q, o, none⟩), refV z x y] w fun e w' => e = .returned (.int .i64 (atK n K z x y)) ∧ Below w.heap.size w w' := by
  have HP : Hid (IsKs w a n K) := hp
  have HC : Hid (CaO w q o s (.slice a n cap)) := hc
  clear hp hc
  go_enter Tryz.func50, Tryz.ntmps50
  go_wp2_with fail
  generalize hW : (w.alloc _ : World) = W
  have HB0 : Hid (Below w.heap.size w W) := by show Below _ _ _; subst hW; (repeat (first | exact Below.refl _ _ | assumption | refine Below.drew ?_ | refine bl_alloc ?_ _ | refine bl_then ?_ (by assumption) | refine Below.setCell ?_ (by first | omega | (simp; done) | (simp; omega)) _ | refine bl_store ?_ ?_ _ _))
  have HR : Hid (RK W w.heap.size z x y) := by show RK _ _ _ _ _; subst hW; exact ⟨by simp [go_sem], by simp [go_sem], by simp [go_sem]⟩
  clear hW
  go_loopw [5] (fun i wr => ∃ k : Nat, k ≤ n ∧ i = .int .i64 (k : Int) ∧ (∀ j, j < k → isK (K j) z x y = false) ∧ Below W.heap.size W wr) (fun i _ => n - (intOf i).toNat)
  case atStart => exact ⟨0, by omega, rfl, fun j hj => absurd hj (Nat.not_lt_zero _), Below.refl _ _⟩
  case round =>
    obtain ⟨k, hk, rfl, hno, hB⟩ := hrel
    have HN : Hid (∀ j, j < k → isK (K j) z x y = false) := hno
    have HB : Hid (Below W.heap.size W wr) := hB
    obtain ⟨m0, m1⟩ := HC.out.below (bl_then HB0.out hB)
    by_cases hlt : k < n
    · rcases HP.out with h0 | ⟨b, off, rfl, hb, hpt⟩
      · omega
      obtain ⟨q0, q1, q2, q3, q4⟩ := ((hpt.below (bl_then HB0.out hB) hb) k hlt).1
      obtain ⟨p0, p1, p2⟩ := HR.out.below hB
      have hi : (k : Int) < (n : Int) := by omega
      have hi0 : (0 : Int) ≤ (k : Int) := by omega
      have heq := fun w => eql_ref (K k).z (K k).x (K k).y z x y w
      clear hno hB hpt
      have hE0 : ((K k).z == z && ((K k).x == x && (K k).y == y)) = isK (K k) z x y := rfl
      simp only [hE0] at heq
      clear hE0
      cases hE : isK (K k) z x y
      · simp only [hE] at heq
        have HN2 : Hid (∀ j, j < k + 1 → isK (K j) z x y = false) := fun j hj => by
          by_cases e : j = k
          · rw [e]; exact hE
          · exact HN.out j (by omega)
        clear hE
        generalize (K k).z = rz at *
        generalize (K k).x = rx at *
        generalize (K k).y = ry at *
        go_wp2_with fail
        go_quiet (fail)
        go_wp2_with fail
        exact ⟨⟨k + 1, by omega, by simp, HN2.out, below_drewN HB.out _⟩, by simp [intOf]; omega⟩
      · simp only [hE] at heq
        have HY : Hid (atK n K z x y = (k : Int)) := firstI_yes (G := fun i => isK (K i) z x y) hlt hE HN.out
        clear hE
        generalize (K k).z = rz at *
        generalize (K k).x = rx at *
        generalize (K k).y = ry at *
        go_wp2_with fail
        go_quiet (fail)
        go_wp2
        go_ret
        exact ⟨ret_int HY.out.symm, below_drewN (bl_then HB0.out HB.out) _⟩
    · obtain rfl : n = k := by omega
      have HY : Hid (atK n K z x y = -1) := firstI_no (G := fun i => isK (K i) z x y) HN.out
      go_wp2
      go_ret
      exact ⟨ret_int HY.out.symm, bl_then HB0.out HB.out⟩
set_option maxHeartbeats 8000000 in
theorem l11Fault_off (q o : Nat) (s : Int) (b n cap : Nat) (A : Nat → Kp) (w : World) (hc : CaO w q o s (.slice (some ⟨b, 0, none⟩) n cap)) (ha : KoAt w b n A) (hs : SmallKs n A) :
    Calls Tryz.prog 47 #[.pointer (some ⟨q, o, none⟩)] w fun e w' => e = .returned (.int .i64 (cacheC s n A)) ∧ Below w.heap.size w w' := by
  have HA : Hid (KoAt w b n A) := ha
  have HC : Hid (CaO w q o s (.slice (some ⟨b, 0, none⟩) n cap)) := hc
  have HS : Hid (SmallKs n A) := hs
  have hn : n ≤ 1048576 := hs.1
  obtain ⟨p0, p1⟩ := hc
  clear ha hs
  cases hin : inB s 1 10
  · have hz : Hid (cacheC s n A = 3) := by show _ = _; unfold cacheC; rw [hin]; rfl
    go_enter Tryz.func47, Tryz.ntmps47
    go_wp2_with (go_at_call 46; refine (l1In_any _ _ _ _).mono ?_; rintro e w' ⟨rfl, h'⟩; subst w')
    go_ret
    exact ⟨ret_int hz.out.symm, by (repeat (first | exact Below.refl _ _ | assumption | refine Below.drew ?_ | refine bl_alloc ?_ _ | refine bl_then ?_ (by assumption) | refine Below.setCell ?_ (by first | omega | (simp; done) | (simp; omega)) _ | refine bl_store ?_ ?_ _ _))⟩
  by_cases hsn : s < (n : Int)
  · have hz : Hid (cacheC s n A = 2) := by show _ = _; unfold cacheC; rw [if_pos hin, if_pos hsn]
    have hw : IntKind.i64.wrap (n : Int) = (n : Int) := IntWalk.i64_in _ (by omega)
    go_enter Tryz.func47, Tryz.ntmps47
    go_wp2_with (go_at_call 46; refine (l1In_any _ _ _ _).mono ?_; rintro e w' ⟨rfl, h'⟩; subst w')
    go_quiet (fail)
    go_wp2
    go_ret
    exact ⟨ret_int hz.out.symm, below_drewN (Below.refl _ _) _⟩
  · have hz : Hid (cacheC s n A = scanC (kC A) 0 n) := by show _ = _; unfold cacheC; rw [if_pos hin, if_neg hsn]
    have hw : IntKind.i64.wrap (n : Int) = (n : Int) := IntWalk.i64_in _ (by omega)
    go_enter Tryz.func47, Tryz.ntmps47
    go_wp2_with (go_at_call 46; refine (l1In_any _ _ _ _).mono ?_; rintro e w' ⟨rfl, h'⟩; subst w')
    go_quiet (fail)
    go_wp2_with fail
    go_loopw [3] (fun v wr => ∃ k : Nat, k ≤ n ∧ v = .int .i64 k ∧ (∀ j, j < k → kC A j = 0) ∧ Below w.heap.size w wr) (fun v _ => n - (intOf v).toNat)
    case atStart => exact ⟨0, by omega, rfl, by omega, below_drewN (Below.refl _ _) _⟩
    case round =>
      obtain ⟨k, hk, rfl, hA, hB⟩ := hrel
      have HB : Hid (Below w.heap.size w wr) := hB
      have HZ : Hid (∀ j, j < k → kC A j = 0) := hA
      obtain ⟨m0, m1⟩ := HC.out.below hB
      clear p0 p1 hA
      by_cases hlt : k < n
      · have HLT : Hid (k < n) := hlt
        have first : Hid (∀ c, kC A k = c → c ≠ 0 → cacheC s n A = c) := fun c hc h0 => by
          rw [hz.out, scan_first (kC A) n 0 k (fun j _ hj => HZ.out j hj) (by omega) (by have := HLT.out; omega) (by rw [hc]; exact h0), hc]
        have HOK : Hid (kC A k = 0 → ∀ j, j < k + 1 → kC A j = 0) := fun h0 j hj => by
          by_cases e : j = k
          · rw [e]; exact h0
          · exact HZ.out j (by omega)
        have HR : Hid (KoAt wr b n A) := HA.out.below hB
        obtain ⟨⟨q0, q1, q2, q3, q4⟩, ⟨fb, ef, hfl, hft⟩, hids⟩ := HR.out.2 k hlt
        rw [ef] at q3
        have HL8 : Hid (Calls Tryz.prog 75 #[.pointer (some ⟨b, k * 5, none⟩)] wr fun e w' => e = .returned (.int .i64 (rtC (A k).z (A k).x (A k).y (A k).fn (A k).F)) ∧ Below wr.heap.size wr w') :=
          l8Tile_off b (k * 5) _ _ _ fb (A k).fn (A k).fc (A k).F wr ⟨q0, q1, q2, q3⟩ hft hfl (HS.out.2 k hlt).1
        have hi : (k : Int) < (n : Int) := by omega
        have hi0 : (0 : Int) ≤ (k : Int) := by omega
        clear hB hft hids
        by_cases hC : rtC (A k).z (A k).x (A k).y (A k).fn (A k).F = 0
        · rw [hC] at HL8
          go_wp2_with fail
          refine HL8.out.mono ?_
          rintro e w1 ⟨rfl, hb1⟩
          have HB1 : Hid (Below w.heap.size w w1) := bl_then HB.out hb1
          have HR1 : Hid (KoAt w1 b n A) := HR.out.below hb1
          have hC0 : Hid (rtC (A k).z (A k).x (A k).y (A k).fn (A k).F = 0) := hC
          have HRas : Hid (∀ W, Below w1.heap.size w1 W → Calls Tryz.prog 77 #[.pointer (some ⟨b, k * 5, none⟩)] W fun e w' => ∃ v, e = .returned v ∧ RowN W.heap.size w' v (rtL (A k).z (A k).x (A k).y (A k).fn (A k).F) ∧ Below W.heap.size W w') := fun W hW => by
            obtain ⟨hr, hf, _⟩ := rtC_zero hC0.out
            obtain ⟨h12, hok⟩ := feats_okF hf
            obtain ⟨⟨r0, r1, r2, r3, r4⟩, ⟨gb, eg, hgl, hgt⟩, _⟩ := (HR1.out.below hW).2 k HLT.out
            rw [eg] at r3
            rw [show rtL (A k).z (A k).x (A k).y (A k).fn (A k).F = _ from if_pos hC0.out]
            exact l8Raster_off b (k * 5) _ _ _ gb (A k).fn (A k).fc (A k).F W ⟨r0, r1, r2, r3⟩ hgt hgl h12 hok hr
          obtain ⟨B, hBB0⟩ : ∃ B, sameI (A k).m (rtL (A k).z (A k).x (A k).y (A k).fn (A k).F).length (A k).I (nz (rtL (A k).z (A k).x (A k).y (A k).fn (A k).F)) = B := ⟨_, rfl⟩
          have hBB : Hid (sameI (A k).m (rtL (A k).z (A k).x (A k).y (A k).fn (A k).F).length (A k).I (nz (rtL (A k).z (A k).x (A k).y (A k).fn (A k).F)) = B) := hBB0
          have HSm : Hid (∀ W, Below w1.heap.size w1 W → ∀ va vc, IsNs W va (rtL (A k).z (A k).x (A k).y (A k).fn (A k).F).length (nz (rtL (A k).z (A k).x (A k).y (A k).fn (A k).F)) → Calls Tryz.prog 76 #[.slice (A k).ia (A k).m (A k).ic, .slice va (rtL (A k).z (A k).x (A k).y (A k).fn (A k).F).length vc] W fun e w' => e = .returned (.bool B) ∧ Below W.heap.size W w') := fun W hW va vc hv => by
            rw [← hBB.out]
            exact l11Same_any _ va _ _ _ vc _ _ W ((HR1.out.below hW).2 k HLT.out).2.2 hv (HS.out.2 k HLT.out).2
          have d4 : ∀ W, Below w1.heap.size w1 W → W.cell? ⟨b, k * 5 + 4, none⟩ = some (.slice (A k).ia (A k).m (A k).ic) := fun W hW => ((HR1.out.below hW).2 k HLT.out).1.2.2.2.2
          clear q0 q1 q2 q3 q4 m0 m1 hC hBB0 HL8 hb1
          go_wp2_with fail
          refine wp_region_noPanic ?_
          refine wp_region_held_drew (S := fun W' => Below w1.heap.size w1 W') (by kernel_rfl) (by have := Below.refl w1.heap.size w1; (repeat (first | exact Below.refl _ _ | assumption | refine Below.drew ?_ | refine bl_alloc ?_ _ | refine bl_then ?_ (by assumption) | refine Below.setCell ?_ (by first | omega | (simp; done) | (simp; omega)) _ | refine bl_store ?_ ?_ _ _))) (fun hHeld => ?_)
          have hSd : Below w1.heap.size w1 w1.drew := hHeld
          refine takeD (i := 0) (d := some 44) (v := ?vr0) rfl rfl (by kernel_rfl) (by kernel_rfl) (by kernel_rfl) (fun _ _ _ h => h) (Or.inl ⟨by rfl, ?hyr0⟩) hSd ?_
          case hyr0 => (intro w hSw; (try dsimp only at hSw); go_simp <;> with_reducible rfl)
          try simp only [Act.put, List.setIfInBounds_toArray, List.set_cons_zero, List.set_cons_succ]
          refine takeD (i := 1) (d := some 45) (v := ?vr1) rfl rfl (by kernel_rfl) (by kernel_rfl) (by kernel_rfl) (fun _ _ _ h => h) (Or.inl ⟨by rfl, ?hyr1⟩) hSd ?_
          case hyr1 => (intro w hSw; (try dsimp only at hSw); go_simp <;> with_reducible rfl)
          try simp only [Act.put, List.setIfInBounds_toArray, List.set_cons_zero, List.set_cons_succ]
          refine takeD (i := 2) (d := some 46) (v := ?vr2) rfl rfl (by kernel_rfl) (by kernel_rfl) (by kernel_rfl) (fun _ _ _ h => h) (Or.inl ⟨by rfl, ?hyr2⟩) hSd ?_
          case hyr2 => (intro w hSw; (try dsimp only at hSw); go_simp <;> with_reducible rfl)
          try simp only [Act.put, List.setIfInBounds_toArray, List.set_cons_zero, List.set_cons_succ]
          refine takeD (i := 3) (d := some 47) (v := ?vr3) rfl rfl (by kernel_rfl) (by kernel_rfl) (by kernel_rfl) (fun _ _ _ h => h) (Or.inl ⟨by rfl, ?hyr3⟩) hSd ?_
          case hyr3 => (intro w hSw; (try dsimp only at hSw); go_simp <;> with_reducible rfl)
          try simp only [Act.put, List.setIfInBounds_toArray, List.set_cons_zero, List.set_cons_succ]
          refine takeD (i := 4) (d := some 48) (v := ?vr4) rfl rfl (by kernel_rfl) (by kernel_rfl) (by kernel_rfl) (fun _ _ _ h => h) (Or.inl ⟨by rfl, ?hyr4⟩) hSd ?_
          case hyr4 => (intro w hSw; (try dsimp only at hSw); go_simp <;> with_reducible rfl)
          try simp only [Act.put, List.setIfInBounds_toArray, List.set_cons_zero, List.set_cons_succ]
          refine takeD (i := 5) (d := some 49) (v := ?vr5) rfl rfl (by kernel_rfl) (by kernel_rfl) (by kernel_rfl) (fun _ _ _ h => h) (Or.inl ⟨by rfl, ?hyr5⟩) hSd ?_
          case hyr5 => (intro w hSw; (try dsimp only at hSw); go_simp <;> with_reducible rfl)
          try simp only [Act.put, List.setIfInBounds_toArray, List.set_cons_zero, List.set_cons_succ]
          refine takeD (i := 6) (d := some 50) (v := ?vr6) rfl rfl (by kernel_rfl) (by kernel_rfl) (by kernel_rfl) (fun _ _ _ h => h) (Or.inl ⟨by rfl, ?hyr6⟩) hSd ?_
          case hyr6 => (intro w hSw; (try dsimp only at hSw); go_simp <;> with_reducible rfl)
          try simp only [Act.put, List.setIfInBounds_toArray, List.set_cons_zero, List.set_cons_succ]
          refine wpAnyH_ready (rs := [7]) (by kernel_rfl) (by simp) ?_
          refine (AllReadyH.cons rfl (fun K hK => ?_) AllReadyH.nil)
          rw [if_pos (by rfl)]
          go_simp
          refine Calls.mono (HRas.out _ hSd) ?_
          rintro e wB ⟨v, rfl, hrow, hbB⟩
          have hSB : Below w1.heap.size w1 wB := bl_then hSd hbB
          obtain ⟨va, vc, rfl, hvc, hvn⟩ := hrow.own.pts
          have HSm2 := (show Hid _ from HSm.out wB hSB va vc hvn)
          clear hrow hvn hvc
          go_wp2_with fail
          refine hK.out _ _ hSB (fun hHeld => ?_)
          clear hK K hbB
          try simp only [Act.put, List.setIfInBounds_toArray, List.set_cons_zero, List.set_cons_succ]
          refine wpAnyH_ready (rs := [8]) (by kernel_rfl) (by simp) ?_
          refine (AllReadyH.cons rfl (fun K hK => ?_) AllReadyH.nil)
          rw [if_pos (by rfl)]
          go_simp
          refine Calls.mono HSm2.out ?_
          rintro e wC ⟨rfl, hbC⟩
          have hSC : Below w1.heap.size w1 wC := bl_then hSB hbC
          go_wp2_with fail
          refine hK.out _ _ hSC (fun hHeld => ?_)
          clear hK K hbC HSm2
          try simp only [Act.put, List.setIfInBounds_toArray, List.set_cons_zero, List.set_cons_succ]
          refine takeD (i := 9) (d := some 53) (v := ?vs9) rfl rfl (by kernel_rfl) (by kernel_rfl) (by kernel_rfl) (fun _ _ _ h => h) (Or.inl ⟨by rfl, ?hys9⟩) hSC ?_
          case hys9 => (intro w hSw; (try dsimp only at hSw); go_simp <;> with_reducible rfl)
          try simp only [Act.put, List.setIfInBounds_toArray, List.set_cons_zero, List.set_cons_succ]
          refine wpAnyH_done (by kernel_rfl) ?_ _
          refine NoPanic.normal ?_
          have HC3 : Hid (Below w.heap.size w wC) := bl_then HB1.out hSC
          have HR3 : Hid (KoAt wC b n A) := HR1.out.below hSC
          clear d4 HRas HSm hSB hSd hSC
          cases B
          · have hsc : Hid (cacheC s n A = 8) := first.out 8 ((kC_bad (by rw [tC_state hC0.out hBB.out]; decide)).trans (tC_state hC0.out hBB.out)) (by decide)
            go_wp2
            go_ret
            exact ⟨ret_int hsc.out.symm, HC3.out⟩
          · have ht0 : Hid (tC (A k) = 0) := tC_ok hC0.out hBB.out
            have HH : Hid (Calls Tryz.prog 50 #[.pointer (some ⟨q, o, none⟩), refV (A k).z (A k).x (A k).y] wC fun e w' => e = .returned (.int .i64 (atK n A (A k).z (A k).x (A k).y)) ∧ Below wC.heap.size wC w') :=
              l11At_off q o s _ n cap A _ _ _ wC (HC.out.below HC3.out) HR3.out.is hn
            obtain ⟨g0, g1, g2, g3, g4⟩ := (HR3.out.2 k HLT.out).1
            clear g3 g4
            rcases atK_self HLT.out with ⟨hq, hq2⟩ | ⟨hq, i, hik, hq2⟩
            · have hok : Hid (kC A k = 0) := kC_ok ht0.out hq
              rw [hq2] at HH
              clear hq hq2
              generalize (A k).z = rz at *
              generalize (A k).x = rx at *
              generalize (A k).y = ry at *
              go_wp2_with (go_at_call 50; refine HH.out.mono ?_; rintro e w' ⟨rfl, hb⟩)
              go_roundw
              case rel => exact ⟨k + 1, by have := HLT.out; omega, by go_num, HOK.out hok.out, bl_then HC3.out (by assumption)⟩
              case measure => have := HLT.out; simp [intOf]; omega
            · have hsc : Hid (cacheC s n A = 6) := first.out 6 (kC_taken ht0.out hq) (by decide)
              have hne : ((i : Int) == (k : Int)) = false := by simp; omega
              rw [hq2] at HH
              clear hq hq2
              generalize (A k).z = rz at *
              generalize (A k).x = rx at *
              generalize (A k).y = ry at *
              generalize (i : Int) = ii at *
              clear hik
              go_wp2_with (go_at_call 50; refine HH.out.mono ?_; rintro e w' ⟨rfl, hb⟩)
              go_ret
              exact ⟨ret_int hsc.out.symm, bl_then HC3.out (by assumption)⟩
        · have hsc : Hid (cacheC s n A = rtC (A k).z (A k).x (A k).y (A k).fn (A k).F) := first.out _ ((kC_bad (by rw [tC_ras hC]; exact hC)).trans (tC_ras hC)) hC
          have hcb : (rtC (A k).z (A k).x (A k).y (A k).fn (A k).F == 0) = false := by simpa using hC
          generalize rtC (A k).z (A k).x (A k).y (A k).fn (A k).F = rc at *
          go_wp2_with fail
          refine HL8.out.mono ?_
          rintro e w1 ⟨rfl, hb1⟩
          go_wp2
          go_ret
          exact ⟨ret_int hsc.out.symm, bl_then HB.out hb1⟩
      · have hsc : Hid (cacheC s n A = 0) := by
          show _ = _
          rw [hz.out]
          exact scan_none _ _ _ (fun j _ hj => HZ.out j (by omega))
        go_wp2
        go_ret
        exact ⟨ret_int hsc.out.symm, HB.out⟩
end Go.Proofs.YtbdhhclamgmfkaaGreat
