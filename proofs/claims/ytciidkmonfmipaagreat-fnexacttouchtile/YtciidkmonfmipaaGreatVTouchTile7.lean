/- Several texts in one. -/
import Derived.Test.YtciidkmonfmipaaGreatVTouchTile6
import Derived.Test.YtciidkmonfmipaaGreatVTouchTile5
import Derived.Test.YtciidkmonfmipaaGreatVTouchTile2
import Derived.Test.YtciidkmonfmipaaGreatVTouchTile1
import Derived.Deep.RegionHeld3
import Derived.OwnWalk
import Derived.Deep.DeepMust
import Derived.Deep.DeepCutAuto
import Derived.Test.YtciidkmonfmipaaGreatVTouchTile3
import Derived.Deep.RegionLawGrows

/- Answers with a code and a list of points: they are compared, marked, and the marks are found again. -/

namespace Go.Proofs.YtciidkmonfmipaaGreat
open Go.RowKit
set_option linter.unusedSimpArgs false
set_option linter.unusedVariables false

theorem bl_cell {w w' : World} {p : Addr} {v : Value} (hb : Below w.heap.size w w') (h : w.cell? p = some v) : w'.cell? p = some v := (hb.cell (World.block_lt_of_cell? _ _ h)).trans h
theorem gr_cell {w w' : World} {b o s : Nat} {v : Value} (hg : w.grownBy w' (some s)) (h : w.cell? ⟨b, o, none⟩ = some v) (hs : b ≠ s) : w'.cell? ⟨b, o, none⟩ = some v := hg.cell h (fun e => hs (by injection e))

end Go.Proofs.YtciidkmonfmipaaGreat
/- Rows of points beside other blocks; a block that holds a feature. -/

namespace Go.Proofs.YtciidkmonfmipaaGreat
open Go.RowKit
set_option linter.unusedSimpArgs false
set_option linter.unusedVariables false
set_option maxRecDepth 100000

theorem ownsRow_of {w w' : World} {base size n : Nat} {e : TypeId} {v : Value} {xs : List Value} (h : w.ownsRow base e size v n xs) (hk : ∀ g, v.ownBlock = some g → w'.heap[g]? = w.heap[g]?) : w'.ownsRow base e size v n xs := by
  obtain ⟨h1, h2 | ⟨g, cp, cur, hv, hg, hh, hr⟩⟩ := h
  · exact ⟨h1, .inl h2⟩
  · refine ⟨h1, .inr ⟨g, cp, cur, hv, hg, ?_, hr⟩⟩
    rw [hk g (by rw [hv]; rfl)]
    exact hh

theorem there7 (V : World) (v0 v1 v2 v3 v4 v5 v6 : Value) (t : TypeId) : There (V.alloc (.cells #[v0, v1, v2, v3, v4, v5, v6] t)) V.heap.size 7 := fun o ho => by
  refine ⟨⟨#[v0, v1, v2, v3, v4, v5, v6][o]'(by simpa using ho), ?_⟩, World.frozen?_alloc_at _ _ _ _ rfl⟩
  rw [World.cell?_alloc_at _ _ _ _ rfl]
  exact Array.getElem?_eq_getElem _
/-- Block O holds a feature with the points v. -/
def OutAt (w : World) (O : Nat) (id la ki wi : Int) (v : Value) (lab : ByteArray) (pr : Int) : Prop := w.heap[O]? = some (Obj.cells #[.int .i64 id, .int .i64 la, .int .i64 ki, .int .i64 wi, v, .string lab, .int .i64 pr] 101 (0, 0))
theorem OutAt.cells {w : World} {O : Nat} {id la ki wi pr : Int} {v : Value} {lab : ByteArray} (h : OutAt w O id la ki wi v lab pr) :
    (w.cell? ⟨O, 0, none⟩ = some (.int .i64 id) ∧ w.cell? ⟨O, 1, none⟩ = some (.int .i64 la) ∧ w.cell? ⟨O, 2, none⟩ = some (.int .i64 ki) ∧ w.cell? ⟨O, 3, none⟩ = some (.int .i64 wi) ∧ w.cell? ⟨O, 4, none⟩ = some v ∧ w.cell? ⟨O, 5, none⟩ = some (.string lab) ∧ w.cell? ⟨O, 6, none⟩ = some (.int .i64 pr)) ∧ w.frozen? ⟨O, 4, none⟩ = false := by
  unfold OutAt at h
  refine ⟨⟨?_, ?_, ?_, ?_, ?_, ?_, ?_⟩, ?_⟩ <;> simp [World.cell?, World.frozen?, h]
theorem OutAt.lt {w : World} {O : Nat} {id la ki wi pr : Int} {v : Value} {lab : ByteArray} (h : OutAt w O id la ki wi v lab pr) : O < w.heap.size := lt_of_heap h
theorem There.out {w : World} {O r n : Nat} {x : Value} (h : There w r n) (hne : O ≠ r) : There (w.setCell ⟨O, 4, none⟩ x) r n := fun o ho => by
  obtain ⟨u, hu⟩ := (h o ho).1
  exact ⟨⟨u, by rw [set1_other (fun e => hne (by injection e))]; exact hu⟩, by rw [World.frozen?_setCell]; exact (h o ho).2⟩
theorem below7 {B r : Nat} {w W : World} {v0 v1 v2 v3 v4 v5 v6 : Value} (h : Below B w W) (hr : B ≤ r) : Below B w ((((((((W.setCell ⟨r, 0, none⟩ v0).setCell ⟨r, 1, none⟩ v1).setCell ⟨r, 2, none⟩ v2).setCell ⟨r, 3, none⟩ v3).setCell ⟨r, 4, none⟩ v4).setCell ⟨r, 5, none⟩ v5).setCell ⟨r, 6, none⟩ v6)) :=
  (((((((h.setCell (p := ⟨r, 0, none⟩) hr v0).setCell (p := ⟨r, 1, none⟩) hr v1).setCell (p := ⟨r, 2, none⟩) hr v2).setCell (p := ⟨r, 3, none⟩) hr v3).setCell (p := ⟨r, 4, none⟩) hr v4).setCell (p := ⟨r, 5, none⟩) hr v5).setCell (p := ⟨r, 6, none⟩) hr v6)
theorem Row.no (base : Nat) (w : World) : Row base w (.slice none 0 0) [] := World.ownsRow_nil _ _ _ _
/-- A row that is not empty. -/
theorem Row.at {base : Nat} {w : World} {v : Value} {l : List (Int × Int)} (h : Row base w v l) (hne : 0 < l.length) :
    ∃ g cap, v = .slice (some ⟨g, 0, none⟩) l.length cap ∧ base ≤ g ∧ g < w.heap.size ∧ l.length ≤ cap ∧ PtsAt w g 0 l.length (px l) (py l) := by
  obtain ⟨a, cap, hv, hc, h0 | ⟨b, rfl, hb, hl, hp, ht⟩⟩ := h.own
  · omega
  · exact ⟨b, cap, hv, hb, hl, hc, hp⟩
end Go.Proofs.YtciidkmonfmipaaGreat
/- How much of the world a pixel has at a zoom, and its grid. -/

namespace Go.Proofs.YtciidkmonfmipaaGreat
open Go.RowKit
set_option linter.unusedSimpArgs false
set_option linter.unusedVariables false

/-- A zoom. -/
def zoomB (z : Int) : Bool := inB z 0 3
theorem zoomB_cases {z : Int} (h : zoomB z = true) : z = 0 ∨ z = 1 ∨ z = 2 ∨ z = 3 := by
  simp [zoomB, inB] at h
  omega
/-- What a pixel has of the world. -/
def unitI (z : Int) : Int := if z = 0 then 128 else if z = 1 then 64 else if z = 2 then 32 else 16
/-- The answer of UnitAt. -/
def unitV (z : Int) : Value := if zoomB z = true then .agg #[.int .i64 0, .int .i64 (unitI z)] else .agg #[.int .i64 3, .int .i64 0]

theorem isZoom_any (z : Int) (w : World) : Calls Tryz.prog 90 #[.int .i64 z] w fun e w' => e = .returned (.bool (zoomB z)) ∧ w = w' := by
  unfold zoomB
  go_enter Tryz.func90, Tryz.ntmps90
  go_wp2_with (go_at_call 88; refine (isWithin_any _ _ _ _).mono ?_; rintro e w' ⟨rfl, rfl⟩)
  go_ret
  exact ⟨rfl, rfl⟩
theorem impl_UnitAt_any (z : Int) (w : World) : Calls Tryz.prog 102 #[.int .i64 z] w fun e w' => e = .returned (unitV z) ∧ Below w.heap.size w w' := by
  cases h : zoomB z
  · go_enter Tryz.func102, Tryz.ntmps102
    go_wp2_with (go_at_call 90; refine (isZoom_any _ _).mono ?_; rintro e w' ⟨rfl, rfl⟩)
    exact bodyPost_ret (v := .agg #[.int .i64 3, .int .i64 0]) (by simp [results, Tryz.results102, go_sem]) rfl ⟨by simp [unitV, h], by (repeat (first | exact Below.refl _ _ | assumption | refine Below.drew ?_ | refine bl_alloc ?_ _ | refine bl_then ?_ (by assumption) | refine Below.setCell ?_ (by first | omega | (simp; done) | (simp; omega)) _ | refine bl_store ?_ ?_ _ _))⟩
  · rcases zoomB_cases h with rfl | rfl | rfl | rfl
    all_goals
      go_enter Tryz.func102, Tryz.ntmps102
      go_wp2_with (go_at_call 90; refine (isZoom_any _ _).mono ?_; rintro e w' ⟨rfl, rfl⟩)
      first
        | exact bodyPost_ret (v := .agg #[.int .i64 0, .int .i64 128]) (by simp [results, Tryz.results102, go_sem]; done) rfl ⟨rfl, by (repeat (first | exact Below.refl _ _ | assumption | refine Below.drew ?_ | refine bl_alloc ?_ _ | refine bl_then ?_ (by assumption) | refine Below.setCell ?_ (by first | omega | (simp; done) | (simp; omega)) _ | refine bl_store ?_ ?_ _ _))⟩
        | exact bodyPost_ret (v := .agg #[.int .i64 0, .int .i64 64]) (by simp [results, Tryz.results102, go_sem]; done) rfl ⟨rfl, by (repeat (first | exact Below.refl _ _ | assumption | refine Below.drew ?_ | refine bl_alloc ?_ _ | refine bl_then ?_ (by assumption) | refine Below.setCell ?_ (by first | omega | (simp; done) | (simp; omega)) _ | refine bl_store ?_ ?_ _ _))⟩
        | exact bodyPost_ret (v := .agg #[.int .i64 0, .int .i64 32]) (by simp [results, Tryz.results102, go_sem]; done) rfl ⟨rfl, by (repeat (first | exact Below.refl _ _ | assumption | refine Below.drew ?_ | refine bl_alloc ?_ _ | refine bl_then ?_ (by assumption) | refine Below.setCell ?_ (by first | omega | (simp; done) | (simp; omega)) _ | refine bl_store ?_ ?_ _ _))⟩
        | exact bodyPost_ret (v := .agg #[.int .i64 0, .int .i64 16]) (by simp [results, Tryz.results102, go_sem]; done) rfl ⟨rfl, by (repeat (first | exact Below.refl _ _ | assumption | refine Below.drew ?_ | refine bl_alloc ?_ _ | refine bl_then ?_ (by assumption) | refine Below.setCell ?_ (by first | omega | (simp; done) | (simp; omega)) _ | refine bl_store ?_ ?_ _ _))⟩
theorem l3Zoom_any (z : Int) (w : World) : Calls Tryz.prog 81 #[.int .i64 z] w fun e w' => e = .returned (.bool (zoomB z)) ∧ w = w' := by
  unfold zoomB
  go_enter Tryz.func81, Tryz.ntmps81
  go_wp2_with (go_at_call 49; refine (l1In_any _ _ _ _).mono ?_; rintro e w' ⟨rfl, rfl⟩)
  go_ret
  exact ⟨rfl, rfl⟩
theorem l3Unit_any (z : Int) (w : World) (h : zoomB z = true) : Calls Tryz.prog 149 #[.int .i64 z] w fun e w' => e = .returned (.int .i64 (unitI z)) ∧ w = w' := by
  rcases zoomB_cases h with rfl | rfl | rfl | rfl
  all_goals
    go_enter Tryz.func149, Tryz.ntmps149
    go_wp2
    go_ret
    exact ⟨rfl, rfl⟩
end Go.Proofs.YtciidkmonfmipaaGreat
/- The point of the grid that is nearest. -/

namespace Go.Proofs.YtciidkmonfmipaaGreat
open Go.RowKit
set_option linter.unusedSimpArgs false
set_option linter.unusedVariables false

theorem inW_bd {x y : Int} (h : inW x y = true) : (0 ≤ x ∧ x ≤ 1024) ∧ (0 ≤ y ∧ y ≤ 1024) := by
  simp [inW, inB] at h
  omega
/-- Three stores into one block, read back. -/
theorem set3_at {W : World} {r : Nat} {a b c : Value} (hT : There W r 3) :
    (((W.setCell ⟨r, 0, none⟩ a).setCell ⟨r, 1, none⟩ b).setCell ⟨r, 2, none⟩ c).cell? ⟨r, 0, none⟩ = some a ∧
    (((W.setCell ⟨r, 0, none⟩ a).setCell ⟨r, 1, none⟩ b).setCell ⟨r, 2, none⟩ c).cell? ⟨r, 1, none⟩ = some b ∧
    (((W.setCell ⟨r, 0, none⟩ a).setCell ⟨r, 1, none⟩ b).setCell ⟨r, 2, none⟩ c).cell? ⟨r, 2, none⟩ = some c := by
  obtain ⟨x0, h0⟩ := (hT 0 (by omega)).1
  obtain ⟨x1, h1⟩ := (hT 1 (by omega)).1
  obtain ⟨x2, h2⟩ := (hT 2 (by omega)).1
  have ne : ∀ i j : Nat, i ≠ j → (⟨r, i, none⟩ : Addr) ≠ ⟨r, j, none⟩ := fun i j hij h => hij (by injection h)
  refine ⟨?_, ?_, ?_⟩
  · rw [set1_other (ne 2 0 (by omega)), set1_other (ne 1 0 (by omega))]; exact set1_same h0
  · rw [set1_other (ne 2 1 (by omega))]; exact set1_same (by rw [set1_other (ne 0 1 (by omega))]; exact h1)
  · exact set1_same (by rw [set1_other (ne 1 2 (by omega)), set1_other (ne 0 2 (by omega))]; exact h2)
theorem there3 (V : World) (a b c : Value) (t : TypeId) : There (V.alloc (.cells #[a, b, c] t)) V.heap.size 3 := fun o ho => by
  refine ⟨⟨#[a, b, c][o]'(by simpa using ho), ?_⟩, World.frozen?_alloc_at _ _ _ _ rfl⟩
  rw [World.cell?_alloc_at _ _ _ _ rfl]
  exact Array.getElem?_eq_getElem _

theorem there2 (V : World) (a b : Value) (t : TypeId) : There (V.alloc (.cells #[a, b] t)) V.heap.size 2 := fun o ho => by
  refine ⟨⟨#[a, b][o]'(by simpa using ho), ?_⟩, World.frozen?_alloc_at _ _ _ _ rfl⟩
  rw [World.cell?_alloc_at _ _ _ _ rfl]
  exact Array.getElem?_eq_getElem _

end Go.Proofs.YtciidkmonfmipaaGreat
/- A list of points is snapped: the program's and the model's way. -/

namespace Go.Proofs.YtciidkmonfmipaaGreat
open Go.RowKit
set_option linter.unusedSimpArgs false
set_option linter.unusedVariables false

theorem info_pt : (Tryz.prog.info? 119).map (fun i => (i.zero, i.size, i.bytes)) = some (some (.agg #[.int .i64 0, .int .i64 0]), 2, 16) := by kernel_rfl
end Go.Proofs.YtciidkmonfmipaaGreat
/- The model's SnapAll. -/

namespace Go.Proofs.YtciidkmonfmipaaGreat
open Go.RowKit
set_option linter.unusedSimpArgs false
set_option linter.unusedVariables false

end Go.Proofs.YtciidkmonfmipaaGreat
/- An append to a row of the call's own, as one step of a region that draws its order. -/

namespace Go.Proofs.YtciidkmonfmipaaGreat
open Go

theorem step_append_own {P : Program} {ops : Array Oper} {o : Oper} {a : Act} {w : World} {K : Act → World → Prop} {Q : Exit → Act → World → Prop} {E : Prop}
    (hg : o.guard = none) (s x : Operand) (t : TypeId) (hop : o.op = Op.call { callee := Callee.builtin Builtin.append, args := #[s, x], argTypes := #[t, t] })
    (base : Nat) (e : TypeId) (i : TypeInfo) (z : Value) (size bytes : Nat) (h1 : P.underlying t = some (.slice e)) (h2 : P.info? e = some i) (h3 : i.zero = some z) (h4 : i.size = size) (h5 : i.bytes = bytes) (h6 : z.cells.size = size) (h7 : 0 < size)
    (v : Value) (n : Nat) (xs : List Value) (hs : a.eval s = v) (hown : w.ownsRow base e size v n xs)
    (ad : Addr) (m c : Nat) (news : List Value) (hx : a.eval x = .slice (some ad) m c) (hn : news.length = m * size) (hc : ∀ j u, news[j]? = some u → w.cell? (ad.add j) = some u) (h1c : ∀ u ∈ news, u.oneCell' = true)
    (b1 : n + m ≤ maxLen) (b2 : (n + m) * bytes ≤ 140737488355328) (hbase : base ≤ w.heap.size)
    (hK : ∀ v' w', w'.ownsRow base e size v' (n + m) (xs ++ news) → w.grownBy w' v.ownBlock → (v' = .slice none 0 0 ↔ v = .slice none 0 0 ∧ m = 0) → K (a.put o.dst v') w') :
    if Region.wanted o (yielded ops a.tmps) = true then Oper.wp P o a w K Q else E := by
  have hw : Region.wanted o (yielded ops a.tmps) = true := by simp [Region.wanted, hg]
  rw [if_pos hw]
  obtain ⟨v', w', hrun, r1, r2, r3⟩ := run_append_own (P := P) w base t o.type e i z size bytes h1 h2 h3 h4 h5 h6 h7 v n xs hown ad m c news hn hc h1c b1 b2 hbase
  unfold Oper.wp
  simp [execOp, hop, resolve, invoke, builtin, hs, hx, hrun, Result.andThen]
  exact hK v' w' r1 r2 r3
end Go.Proofs.YtciidkmonfmipaaGreat
/- Points, doubled: the program and the model. -/

namespace Go.Proofs.YtciidkmonfmipaaGreat
open Go.RowKit
set_option linter.unusedSimpArgs false
set_option linter.unusedVariables false
set_option maxRecDepth 100000

/-- Points, doubled. -/
def dblL (X Y : Nat → Int) (n : Nat) : List (Int × Int) := (List.range n).map fun i => (2 * X i, 2 * Y i)
theorem dblL_len (X Y : Nat → Int) (n : Nat) : (dblL X Y n).length = n := by simp [dblL]
theorem dblL_add (X Y : Nat → Int) (k : Nat) : dblL X Y (k + 1) = dblL X Y k ++ [(2 * X k, 2 * Y k)] := by simp [dblL, List.range_succ]
theorem dblL_px (X Y : Nat → Int) (n i : Nat) (h : i < n) : px (dblL X Y n) i = 2 * X i ∧ py (dblL X Y n) i = 2 * Y i := by
  simp [px, py, dblL, List.getD_eq_getElem?_getD, h]

set_option maxHeartbeats 4000000 in
theorem l4Doubled_any (b off n cap : Nat) (X Y : Nat → Int) (w : World) (hp : PtsAt w b off n X Y) (hbl : b < w.heap.size) (hn : n ≤ 40) (hin : ∀ i, i < n → inW (X i) (Y i) = true) :
    Calls Tryz.prog 135 #[.slice (some ⟨b, off, none⟩) n cap] w fun e w' => ∃ v, e = .returned v ∧ Row w.heap.size w' v (dblL X Y n) ∧ Below w.heap.size w w' := by
  obtain ⟨i0, hi, hz0, hz1, hz2⟩ := info_parts info_pt
  have HP : Hid (PtsAt w b off n X Y) := hp
  have HIN : Hid (∀ i, i < n → inW (X i) (Y i) = true) := hin
  clear hp hin
  go_enter Tryz.func135, Tryz.ntmps135
  go_wp2_with fail
  generalize hW : (w.alloc _ : World) = W
  have hB0 : Below w.heap.size w W := by subst hW; (repeat (first | exact Below.refl _ _ | assumption | refine Below.drew ?_ | refine bl_alloc ?_ _ | refine bl_then ?_ (by assumption) | refine Below.setCell ?_ (by first | omega | (simp; done) | (simp; omega)) _ | refine bl_store ?_ ?_ _ _))
  have hO0 : W.ownsRow w.heap.size 119 2 (.slice (some ⟨w.heap.size, 0, none⟩) 0 0) 0 [] := by
    subst hW
    exact World.ownsRow_lit (base := w.heap.size) w #[] 0 (Nat.le_refl _) (Nat.zero_le _) rfl
  clear hW
  have HB0 : Hid (Below w.heap.size w W) := hB0
  have HO0 : Hid (Row w.heap.size W (.slice (some ⟨w.heap.size, 0, none⟩) 0 0) []) := hO0
  clear hB0 hO0
  go_loopw [3, 4] (fun v i wr => ∃ k : Nat, k ≤ n ∧ i = .int .i64 (k : Int) ∧ Row w.heap.size wr v (dblL X Y k) ∧ Below w.heap.size w wr) (fun _ i _ => n - (intOf i).toNat)
  case atStart => exact ⟨0, by omega, rfl, HO0.out, HB0.out⟩
  case round =>
    obtain ⟨k, hk, rfl, hO, hB⟩ := hrel
    by_cases hlt : k < n
    · obtain ⟨hx, hy⟩ := (HP.out.below hB hbl) k hlt
      obtain ⟨⟨x0, x1⟩, y0, y1⟩ := inW_bd (HIN.out k hlt)
      have HB : Hid (Below w.heap.size w wr) := hB
      have HO : Hid (Row w.heap.size wr u3 (dblL X Y k)) := hO
      have hbw : b < wr.heap.size := Nat.lt_of_lt_of_le hbl hB.size
      have hszc : w.heap.size ≤ wr.heap.size := hB.size
      have HLEN : Hid ((dblL X Y k).length = k) := dblL_len X Y k
      have HS : Hid (dblL X Y (k + 1) = dblL X Y k ++ [(2 * X k, 2 * Y k)]) := dblL_add X Y k
      clear hO hB
      have hi' : (k : Int) < (n : Int) := by omega
      have wx : IntKind.i64.wrap (2 * X k) = 2 * X k := IntWalk.i64_in _ (by omega)
      have wy : IntKind.i64.wrap (2 * Y k) = 2 * Y k := IntWalk.i64_in _ (by omega)
      go_wp2_with fail
      go_region_law (refine step_append_own rfl (.tmp 12) (.tmp 26) 99 rfl w.heap.size 119 i0 (.agg #[.int .i64 0, .int .i64 0]) 2 16 Tryz.underlying99 hi hz0 hz1 hz2 rfl (by decide) u3 (dblL X Y k).length (cellsL (dblL X Y k)) rfl ?own ⟨wr.heap.size, 0, none⟩ 1 1 [.int .i64 (2 * X k), .int .i64 (2 * Y k)] rfl rfl ?c1 ?c2 ?c3 ?c4 ?c5 ?_
                     case own => exact World.ownsRow.alloc HO.out _
                     case c1 =>
                       intro q u hq
                       match q, hq with
                       | 0, hq => simp at hq; subst hq; simp [Addr.add, go_sem]
                       | 1, hq => simp at hq; subst hq; simp [Addr.add, go_sem]
                       | q + 2, hq => simp at hq
                     case c2 => intro u hu; simp at hu; rcases hu with rfl | rfl <;> rfl
                     case c3 => have := HLEN.out; unfold maxLen; omega
                     case c4 => have := HLEN.out; omega
                     case c5 => first | omega | (simp; omega)
                     intro v' w3 hown' hgrow hnil
                     clear hnil
                     have hBV : Below wr.heap.size wr (World.alloc (World.drew wr) (.cells #[.int .i64 (2 * X k), .int .i64 (2 * Y k)] 119)) := by (repeat (first | exact Below.refl _ _ | assumption | refine Below.drew ?_ | refine bl_alloc ?_ _ | refine bl_then ?_ (by assumption) | refine Below.setCell ?_ (by first | omega | (simp; done) | (simp; omega)) _ | refine bl_store ?_ ?_ _ _))
                     have hBg : Below w.heap.size (World.alloc (World.drew wr) (.cells #[.int .i64 (2 * X k), .int .i64 (2 * Y k)] 119)) w3 := (Below.refl _ _).grown hgrow (by have := hBV.size; omega) (fun k hk => (HO.out.lt k hk).1)
                     have HB3 : Hid (Below w.heap.size w w3) := (HB.out.trans (hBV.mono hszc)).trans hBg
                     have HO3 : Hid (Row w.heap.size w3 v' (dblL X Y (k + 1))) := (by
                       show Row _ _ _ _
                       rw [HS.out]
                       show World.ownsRow _ _ _ _ _ _ _
                       rw [cellsL_add, List.length_append]
                       exact hown')
                     clear hown' hgrow hBg hBV)
      all_goals
        go_wp2_with fail
        go_roundw
        case rel => exact ⟨k + 1, by omega, by go_num, HO3.out, HB3.out⟩
        case measure => simp [intOf]; omega
    · go_wp2
      go_ret
      have hkn : k = n := by omega
      subst hkn
      exact ⟨_, rfl, hO, hB⟩
set_option maxHeartbeats 4000000 in
theorem doubled_any (b off n cap : Nat) (X Y : Nat → Int) (w : World) (hp : PtsAt w b off n X Y) (hbl : b < w.heap.size) (hn : n ≤ 40) (hin : ∀ i, i < n → inW (X i) (Y i) = true) :
    Calls Tryz.prog 96 #[.slice (some ⟨b, off, none⟩) n cap] w fun e w' => ∃ v, e = .returned v ∧ Row w.heap.size w' v (dblL X Y n) ∧ Below w.heap.size w w' := by
  obtain ⟨i0, hi, hz0, hz1, hz2⟩ := info_parts info_pt
  have HP : Hid (PtsAt w b off n X Y) := hp
  have HIN : Hid (∀ i, i < n → inW (X i) (Y i) = true) := hin
  clear hp hin
  go_enter Tryz.func96, Tryz.ntmps96
  go_wp2_with fail
  go_loopw [3, 8] (fun v i wr => ∃ k : Nat, k ≤ n ∧ i = .int .i64 (k : Int) ∧ Row w.heap.size wr v (dblL X Y k) ∧ Below w.heap.size w wr) (fun _ i _ => n - (intOf i).toNat)
  case atStart => exact ⟨0, by omega, rfl, Row.no _ _, Below.refl _ _⟩
  case round =>
    obtain ⟨k, hk, rfl, hO, hB⟩ := hrel
    by_cases hlt : k < n
    · obtain ⟨hx, hy⟩ := (HP.out.below hB hbl) k hlt
      obtain ⟨⟨x0, x1⟩, y0, y1⟩ := inW_bd (HIN.out k hlt)
      have HB : Hid (Below w.heap.size w wr) := hB
      have HO : Hid (Row w.heap.size wr u3 (dblL X Y k)) := hO
      have hbw : b < wr.heap.size := Nat.lt_of_lt_of_le hbl hB.size
      have hszc : w.heap.size ≤ wr.heap.size := hB.size
      have HLEN : Hid ((dblL X Y k).length = k) := dblL_len X Y k
      have HS : Hid (dblL X Y (k + 1) = dblL X Y k ++ [(2 * X k, 2 * Y k)]) := dblL_add X Y k
      clear hO hB
      have hi' : (k : Int) < (n : Int) := by omega
      go_wp2_with (first
        | (at_builtin; go_must (refine wpList_append_own _ rfl _ _ 99 rfl w.heap.size 119 i0 (.agg #[.int .i64 0, .int .i64 0]) 2 16 Tryz.underlying99 hi hz0 hz1 hz2 rfl (by decide) _ (dblL X Y k).length (cellsL (dblL X Y k)) rfl (World.ownsRow.alloc (World.ownsRow.alloc HO.out _) _) ⟨wr.heap.size + 1, 0, none⟩ 1 1 [.int .i64 (2 * X k), .int .i64 (2 * Y k)] rfl rfl ?c1 ?c2 ?c3 ?c4 ?c5 ?_)))
      try (case c1 =>
        intro q u hq
        match q, hq with
        | 0, hq => simp at hq; subst hq; simp [Addr.add, go_sem]
        | 1, hq => simp at hq; subst hq; simp [Addr.add, go_sem]
        | q + 2, hq => simp at hq)
      case c2 => first | (intro u hu; simp at hu; rcases hu with rfl | rfl <;> rfl) | exact ⟨rfl, rfl⟩
      case c3 => have := HLEN.out; unfold maxLen; omega
      case c4 => have := HLEN.out; omega
      case c5 => first | omega | (simp; omega)
      intro v' w3 hown' hgrow hnil
      clear hnil
      generalize hV : ((wr.alloc _).alloc _ : World) = V at hgrow
      have hBV : Below wr.heap.size wr V := by subst hV; (repeat (first | exact Below.refl _ _ | assumption | refine Below.drew ?_ | refine bl_alloc ?_ _ | refine bl_then ?_ (by assumption) | refine Below.setCell ?_ (by first | omega | (simp; done) | (simp; omega)) _ | refine bl_store ?_ ?_ _ _))
      have hBg : Below w.heap.size V w3 := (Below.refl _ _).grown hgrow (by have := hBV.size; omega) (fun k hk => (HO.out.lt k hk).1)
      have HB3 : Hid (Below w.heap.size w w3) := (HB.out.trans (hBV.mono hszc)).trans hBg
      have HO3 : Hid (Row w.heap.size w3 v' (dblL X Y (k + 1))) := by
        show Row _ _ _ _
        rw [HS.out]
        show World.ownsRow _ _ _ _ _ _ _
        rw [cellsL_add, List.length_append]
        exact hown'
      clear hown' hgrow hBg hBV hV
      go_wp2
      go_roundw
      case rel => exact ⟨k + 1, by omega, by go_num, HO3.out, HB3.out⟩
      case measure => simp [intOf]; omega
    · go_wp2
      go_ret
      have hkn : k = n := by omega
      subst hkn
      exact ⟨_, rfl, hO, hB⟩
end Go.Proofs.YtciidkmonfmipaaGreat
