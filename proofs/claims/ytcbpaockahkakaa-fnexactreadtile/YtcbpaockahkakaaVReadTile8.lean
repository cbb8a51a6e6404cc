/- Several texts in one. -/
import Derived.Test.YtcbpaockahkakaaVReadTile1
import Derived.Deep.RegionHeld3
import Derived.Test.YtcbpaockahkakaaVReadTile2
import Derived.Test.YtcbpaockahkakaaVReadTile4
import Derived.Test.YtcbpaockahkakaaVReadTile5
import Derived.Test.YtcbpaockahkakaaVReadTile7
import Derived.OwnWalk
import Derived.Deep.DeepMust
import Derived.Deep.DeepCutAuto

/- A region that draws its order, whose last operation alone writes what the others read: a law of our own. -/

namespace Go.Proofs.Ytcbpaockahkakaa
open Go.RowKit

section
variable {P : Program} {ops : Array Oper} {Q : Exit → Act → World → Prop} {md : Region.Mode} {S : World → Prop} {z : Nat}

/-- Whatever order is picked from here on; S holds behind every operation that is carried out but number z. -/
def wpAnyL (P : Program) (md : Region.Mode) (ops : Array Oper) (Q : Exit → Act → World → Prop) (S : World → Prop) (z : Nat) : Nat → Array Bool → Act → World → Prop
  | 0, listed, a, w => Region.ready md ops listed = [] ∧ Q .normal a w
  | fuel + 1, listed, a, w =>
    (Region.ready md ops listed = [] → Q .normal a w) ∧
    ∀ i ∈ Region.ready md ops listed, wpOp P ops Q i (fun a' w' => (i ≠ z → S w') ∧ wpAnyL P md ops Q S z fuel (listed.setIfInBounds i true) a' w') a w

theorem wpAny_of_L : ∀ (fuel : Nat) (listed : Array Bool) (a : Act) (w : World), wpAnyL P md ops Q S z fuel listed a w → wpAny P md ops Q fuel listed a w
  | 0, _, _, _, h => h
  | fuel + 1, _, _, _, h => ⟨h.1, fun i hi => wpOp_mono (fun a' w' h' => wpAny_of_L fuel _ a' w' h'.2) (h.2 i hi)⟩

/-- Number z waits for number i. -/
def waitsFor (md : Region.Mode) (ops : Array Oper) (z i : Nat) : Bool := ((ops[z]?).map (·.after.any fun e => Region.binds md e && (e.on == i))).getD false
theorem not_ready {i : Nat} {listed : Array Bool} (hw : waitsFor md ops z i = true) (hi : listed.getD i true = false) : ¬ z ∈ Region.ready md ops listed := by
  intro hz
  obtain ⟨_, oz, hoz, hall⟩ := mem_ready.1 hz
  unfold waitsFor at hw
  rw [hoz] at hw
  simp only [Option.map_some, Option.getD_some, Array.any_eq_true] at hw
  obtain ⟨k, hk, he⟩ := hw
  rw [Bool.and_eq_true, beq_iff_eq] at he
  have h1 := hall _ (Array.getElem_mem hk) he.1
  rw [he.2] at h1
  rcases Nat.lt_or_ge i listed.size with h' | h'
  · simp [h'] at hi h1; rw [hi] at h1; cases h1
  · simp [Array.getElem?_eq_none h'] at h1

theorem wpAnyL_first {i : Nat} {oi : Oper} {v : Value} (hi : ops[i]? = some oi) (hsel : ∀ (j : Nat) (o : Oper) cs b, ops[j]? = some o → o.op ≠ .select cs b)
    (hQ : ∀ c a w, Q (.panic c) (a.put oi.dst v) w → Q (.panic c) a w) (hwz : waitsFor md ops z i = true) :
    ∀ (fuel : Nat) (listed : Array Bool) (a : Act) (w : World),
      (∀ j oj, ops[j]? = some oj → j ≠ i → listed.getD j true = false → (∀ e ∈ oj.after, Region.binds md e = true → e.on ≠ i) → oi.apart ops oj = true) →
      i ∈ Region.ready md ops listed → YieldsIf P ops S oi v a → S w →
      wpAnyL P md ops Q S z fuel (listed.setIfInBounds i true) (a.put oi.dst v) w → wpAnyL P md ops Q S z (fuel + 1) listed a w := by
  intro fuel
  induction fuel with
  | zero =>
    intro listed a w _ hr hy hS H
    refine ⟨fun h => (by rw [h] at hr; cases hr), fun j hj => ?_⟩
    by_cases hji : j = i
    · subst hji; exact hy.wpOp hi hS ⟨fun _ => hS, H⟩
    · have := ready_mono hj hji
      rw [H.1] at this
      cases this
  | succ fuel ih =>
    intro listed a w hfree hr hy hS H
    refine ⟨fun h => (by rw [h] at hr; cases hr), fun j hj => ?_⟩
    by_cases hji : j = i
    · subst hji; exact hy.wpOp hi hS ⟨fun _ => hS, H⟩
    · have hjz : j ≠ z := fun e => not_ready hwz (mem_ready.1 hr).1 (e ▸ hj)
      have h1 := H.2 j (ready_mono hj hji)
      obtain ⟨hjun, oj, hoj, hall⟩ := mem_ready.1 hj
      have hnot : ∀ e ∈ oj.after, Region.binds md e = true → e.on ≠ i := fun e he hb heq => by
        have h1 := hall e he hb
        have h0 := (mem_ready.1 hr).1
        rw [heq] at h1
        rcases Nat.lt_or_ge i listed.size with h' | h'
        · simp [h'] at h0 h1; rw [h0] at h1; cases h1
        · simp [Array.getElem?_eq_none h'] at h1
      have h2 := wpOp_putIf hoj (hfree j oj hoj hji hjun hnot) (fun cs b => hsel i oi cs b hi) (fun cs b => hsel j oj cs b hoj) hQ hy h1
      have hfree' : ∀ k ok, ops[k]? = some ok → k ≠ i → (listed.setIfInBounds j true).getD k true = false →
          (∀ e ∈ ok.after, Region.binds md e = true → e.on ≠ i) → oi.apart ops ok = true := fun k ok hk hki hun hno => by
        refine hfree k ok hk hki ?_ hno
        by_cases hjk : j = k
        · subst hjk; exact hjun
        · rw [getD_set_ne true hjk] at hun; exact hun
      refine wpOp_mono (fun a' w' h3 => ⟨h3.2.1, ih (listed.setIfInBounds j true) a' w' hfree' (ready_mono hr (Ne.symm hji)) h3.1 (h3.2.1 hjz) ?_⟩) h2
      rw [Array.setIfInBounds_comm _ _ hji]
      exact h3.2.2

theorem wpAnyL_take {i : Nat} {oi : Oper} {v : Value} {fuel : Nat} {listed : Array Bool} {a : Act} {w : World} (hi : ops[i]? = some oi)
    (hs : Region.noSelect ops = true) (hf : Region.free md ops listed i = true) (hr : (Region.ready md ops listed).contains i = true) (hwz : waitsFor md ops z i = true)
    (hQ : ∀ c a w, Q (.panic c) (a.put oi.dst v) w → Q (.panic c) a w) (hy : YieldsIf P ops S oi v a) (hS : S w)
    (h : wpAnyL P md ops Q S z fuel (listed.setIfInBounds i true) (a.put oi.dst v) w) : wpAnyL P md ops Q S z (fuel + 1) listed a w :=
  wpAnyL_first hi (Region.noSelect_spec hs) hQ hwz fuel listed a w (Region.free_spec hi hf) (by simpa using hr) hy hS h

/-- One alone may come up. -/
theorem wpAnyL_one {i : Nat} {o : Oper} {fuel : Nat} {listed : Array Bool} {a : Act} {w : World} (hr : Region.ready md ops listed = [i]) (ho : ops[i]? = some o)
    (h : ∀ K' : Act → World → Prop, Shut (∀ a w, (i ≠ z → S w) → wpAnyL P md ops Q S z fuel (listed.setIfInBounds i true) a w → K' a w) → if Region.wanted o (yielded ops a.tmps) = true then Oper.wp P o a w K' Q else K' (a.put o.dst undef) w) :
    wpAnyL P md ops Q S z (fuel + 1) listed a w := by
  refine ⟨fun h0 => (by rw [hr] at h0; cases h0), fun j hj => ?_⟩
  rw [hr] at hj
  obtain rfl : j = i := by simpa using hj
  exact wpOp_step ho (fun K' hK => h K' (fun a w hS hW => hK a w ⟨hS, hW⟩))

theorem wpAnyL_done {listed : Array Bool} {a : Act} {w : World} (hr : Region.ready md ops listed = []) (h : Q .normal a w) :
    ∀ fuel, wpAnyL P md ops Q S z fuel listed a w
  | 0 => ⟨hr, h⟩
  | _ + 1 => ⟨fun _ => h, by rw [hr]; simp⟩

theorem wp_region_L {id : Nat} {a : Act} {w : World} (hm : P.follows .mixedOrders = true)
    (h : wpAnyL P .any ops Q S z ops.size (Array.replicate ops.size false) a w.drew) : (Code.region id ops true).wp P Q a w :=
  wp_region_any hm (wpAny_of_L _ _ _ _ h)
end
end Go.Proofs.Ytcbpaockahkakaa
/- How much of the world a pixel has at a zoom, and its grid. -/

namespace Go.Proofs.Ytcbpaockahkakaa
open Go.RowKit
set_option linter.unusedSimpArgs false
set_option linter.unusedVariables false

/-- A zoom. -/
def zoomB (z : Int) : Bool := inB z 0 3
theorem zoomB_cases {z : Int} (h : zoomB z = true) : z = 0 ∨ z = 1 ∨ z = 2 ∨ z = 3 := by
  simp [zoomB, inB] at h
  omega
/-- What a pixel has of the world. -/
def unitI (z : Int) : Int := if z = 0 then 128 else if z = 1 then 64 else if z = 2 then 32 else 16
/-- The answer of UnitAt. -/
def unitV (z : Int) : Value := if zoomB z = true then .agg #[.int .i64 0, .int .i64 (unitI z)] else .agg #[.int .i64 3, .int .i64 0]

theorem isZoom_any (z : Int) (w : World) : Calls Try.prog 83 #[.int .i64 z] w fun e w' => e = .returned (.bool (zoomB z)) ∧ w = w' := by
  unfold zoomB
  go_enter Try.func83, Try.ntmps83
  go_wp2_with (go_at_call 84; refine (isWithin_any _ _ _ _).mono ?_; rintro e w' ⟨rfl, rfl⟩)
  go_ret
  exact ⟨rfl, rfl⟩
theorem l3Zoom_any (z : Int) (w : World) : Calls Try.prog 81 #[.int .i64 z] w fun e w' => e = .returned (.bool (zoomB z)) ∧ w = w' := by
  unfold zoomB
  go_enter Try.func81, Try.ntmps81
  go_wp2_with (go_at_call 82; refine (l1In_any _ _ _ _).mono ?_; rintro e w' ⟨rfl, rfl⟩)
  go_ret
  exact ⟨rfl, rfl⟩
end Go.Proofs.Ytcbpaockahkakaa
/- The point of the grid that is nearest. -/

namespace Go.Proofs.Ytcbpaockahkakaa
open Go.RowKit
set_option linter.unusedSimpArgs false
set_option linter.unusedVariables false

/-- The grid of a zoom. -/
def gridI (z : Int) : Int := if z = 0 then 32 else if z = 1 then 16 else if z = 2 then 8 else 4
/-- The nearest multiple of the grid. -/
def snapI (z v : Int) : Int := (v + gridI z / 2) / gridI z * gridI z
/-- The answer of SnapPoint. -/
def snapV (x y z : Int) : Value := if (zoomB z && inW x y) = true then .agg #[.int .i64 0, .int .i64 (snapI z x), .int .i64 (snapI z y)] else .agg #[.int .i64 3, .int .i64 0, .int .i64 0]
theorem inW_bd {x y : Int} (h : inW x y = true) : (0 ≤ x ∧ x ≤ 1024) ∧ (0 ≤ y ∧ y ≤ 1024) := by
  simp [inW, inB] at h
  omega
theorem inW_ok {x y : Int} (h : inW x y = true) : okP x y = true := by
  rw [okP_iff]
  have := inW_bd h
  omega
theorem tdiv_nn {a b : Int} (h : 0 ≤ a) : a.tdiv b = a / b := Int.tdiv_eq_ediv_of_nonneg h

theorem unit_bd {z : Int} (h : zoomB z = true) : 0 ≤ unitI z ∧ unitI z ≤ 128 ∧ unitI z / 4 = gridI z := by
  rcases zoomB_cases h with rfl | rfl | rfl | rfl <;> decide
/-- Three stores into one block, read back. -/
theorem set3_at {W : World} {r : Nat} {a b c : Value} (hT : There W r 3) :
    (((W.setCell ⟨r, 0, none⟩ a).setCell ⟨r, 1, none⟩ b).setCell ⟨r, 2, none⟩ c).cell? ⟨r, 0, none⟩ = some a ∧
    (((W.setCell ⟨r, 0, none⟩ a).setCell ⟨r, 1, none⟩ b).setCell ⟨r, 2, none⟩ c).cell? ⟨r, 1, none⟩ = some b ∧
    (((W.setCell ⟨r, 0, none⟩ a).setCell ⟨r, 1, none⟩ b).setCell ⟨r, 2, none⟩ c).cell? ⟨r, 2, none⟩ = some c := by
  obtain ⟨x0, h0⟩ := (hT 0 (by omega)).1
  obtain ⟨x1, h1⟩ := (hT 1 (by omega)).1
  obtain ⟨x2, h2⟩ := (hT 2 (by omega)).1
  have ne : ∀ i j : Nat, i ≠ j → (⟨r, i, none⟩ : Addr) ≠ ⟨r, j, none⟩ := fun i j hij h => hij (by injection h)
  refine ⟨?_, ?_, ?_⟩
  · rw [set1_other (ne 2 0 (by omega)), set1_other (ne 1 0 (by omega))]; exact set1_same h0
  · rw [set1_other (ne 2 1 (by omega))]; exact set1_same (by rw [set1_other (ne 0 1 (by omega))]; exact h1)
  · exact set1_same (by rw [set1_other (ne 1 2 (by omega)), set1_other (ne 0 2 (by omega))]; exact h2)
theorem there3 (V : World) (a b c : Value) (t : TypeId) : There (V.alloc (.cells #[a, b, c] t)) V.heap.size 3 := fun o ho => by
  refine ⟨⟨#[a, b, c][o]'(by simpa using ho), ?_⟩, World.frozen?_alloc_at _ _ _ _ rfl⟩
  rw [World.cell?_alloc_at _ _ _ _ rfl]
  exact Array.getElem?_eq_getElem _

theorem there2 (V : World) (a b : Value) (t : TypeId) : There (V.alloc (.cells #[a, b] t)) V.heap.size 2 := fun o ho => by
  refine ⟨⟨#[a, b][o]'(by simpa using ho), ?_⟩, World.frozen?_alloc_at _ _ _ _ rfl⟩
  rw [World.cell?_alloc_at _ _ _ _ rfl]
  exact Array.getElem?_eq_getElem _

end Go.Proofs.Ytcbpaockahkakaa
/- A list of points is snapped: the program's and the model's way. -/

namespace Go.Proofs.Ytcbpaockahkakaa
open Go.RowKit
set_option linter.unusedSimpArgs false
set_option linter.unusedVariables false

/-- The first n points, snapped; of those that are alike behind one another the first one. -/
def snapL (X Y : Nat → Int) (z : Int) : Nat → List (Int × Int)
  | 0 => []
  | k + 1 => if (snapL X Y z k).getLast? = some (snapI z (X k), snapI z (Y k)) then snapL X Y z k else snapL X Y z k ++ [(snapI z (X k), snapI z (Y k))]
theorem snapL_len (X Y : Nat → Int) (z : Int) : ∀ n, (snapL X Y z n).length ≤ n
  | 0 => Nat.le_refl _
  | k + 1 => by
    have := snapL_len X Y z k
    unfold snapL
    split
    · omega
    · simp; omega
theorem info_pt : (Try.prog.info? 114).map (fun i => (i.zero, i.size, i.bytes)) = some (some (.agg #[.int .i64 0, .int .i64 0]), 2, 16) := by kernel_rfl
/-- The last point of a row. -/
theorem Row.last {base : Nat} {w : World} {v : Value} {l : List (Int × Int)} (h : Row base w v l) (hne : 0 < l.length) :
    ∃ g cap x y, v = .slice (some ⟨g, 0, none⟩) l.length cap ∧ base ≤ g ∧ g < w.heap.size ∧ l.length ≤ cap ∧ l.getLast? = some (x, y) ∧ w.cell? ⟨g, (l.length - 1) * 2, none⟩ = some (.int .i64 x) ∧ w.cell? ⟨g, (l.length - 1) * 2 + 1, none⟩ = some (.int .i64 y) := by
  obtain ⟨a, cap, hv, hc, h0 | ⟨b, rfl, hb, hl, hp, ht⟩⟩ := h.own
  · omega
  · obtain ⟨e1, e2⟩ := hp (l.length - 1) (by omega)
    simp only [Nat.zero_add] at e1 e2
    refine ⟨b, cap, px l (l.length - 1), py l (l.length - 1), hv, hb, hl, hc, ?_, e1, e2⟩
    rw [List.getLast?_eq_getElem?, List.getElem?_eq_getElem (by omega)]
    simp [px, py, List.getD_eq_getElem?_getD, List.getElem?_eq_getElem (show l.length - 1 < l.length by omega)]

end Go.Proofs.Ytcbpaockahkakaa
