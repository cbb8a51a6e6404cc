/- Several texts in one. -/
import Derived.Test.YtchofahdcohibaaGreatVPaints2
import Derived.Test.YtchofahdcohibaaGreatVPaints8
import Derived.Test.YtchofahdcohibaaGreatVPaints6
import Derived.Test.YtchofahdcohibaaGreatVPaints7
import Derived.Deep.DeepCutAuto
import Derived.Test.YtchofahdcohibaaGreatVPaints1
import Derived.Deep.RegionHeld3
import Derived.Deep.RegionLawGrows
import Derived.OwnWalk

/- szPointS counts the points. -/

namespace Go.Proofs.YtchofahdcohibaaGreat
open Go.RowKit
set_option linter.unusedSimpArgs false
set_option linter.unusedVariables false
end Go.Proofs.YtchofahdcohibaaGreat
/- The law of FeatureFault: what it calls besides. -/

namespace Go.Proofs.YtchofahdcohibaaGreat
open Go.RowKit
set_option linter.unusedSimpArgs false
set_option linter.unusedVariables false
set_option maxRecDepth 100000

/-- The value of a feature. -/
abbrev featV (id la ki wi : Int) (pts : Value) (lab : ByteArray) (pr : Int) : Value := .agg #[.int .i64 id, .int .i64 la, .int .i64 ki, .int .i64 wi, pts, .string lab, .int .i64 pr]

theorem PtsAt.store {W : World} {b off n : Nat} {X Y : Nat → Int} (h : PtsAt W b off n X Y) {r o : Nat} {v : Value} (hne : r ≠ b) : PtsAt (W.setCell ⟨r, o, none⟩ v) b off n X Y := fun i hi => by
  obtain ⟨h1, h2⟩ := h i hi
  refine ⟨?_, ?_⟩
  · rw [World.cell?_setCell_other]
    · exact h1
    · simp [hne]
  · rw [World.cell?_setCell_other]
    · exact h2
    · simp [hne]

theorem There.store {W : World} {b n : Nat} (h : There W b n) {r o : Nat} {v : Value} (hne : r ≠ b) : There (W.setCell ⟨r, o, none⟩ v) b n := fun i hi => by
  obtain ⟨u, hu⟩ := (h i hi).1
  refine ⟨⟨u, ?_⟩, by rw [World.frozen?_setCell]; exact (h i hi).2⟩
  rw [World.cell?_setCell_other]
  · exact hu
  · simp [hne]
/-- What is left behind a feature; -1: nothing. -/
def szF (left n s : Nat) : Int := if left < n + s then -1 else (left : Int) - (n : Int) - (s : Int)
end Go.Proofs.YtchofahdcohibaaGreat
/- The model's copy of a feature. -/

namespace Go.Proofs.YtchofahdcohibaaGreat
open Go.RowKit
set_option linter.unusedSimpArgs false
set_option linter.unusedVariables false
set_option maxRecDepth 100000

theorem resC (T : Array Value) (Wf : World) (r : Nat) (v0 v1 v2 v3 v4 v5 v6 : Value) (hT : T[2]?.getD undef = .pointer (some ⟨r, 0, none⟩)) (h0 : Wf.cell? ⟨r, 0, none⟩ = some v0) (h1 : Wf.cell? ⟨r, 1, none⟩ = some v1) (h2 : Wf.cell? ⟨r, 2, none⟩ = some v2) (h3 : Wf.cell? ⟨r, 3, none⟩ = some v3) (h4 : Wf.cell? ⟨r, 4, none⟩ = some v4) (h5 : Wf.cell? ⟨r, 5, none⟩ = some v5) (h6 : Wf.cell? ⟨r, 6, none⟩ = some v6) :
    (results Tryz.f72 T).run Tryz.prog Wf = .ok (.agg #[v0, v1, v2, v3, v4, v5, v6]) Wf := by
  simp [results, Tryz.results72, go_sem, hT, h0, h1, h2, h3, h4, h5, h6]

set_option maxRecDepth 8000 in
set_option maxHeartbeats 4000000 in
theorem l2CopyOne_row {off : Nat} (id la ki wi : Int) (b n cap : Nat) (X Y : Nat → Int) (lab : ByteArray) (pr : Int) (w : World) (hp : PtsAt w b off n X Y) (hbl : b < w.heap.size) (hn : n ≤ 1048576) :
    Calls Tryz.prog 72 #[.agg #[.int .i64 id, .int .i64 la, .int .i64 ki, .int .i64 wi, .slice (some ⟨b, off, none⟩) n cap, .string lab, .int .i64 pr]] w fun e w' => ∃ a c, e = .returned (.agg #[.int .i64 id, .int .i64 la, .int .i64 ki, .int .i64 wi, .slice a n c, .string lab, .int .i64 pr]) ∧ Row (w.heap.size + 1 + 1) w' (.slice a n c) (ptsOf X Y (List.range n)) ∧ Below w.heap.size w w' := by
  obtain ⟨i0, hi, hz0, hz1, hz2⟩ := info_parts (show (Tryz.prog.info? 58).map (fun i => (i.zero, i.size, i.bytes)) = some (some (.agg #[.int .i64 0, .int .i64 0]), 2, 16) by kernel_rfl)
  have HP : Hid (PtsAt w b off n X Y) := hp
  have HLEN : Hid ((ptsOf X Y (List.range n)).length = n) := by show _ = _; simp [ptsOf]
  clear hp
  obtain ⟨W, hWd⟩ : ∃ W, W = (((w.alloc (.cells #[.int .i64 id, .int .i64 la, .int .i64 ki, .int .i64 wi, .slice (some ⟨b, off, none⟩) n cap, .string lab, .int .i64 pr] 36)).alloc (.cells #[.int .i64 0, .int .i64 0, .int .i64 0, .int .i64 0, .slice none 0 0, .string ⟨#[]⟩, .int .i64 0] 36)) : World) := ⟨_, rfl⟩
  have hB0 : Below w.heap.size w W := by subst hWd; (repeat (first | exact Below.refl _ _ | assumption | refine Below.drew ?_ | refine bl_alloc ?_ _ | refine bl_then ?_ (by assumption) | refine Below.setCell ?_ (by first | omega | (simp; done) | (simp; omega)) _ | refine bl_store ?_ ?_ _ _))
  have hO : OutAt W w.heap.size id la ki wi (.slice (some ⟨b, off, none⟩) n cap) lab pr := by
    subst hWd
    unfold OutAt
    rw [Below.heap_alloc _ _ _ (by simp)]
    exact heap_alloc_new w _
  have hT : There W (w.heap.size + 1) 7 := by
    subst hWd
    have := there7 (w.alloc (.cells #[.int .i64 id, .int .i64 la, .int .i64 ki, .int .i64 wi, .slice (some ⟨b, off, none⟩) n cap, .string lab, .int .i64 pr] 36)) (.int .i64 0) (.int .i64 0) (.int .i64 0) (.int .i64 0) (.slice none 0 0) (.string ⟨#[]⟩) (.int .i64 0) 36
    simpa using this
  have hsW : W.heap.size = w.heap.size + 2 := by subst hWd; simp
  have HB0 := (show Hid _ from hB0)
  have HO := (show Hid _ from hO)
  have HT : Hid (There W (w.heap.size + 1) 7) := hT
  have HSW := (show Hid _ from hsW)
  have HWD := (show Hid _ from hWd)
  clear hB0 hO hT hsW hWd
  go_enter Tryz.func72, Tryz.ntmps72
  go_wp2_with (first
    | (at_builtin; go_must (refine wpList_append_own _ rfl _ _ 34 rfl (w.heap.size + 1 + 1) 58 i0 (.agg #[.int .i64 0, .int .i64 0]) 2 16 Tryz.underlying34 hi hz0 hz1 hz2 rfl (by decide) (.slice (some ⟨w.heap.size + 1 + 1, 0, none⟩) 0 0) 0 [] rfl ?c6 ⟨b, off, none⟩ n cap (cellsL (ptsOf X Y (List.range n))) rfl ?c0 ?c1 ?c2 ?c3 ?c4 ?c5 ?_)))
  case c6 =>
    have := World.ownsRow_lit (base := w.heap.size + 1 + 1) (e := 58) (size := 2) W #[] 0 (by rw [HSW.out]; exact Nat.le_refl _) (Nat.zero_le _) rfl
    rw [HSW.out, HWD.out] at this
    exact this
  case c0 => rw [cellsL_len, HLEN.out]
  case c1 =>
    intro q u hq
    have hb : Below w.heap.size w (W.alloc (.cells #[] 58)) := bl_alloc HB0.out _
    rw [HWD.out] at hb
    have h1 := pts_cellsO (HP.out.below hb hbl) q u hq
    by_cases hq0 : q = 0
    · subst hq0; simpa [Addr.add] using h1
    · simpa [Addr.add, hq0] using h1
  case c2 =>
    intro u hu
    unfold cellsL at hu
    rw [List.mem_flatMap] at hu
    obtain ⟨p, _, hp⟩ := hu
    simp at hp
    rcases hp with rfl | rfl <;> rfl
  case c3 => unfold maxLen; omega
  case c4 => omega
  case c5 => first | omega | (simp; done) | (simp; omega)
  intro v' w2 hown' hgrow hnil
  clear hnil
  obtain ⟨a', c', hv'⟩ : ∃ a' c', v' = .slice a' n c' := by
    obtain ⟨_, h2 | ⟨g, cp, cur, hv, _⟩⟩ := hown'
    · exact ⟨none, 0, by have e := h2.2; have e2 : n = 0 := by omega
                         subst e2; exact h2.1⟩
    · exact ⟨_, cp, by rw [hv]⟩
  have HOWN : Hid (Row (w.heap.size + 1 + 1) w2 v' (ptsOf X Y (List.range n))) := by
    show Row _ _ _ _
    unfold Row
    rw [HLEN.out]
    simpa using hown'
  have hgb : Below (w.heap.size + 1 + 1) (W.alloc (.cells #[] 58)) w2 := by
    rw [HWD.out]
    exact (Below.refl _ _).grown hgrow (by simp) (fun k hk => by simp [Value.ownBlock] at hk; omega)
  have hWa : Below W.heap.size W (W.alloc (.cells #[] 58)) := (Below.refl _ _).alloc (Nat.le_refl _) _
  have hW2 : Below (w.heap.size + 2) W w2 := (hWa.mono (by rw [HSW.out]; exact Nat.le_refl _)).trans hgb
  have hO2 : OutAt w2 w.heap.size id la ki wi (.slice (some ⟨b, off, none⟩) n cap) lab pr := (hW2.block _ (by omega)).trans HO.out
  have hT2 : There w2 (w.heap.size + 1) 7 := There.belowB' HT.out hW2 (by omega)
  have hB2 : Below w.heap.size w w2 := HB0.out.trans (hW2.mono (by omega))
  have hs2 : w.heap.size + 2 < w2.heap.size ∨ True := .inr trivial
  obtain ⟨⟨u0, u1, u2, u3, u4, u5, u6⟩, f4⟩ := hO2.cells
  have hlw := hO2.lt
  have t0 := hT2.cell 0 (by omega)
  have t1 := hT2.cell 1 (by omega)
  have t2 := hT2.cell 2 (by omega)
  have t3 := hT2.cell 3 (by omega)
  have t4 := hT2.cell 4 (by omega)
  have t5 := hT2.cell 5 (by omega)
  have t6 := hT2.cell 6 (by omega)
  have z0 := (hT2 0 (by omega)).2
  have z1 := (hT2 1 (by omega)).2
  have z2 := (hT2 2 (by omega)).2
  have z3 := (hT2 3 (by omega)).2
  have z4 := (hT2 4 (by omega)).2
  have z5 := (hT2 5 (by omega)).2
  have z6 := (hT2 6 (by omega)).2
  have HT9 : Hid (There (w2.setCell ⟨w.heap.size, 4, none⟩ v') (w.heap.size + 1) 7) := There.out hT2 (by omega)
  have HB9 : Hid (Below w.heap.size w w2) := hB2
  subst hv'
  clear hown' hgrow hgb hWa hW2 hO2 hT2 hB2 hs2
  go_wp2_with fail
  obtain ⟨y0, y1, y2, y3, y4, y5, y6⟩ := set7_at (v0 := .int .i64 id) (v1 := .int .i64 la) (v2 := .int .i64 ki) (v3 := .int .i64 wi) (v4 := .slice a' n c') (v5 := .string lab) (v6 := .int .i64 pr) HT9.out
  exact bodyPost_ret (resC _ _ (w.heap.size + 1) _ _ _ _ _ _ _ rfl y0 y1 y2 y3 y4 y5 y6) rfl ⟨a', c', rfl, ((((((((HOWN.out.setB (by omega)).setB (by omega)).setB (by omega)).setB (by omega)).setB (by omega)).setB (by omega)).setB (by omega)).setB (by omega)), below7 (HB9.out.setCell (Nat.le_refl _) _) (Nat.le_succ _)⟩
theorem l2CopyOne_any {off : Nat} (id la ki wi : Int) (b n cap : Nat) (X Y : Nat → Int) (lab : ByteArray) (pr : Int) (w : World) (hp : PtsAt w b off n X Y) (hbl : b < w.heap.size) (hn : n ≤ 1048576) :
    Calls Tryz.prog 72 #[.agg #[.int .i64 id, .int .i64 la, .int .i64 ki, .int .i64 wi, .slice (some ⟨b, off, none⟩) n cap, .string lab, .int .i64 pr]] w fun e w' => ∃ a m c, e = .returned (.agg #[.int .i64 id, .int .i64 la, .int .i64 ki, .int .i64 wi, .slice a m c, .string lab, .int .i64 pr]) ∧ Below w.heap.size w w' :=
  (l2CopyOne_row id la ki wi b n cap X Y lab pr w hp hbl hn).mono fun e w' ⟨a, c, he, _, hb⟩ => ⟨a, n, c, he, hb⟩
end Go.Proofs.YtchofahdcohibaaGreat
/- A region that draws its order, whose last operation alone writes what the others read: a law of our own. -/

namespace Go.Proofs.YtchofahdcohibaaGreat
open Go.RowKit

section
variable {P : Program} {ops : Array Oper} {Q : Exit → Act → World → Prop} {md : Region.Mode} {S : World → Prop} {z : Nat}

/-- Whatever order is picked from here on; S holds behind every operation that is carried out but number z. -/
def wpAnyL (P : Program) (md : Region.Mode) (ops : Array Oper) (Q : Exit → Act → World → Prop) (S : World → Prop) (z : Nat) : Nat → Array Bool → Act → World → Prop
  | 0, listed, a, w => Region.ready md ops listed = [] ∧ Q .normal a w
  | fuel + 1, listed, a, w =>
    (Region.ready md ops listed = [] → Q .normal a w) ∧
    ∀ i ∈ Region.ready md ops listed, wpOp P ops Q i (fun a' w' => (i ≠ z → S w') ∧ wpAnyL P md ops Q S z fuel (listed.setIfInBounds i true) a' w') a w

theorem wpAny_of_L : ∀ (fuel : Nat) (listed : Array Bool) (a : Act) (w : World), wpAnyL P md ops Q S z fuel listed a w → wpAny P md ops Q fuel listed a w
  | 0, _, _, _, h => h
  | fuel + 1, _, _, _, h => ⟨h.1, fun i hi => wpOp_mono (fun a' w' h' => wpAny_of_L fuel _ a' w' h'.2) (h.2 i hi)⟩

/-- Number z waits for number i. -/
def waitsFor (md : Region.Mode) (ops : Array Oper) (z i : Nat) : Bool := ((ops[z]?).map (·.after.any fun e => Region.binds md e && (e.on == i))).getD false
theorem not_ready {i : Nat} {listed : Array Bool} (hw : waitsFor md ops z i = true) (hi : listed.getD i true = false) : ¬ z ∈ Region.ready md ops listed := by
  intro hz
  obtain ⟨_, oz, hoz, hall⟩ := mem_ready.1 hz
  unfold waitsFor at hw
  rw [hoz] at hw
  simp only [Option.map_some, Option.getD_some, Array.any_eq_true] at hw
  obtain ⟨k, hk, he⟩ := hw
  rw [Bool.and_eq_true, beq_iff_eq] at he
  have h1 := hall _ (Array.getElem_mem hk) he.1
  rw [he.2] at h1
  rcases Nat.lt_or_ge i listed.size with h' | h'
  · simp [h'] at hi h1; rw [hi] at h1; cases h1
  · simp [Array.getElem?_eq_none h'] at h1

theorem wpAnyL_first {i : Nat} {oi : Oper} {v : Value} (hi : ops[i]? = some oi) (hsel : ∀ (j : Nat) (o : Oper) cs b, ops[j]? = some o → o.op ≠ .select cs b)
    (hQ : ∀ c a w, Q (.panic c) (a.put oi.dst v) w → Q (.panic c) a w) (hwz : waitsFor md ops z i = true) :
    ∀ (fuel : Nat) (listed : Array Bool) (a : Act) (w : World),
      (∀ j oj, ops[j]? = some oj → j ≠ i → listed.getD j true = false → (∀ e ∈ oj.after, Region.binds md e = true → e.on ≠ i) → oi.apart ops oj = true) →
      i ∈ Region.ready md ops listed → YieldsIf P ops S oi v a → S w →
      wpAnyL P md ops Q S z fuel (listed.setIfInBounds i true) (a.put oi.dst v) w → wpAnyL P md ops Q S z (fuel + 1) listed a w := by
  intro fuel
  induction fuel with
  | zero =>
    intro listed a w _ hr hy hS H
    refine ⟨fun h => (by rw [h] at hr; cases hr), fun j hj => ?_⟩
    by_cases hji : j = i
    · subst hji; exact hy.wpOp hi hS ⟨fun _ => hS, H⟩
    · have := ready_mono hj hji
      rw [H.1] at this
      cases this
  | succ fuel ih =>
    intro listed a w hfree hr hy hS H
    refine ⟨fun h => (by rw [h] at hr; cases hr), fun j hj => ?_⟩
    by_cases hji : j = i
    · subst hji; exact hy.wpOp hi hS ⟨fun _ => hS, H⟩
    · have hjz : j ≠ z := fun e => not_ready hwz (mem_ready.1 hr).1 (e ▸ hj)
      have h1 := H.2 j (ready_mono hj hji)
      obtain ⟨hjun, oj, hoj, hall⟩ := mem_ready.1 hj
      have hnot : ∀ e ∈ oj.after, Region.binds md e = true → e.on ≠ i := fun e he hb heq => by
        have h1 := hall e he hb
        have h0 := (mem_ready.1 hr).1
        rw [heq] at h1
        rcases Nat.lt_or_ge i listed.size with h' | h'
        · simp [h'] at h0 h1; rw [h0] at h1; cases h1
        · simp [Array.getElem?_eq_none h'] at h1
      have h2 := wpOp_putIf hoj (hfree j oj hoj hji hjun hnot) (fun cs b => hsel i oi cs b hi) (fun cs b => hsel j oj cs b hoj) hQ hy h1
      have hfree' : ∀ k ok, ops[k]? = some ok → k ≠ i → (listed.setIfInBounds j true).getD k true = false →
          (∀ e ∈ ok.after, Region.binds md e = true → e.on ≠ i) → oi.apart ops ok = true := fun k ok hk hki hun hno => by
        refine hfree k ok hk hki ?_ hno
        by_cases hjk : j = k
        · subst hjk; exact hjun
        · rw [getD_set_ne true hjk] at hun; exact hun
      refine wpOp_mono (fun a' w' h3 => ⟨h3.2.1, ih (listed.setIfInBounds j true) a' w' hfree' (ready_mono hr (Ne.symm hji)) h3.1 (h3.2.1 hjz) ?_⟩) h2
      rw [Array.setIfInBounds_comm _ _ hji]
      exact h3.2.2

theorem wpAnyL_take {i : Nat} {oi : Oper} {v : Value} {fuel : Nat} {listed : Array Bool} {a : Act} {w : World} (hi : ops[i]? = some oi)
    (hs : Region.noSelect ops = true) (hf : Region.free md ops listed i = true) (hr : (Region.ready md ops listed).contains i = true) (hwz : waitsFor md ops z i = true)
    (hQ : ∀ c a w, Q (.panic c) (a.put oi.dst v) w → Q (.panic c) a w) (hy : YieldsIf P ops S oi v a) (hS : S w)
    (h : wpAnyL P md ops Q S z fuel (listed.setIfInBounds i true) (a.put oi.dst v) w) : wpAnyL P md ops Q S z (fuel + 1) listed a w :=
  wpAnyL_first hi (Region.noSelect_spec hs) hQ hwz fuel listed a w (Region.free_spec hi hf) (by simpa using hr) hy hS h

/-- One alone may come up. -/
theorem wpAnyL_one {i : Nat} {o : Oper} {fuel : Nat} {listed : Array Bool} {a : Act} {w : World} (hr : Region.ready md ops listed = [i]) (ho : ops[i]? = some o)
    (h : ∀ K' : Act → World → Prop, Shut (∀ a w, (i ≠ z → S w) → wpAnyL P md ops Q S z fuel (listed.setIfInBounds i true) a w → K' a w) → if Region.wanted o (yielded ops a.tmps) = true then Oper.wp P o a w K' Q else K' (a.put o.dst undef) w) :
    wpAnyL P md ops Q S z (fuel + 1) listed a w := by
  refine ⟨fun h0 => (by rw [hr] at h0; cases h0), fun j hj => ?_⟩
  rw [hr] at hj
  obtain rfl : j = i := by simpa using hj
  exact wpOp_step ho (fun K' hK => h K' (fun a w hS hW => hK a w ⟨hS, hW⟩))

theorem wpAnyL_done {listed : Array Bool} {a : Act} {w : World} (hr : Region.ready md ops listed = []) (h : Q .normal a w) :
    ∀ fuel, wpAnyL P md ops Q S z fuel listed a w
  | 0 => ⟨hr, h⟩
  | _ + 1 => ⟨fun _ => h, by rw [hr]; simp⟩

theorem wp_region_L {id : Nat} {a : Act} {w : World} (hm : P.follows .mixedOrders = true)
    (h : wpAnyL P .any ops Q S z ops.size (Array.replicate ops.size false) a w.drew) : (Code.region id ops true).wp P Q a w :=
  wp_region_any hm (wpAny_of_L _ _ _ _ h)
end
end Go.Proofs.YtchofahdcohibaaGreat
/- An append to a row of the call's own, as one step of a region that draws its order. -/

namespace Go.Proofs.YtchofahdcohibaaGreat
open Go

theorem step_append_own {P : Program} {ops : Array Oper} {o : Oper} {a : Act} {w : World} {K : Act → World → Prop} {Q : Exit → Act → World → Prop} {E : Prop}
    (hg : o.guard = none) (s x : Operand) (t : TypeId) (hop : o.op = Op.call { callee := Callee.builtin Builtin.append, args := #[s, x], argTypes := #[t, t] })
    (base : Nat) (e : TypeId) (i : TypeInfo) (z : Value) (size bytes : Nat) (h1 : P.underlying t = some (.slice e)) (h2 : P.info? e = some i) (h3 : i.zero = some z) (h4 : i.size = size) (h5 : i.bytes = bytes) (h6 : z.cells.size = size) (h7 : 0 < size)
    (v : Value) (n : Nat) (xs : List Value) (hs : a.eval s = v) (hown : w.ownsRow base e size v n xs)
    (ad : Addr) (m c : Nat) (news : List Value) (hx : a.eval x = .slice (some ad) m c) (hn : news.length = m * size) (hc : ∀ j u, news[j]? = some u → w.cell? (ad.add j) = some u) (h1c : ∀ u ∈ news, u.oneCell' = true)
    (b1 : n + m ≤ maxLen) (b2 : (n + m) * bytes ≤ 140737488355328) (hbase : base ≤ w.heap.size)
    (hK : ∀ v' w', w'.ownsRow base e size v' (n + m) (xs ++ news) → w.grownBy w' v.ownBlock → (v' = .slice none 0 0 ↔ v = .slice none 0 0 ∧ m = 0) → K (a.put o.dst v') w') :
    if Region.wanted o (yielded ops a.tmps) = true then Oper.wp P o a w K Q else E := by
  have hw : Region.wanted o (yielded ops a.tmps) = true := by simp [Region.wanted, hg]
  rw [if_pos hw]
  obtain ⟨v', w', hrun, r1, r2, r3⟩ := run_append_own (P := P) w base t o.type e i z size bytes h1 h2 h3 h4 h5 h6 h7 v n xs hown ad m c news hn hc h1c b1 b2 hbase
  unfold Oper.wp
  simp [execOp, hop, resolve, invoke, builtin, hs, hx, hrun, Result.andThen]
  exact hK v' w' r1 r2 r3
end Go.Proofs.YtchofahdcohibaaGreat
