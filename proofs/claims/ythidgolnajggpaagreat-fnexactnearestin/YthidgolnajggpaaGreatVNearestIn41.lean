/- Several texts in one. -/
import Derived.Test.YthidgolnajggpaaGreatVNearestIn21
import Derived.Test.YthidgolnajggpaaGreatVNearestIn40
import Derived.Test.YthidgolnajggpaaGreatVNearestIn20
import Derived.Test.YthidgolnajggpaaGreatVNearestIn1
import Derived.Deep.RegionHeld3

/- Shapes as a row of their own; what a closure over them tells of a pixel: the program. -/

namespace Go.Proofs.YthidgolnajggpaaGreat
open Go.RowKit
set_option linter.unusedSimpArgs false
set_option linter.unusedVariables false
set_option maxRecDepth 100000

def scell (z : Int) (s : Shp) : List Value := [.int .i64 s.id, .func (.func (byF s.ki)) #[] #[], .slice (some ⟨s.g, 0, none⟩) s.n s.cg, .int .i64 (reachI s.wi z)]
/-- The cells of the first k shapes. -/
def cellsS (z : Int) (S : Nat → Shp) : Nat → List Value
  | 0 => []
  | k + 1 => cellsS z S k ++ scell z (S k)
theorem cellsS_len (z : Int) (S : Nat → Shp) : ∀ k, (cellsS z S k).length = k * 4
  | 0 => rfl
  | k + 1 => by rw [cellsS, List.length_append, cellsS_len z S k]; simp [scell]; omega
theorem cellsS_at (z : Int) (S : Nat → Shp) : ∀ (k i j : Nat), i < k → j < 4 → (cellsS z S k)[i * 4 + j]? = (scell z (S i))[j]?
  | k + 1, i, j, hi, hj => by
    rw [cellsS]
    by_cases e : i = k
    · subst e
      rw [List.getElem?_append_right (by rw [cellsS_len]; omega), cellsS_len]
      congr 1
      omega
    · rw [List.getElem?_append_left (by rw [cellsS_len]; omega)]
      exact cellsS_at z S k i j (by omega) hj
theorem cellsS_congr {z : Int} {S S' : Nat → Shp} : ∀ {k : Nat}, (∀ i, i < k → S i = S' i) → cellsS z S k = cellsS z S' k
  | 0, _ => rfl
  | k + 1, h => by rw [cellsS, cellsS, cellsS_congr (fun i hi => h i (by omega)), h k (by omega)]
def SRow (base : Nat) (w : World) (v : Value) (k : Nat) (z : Int) (S : Nat → Shp) : Prop := w.ownsRow base 127 4 v k (cellsS z S k)
/-- The shape of a feature. -/
def shpOf (s : Shp) (f : Feat) : Prop := s.id = f.id ∧ s.ki = f.ki ∧ s.wi = f.wi ∧ s.n = f.n ∧ s.X = f.X ∧ s.Y = f.Y
theorem SRow.src {base k : Nat} {w : World} {v : Value} {z : Int} {S : Nat → Shp} (h : SRow base w v k z S) (hk : k = 0 → v = .slice none 0 0) (hP : ∀ i, i < k → ShpP w w.heap.size (S i)) : SrcS w.heap.size w v k z S := by
  by_cases h0 : k = 0
  · exact .inl ⟨hk h0, h0⟩
  · obtain ⟨h1, h2 | ⟨g, cp, cur, hv, hg, hh, hkc, hcm, hcs, htk⟩⟩ := id h
    · exact absurd h2.2 h0
    · have hgl : g < w.heap.size := lt_of_heap hh
      subst hv
      have hrow : w.ownsRow base 127 4 (.slice (some ⟨g, 0, none⟩) k cp) k (cellsS z S k) := h
      refine .inr ⟨g, cp, rfl, hgl, fun i hi => ⟨?_, hP i hi⟩⟩
      have c : ∀ j, j < 4 → w.cell? ⟨g, i * 4 + j, none⟩ = (scell z (S i))[j]? := fun j hj => (hrow.cellAt _ (by omega)).trans (cellsS_at z S k i j hi hj)
      exact ⟨c 0 (by omega), c 1 (by omega), c 2 (by omega), c 3 (by omega)⟩
theorem SRow.not_pts {base k n g : Nat} {w : World} {v : Value} {z : Int} {S : Nat → Shp} {X Y : Nat → Int} (h : SRow base w v k z S) (hk : k = 0 → v = .slice none 0 0) (hp : PtsAt w g 0 n X Y) (hn : 0 < n) : some g ≠ v.ownBlock := by
  intro e
  by_cases h0 : k = 0
  · rw [hk h0] at e; cases e
  · obtain ⟨h1, h2 | ⟨g', cp, cur, hv, hg, hh, hkc, hcm, hcs, htk⟩⟩ := id h
    · exact absurd h2.2 h0
    · subst hv
      simp [Value.ownBlock] at e
      subst e
      have hrow : w.ownsRow base 127 4 (.slice (some ⟨g, 0, none⟩) k cp) k (cellsS z S k) := h
      have c1 := (hrow.cellAt 1 (by omega)).trans (cellsS_at z S k 0 1 (by omega) (by omega))
      have c2 := (hp 0 hn).2
      simp only [Nat.zero_mul, Nat.zero_add, Nat.mul_zero] at c2
      rw [c1] at c2
      simp [scell] at c2
theorem covS_same {z cx cy : Int} {S : Nat → Shp} {G : Nat → Feat} {n : Nat} (h : ∀ i, i < n → shpOf (S i) (G i)) : ∀ {k : Nat}, k ≤ n → paintI (covS z cx cy S) (fun i => (S i).id) k = paintI (fun i => covF z cx cy (G i)) (fun i => (G i).id) k
  | 0, _ => rfl
  | k + 1, hk => by
    obtain ⟨e1, e2, e3, e4, e5, e6⟩ := h k (by omega)
    have ec : covS z cx cy S k = covF z cx cy (G k) := by unfold covS covF; rw [e2, e3, e4, e5, e6]
    rw [paintI, paintI, ec, e1, covS_same h (by omega)]
set_option maxHeartbeats 4000000 in
theorem raster1_any (B4 B5 : Nat) (a : Option Addr) (n cap : Nat) (z x y : Int) (S : Nat → Shp) (G : Nat → Feat) (w : World) (h4 : w.cell? ⟨B4, 0, none⟩ = some (.int .i64 z)) (h5 : w.cell? ⟨B5, 0, none⟩ = some (.slice a n cap)) (hS : SrcS w.heap.size w (.slice a n cap) n z S) (hP : ∀ i, i < n → ShpP w w.heap.size (S i)) (hn : n ≤ 12) (hsh : ∀ i, i < n → shpOf (S i) (G i)) (hpx : pixB z x y = true) :
    Calls Tryz.prog 79 #[.int .i64 x, .int .i64 y, .pointer (some ⟨B5, 0, none⟩), .pointer (some ⟨B4, 0, none⟩)] w fun e w' => e = .returned (.int .i64 (paintF G n z x y)) ∧ Below w.heap.size w w' := by
  have hl4 := World.block_lt_of_cell? _ _ h4
  have hl5 := World.block_lt_of_cell? _ _ h5
  have HF : Hid (∀ W, Below w.heap.size w W → Calls Tryz.prog 80 #[.slice a n cap, .agg #[.int .i64 (centI z x), .int .i64 (centI z y)]] W fun e w' => e = .returned (.int .i64 (paintF G n z x y)) ∧ Below W.heap.size W w') := fun W hW => by
    have hS' : SrcS W.heap.size W (.slice a n cap) n z S := by
      rcases hS.below hW with h | ⟨p, c, e, h1, h2⟩
      · exact .inl h
      · exact .inr ⟨p, c, e, Nat.lt_of_lt_of_le h1 hW.size, fun i hi => ⟨(h2 i hi).1, Nat.lt_of_lt_of_le (h2 i hi).2.1 hW.size, (h2 i hi).2.2⟩⟩
    have hP' : ∀ i, i < n → ShpP W W.heap.size (S i) := fun i hi => ⟨Nat.lt_of_lt_of_le (hP i hi).1 hW.size, ((hP i hi).below hW).2⟩
    have := frontOf_any a n cap z (centI z x) (centI z y) S W hS' hP' (by omega)
    rw [covS_same hsh (Nat.le_refl n)] at this
    exact this
  have sC := fun w => impl_CentreOf_any z x y w
  rw [show centV z x y = .agg #[.int .i64 0, .int .i64 (centI z x), .int .i64 (centI z y)] by simp [centV, hpx]] at sC
  have c4 : ∀ W', Below w.heap.size w W' → W'.cell? ⟨B4, 0, none⟩ = some (.int .i64 z) := fun W' h => (h.cell (p := ⟨B4, 0, none⟩) hl4).trans h4
  have c5 : ∀ W', Below w.heap.size w W' → W'.cell? ⟨B5, 0, none⟩ = some (.slice a n cap) := fun W' h => (h.cell (p := ⟨B5, 0, none⟩) hl5).trans h5
  clear hS hP hsh hpx h4 h5
  generalize centI z x = cx at *
  generalize centI z y = cy at *
  generalize paintF G n z x y = pf at *
  have f1 : ∀ w, (Instr.field 134 (.agg #[.int .i64 0, .int .i64 cx, .int .i64 cy]) 1).run Tryz.prog w = .ok (.agg #[.int .i64 cx, .int .i64 cy]) w := fun _ => by kernel_rfl
  have hr : Below w.heap.size w w := Below.refl _ _
  go_enter Tryz.func79, Tryz.ntmps79
  go_wp2_with fail
  go_region_held3 (fun W' => Below w.heap.size w W') ((repeat (first | exact Below.refl _ _ | assumption | refine Below.drew ?_ | refine bl_alloc ?_ _ | refine bl_then ?_ (by assumption) | refine Below.setCell ?_ (by first | omega | (simp; done) | (simp; omega)) _ | refine bl_store ?_ ?_ _ _)))
    (first
      | (go_at_call 81; refine (sC _).mono ?_; rintro e w1 ⟨rfl, hb⟩)
      | (go_at_call 80; refine (HF.out _ (by assumption)).mono ?_; rintro e w1 ⟨rfl, hb⟩)
      | fail)
  go_wp2
  go_ret
  exact ⟨rfl, by assumption⟩
theorem enter_rt1 (args : Array Value) (w : World) : (callFunc 79 args).run Tryz.prog w = .ok (.enter 79 args) w := by
  have h1 : (Tryz.f79).name ≠ "runtime.NumGoroutine" := by
    have : ((Tryz.f79).name == "runtime.NumGoroutine") = false := by kernel_rfl
    simpa using this
  have hb : ∃ c, (Tryz.f79).body = some c := ⟨_, rfl⟩
  obtain ⟨c, hb⟩ := hb
  simp [callFunc, Tryz.func79, h1, hb]
end Go.Proofs.YthidgolnajggpaaGreat
/- A region that draws its order, whose last operation alone writes what the others read: a law of our own. -/

namespace Go.Proofs.YthidgolnajggpaaGreat
open Go.RowKit

section
variable {P : Program} {ops : Array Oper} {Q : Exit → Act → World → Prop} {md : Region.Mode} {S : World → Prop} {z : Nat}

/-- Whatever order is picked from here on; S holds behind every operation that is carried out but number z. -/
def wpAnyL (P : Program) (md : Region.Mode) (ops : Array Oper) (Q : Exit → Act → World → Prop) (S : World → Prop) (z : Nat) : Nat → Array Bool → Act → World → Prop
  | 0, listed, a, w => Region.ready md ops listed = [] ∧ Q .normal a w
  | fuel + 1, listed, a, w =>
    (Region.ready md ops listed = [] → Q .normal a w) ∧
    ∀ i ∈ Region.ready md ops listed, wpOp P ops Q i (fun a' w' => (i ≠ z → S w') ∧ wpAnyL P md ops Q S z fuel (listed.setIfInBounds i true) a' w') a w

theorem wpAny_of_L : ∀ (fuel : Nat) (listed : Array Bool) (a : Act) (w : World), wpAnyL P md ops Q S z fuel listed a w → wpAny P md ops Q fuel listed a w
  | 0, _, _, _, h => h
  | fuel + 1, _, _, _, h => ⟨h.1, fun i hi => wpOp_mono (fun a' w' h' => wpAny_of_L fuel _ a' w' h'.2) (h.2 i hi)⟩

/-- Number z waits for number i. -/
def waitsFor (md : Region.Mode) (ops : Array Oper) (z i : Nat) : Bool := ((ops[z]?).map (·.after.any fun e => Region.binds md e && (e.on == i))).getD false
theorem not_ready {i : Nat} {listed : Array Bool} (hw : waitsFor md ops z i = true) (hi : listed.getD i true = false) : ¬ z ∈ Region.ready md ops listed := by
  intro hz
  obtain ⟨_, oz, hoz, hall⟩ := mem_ready.1 hz
  unfold waitsFor at hw
  rw [hoz] at hw
  simp only [Option.map_some, Option.getD_some, Array.any_eq_true] at hw
  obtain ⟨k, hk, he⟩ := hw
  rw [Bool.and_eq_true, beq_iff_eq] at he
  have h1 := hall _ (Array.getElem_mem hk) he.1
  rw [he.2] at h1
  rcases Nat.lt_or_ge i listed.size with h' | h'
  · simp [h'] at hi h1; rw [hi] at h1; cases h1
  · simp [Array.getElem?_eq_none h'] at h1

theorem wpAnyL_first {i : Nat} {oi : Oper} {v : Value} (hi : ops[i]? = some oi) (hsel : ∀ (j : Nat) (o : Oper) cs b, ops[j]? = some o → o.op ≠ .select cs b)
    (hQ : ∀ c a w, Q (.panic c) (a.put oi.dst v) w → Q (.panic c) a w) (hwz : waitsFor md ops z i = true) :
    ∀ (fuel : Nat) (listed : Array Bool) (a : Act) (w : World),
      (∀ j oj, ops[j]? = some oj → j ≠ i → listed.getD j true = false → (∀ e ∈ oj.after, Region.binds md e = true → e.on ≠ i) → oi.apart ops oj = true) →
      i ∈ Region.ready md ops listed → YieldsIf P ops S oi v a → S w →
      wpAnyL P md ops Q S z fuel (listed.setIfInBounds i true) (a.put oi.dst v) w → wpAnyL P md ops Q S z (fuel + 1) listed a w := by
  intro fuel
  induction fuel with
  | zero =>
    intro listed a w _ hr hy hS H
    refine ⟨fun h => (by rw [h] at hr; cases hr), fun j hj => ?_⟩
    by_cases hji : j = i
    · subst hji; exact hy.wpOp hi hS ⟨fun _ => hS, H⟩
    · have := ready_mono hj hji
      rw [H.1] at this
      cases this
  | succ fuel ih =>
    intro listed a w hfree hr hy hS H
    refine ⟨fun h => (by rw [h] at hr; cases hr), fun j hj => ?_⟩
    by_cases hji : j = i
    · subst hji; exact hy.wpOp hi hS ⟨fun _ => hS, H⟩
    · have hjz : j ≠ z := fun e => not_ready hwz (mem_ready.1 hr).1 (e ▸ hj)
      have h1 := H.2 j (ready_mono hj hji)
      obtain ⟨hjun, oj, hoj, hall⟩ := mem_ready.1 hj
      have hnot : ∀ e ∈ oj.after, Region.binds md e = true → e.on ≠ i := fun e he hb heq => by
        have h1 := hall e he hb
        have h0 := (mem_ready.1 hr).1
        rw [heq] at h1
        rcases Nat.lt_or_ge i listed.size with h' | h'
        · simp [h'] at h0 h1; rw [h0] at h1; cases h1
        · simp [Array.getElem?_eq_none h'] at h1
      have h2 := wpOp_putIf hoj (hfree j oj hoj hji hjun hnot) (fun cs b => hsel i oi cs b hi) (fun cs b => hsel j oj cs b hoj) hQ hy h1
      have hfree' : ∀ k ok, ops[k]? = some ok → k ≠ i → (listed.setIfInBounds j true).getD k true = false →
          (∀ e ∈ ok.after, Region.binds md e = true → e.on ≠ i) → oi.apart ops ok = true := fun k ok hk hki hun hno => by
        refine hfree k ok hk hki ?_ hno
        by_cases hjk : j = k
        · subst hjk; exact hjun
        · rw [getD_set_ne true hjk] at hun; exact hun
      refine wpOp_mono (fun a' w' h3 => ⟨h3.2.1, ih (listed.setIfInBounds j true) a' w' hfree' (ready_mono hr (Ne.symm hji)) h3.1 (h3.2.1 hjz) ?_⟩) h2
      rw [Array.setIfInBounds_comm _ _ hji]
      exact h3.2.2

theorem wpAnyL_take {i : Nat} {oi : Oper} {v : Value} {fuel : Nat} {listed : Array Bool} {a : Act} {w : World} (hi : ops[i]? = some oi)
    (hs : Region.noSelect ops = true) (hf : Region.free md ops listed i = true) (hr : (Region.ready md ops listed).contains i = true) (hwz : waitsFor md ops z i = true)
    (hQ : ∀ c a w, Q (.panic c) (a.put oi.dst v) w → Q (.panic c) a w) (hy : YieldsIf P ops S oi v a) (hS : S w)
    (h : wpAnyL P md ops Q S z fuel (listed.setIfInBounds i true) (a.put oi.dst v) w) : wpAnyL P md ops Q S z (fuel + 1) listed a w :=
  wpAnyL_first hi (Region.noSelect_spec hs) hQ hwz fuel listed a w (Region.free_spec hi hf) (by simpa using hr) hy hS h

/-- One alone may come up. -/
theorem wpAnyL_one {i : Nat} {o : Oper} {fuel : Nat} {listed : Array Bool} {a : Act} {w : World} (hr : Region.ready md ops listed = [i]) (ho : ops[i]? = some o)
    (h : ∀ K' : Act → World → Prop, Shut (∀ a w, (i ≠ z → S w) → wpAnyL P md ops Q S z fuel (listed.setIfInBounds i true) a w → K' a w) → if Region.wanted o (yielded ops a.tmps) = true then Oper.wp P o a w K' Q else K' (a.put o.dst undef) w) :
    wpAnyL P md ops Q S z (fuel + 1) listed a w := by
  refine ⟨fun h0 => (by rw [hr] at h0; cases h0), fun j hj => ?_⟩
  rw [hr] at hj
  obtain rfl : j = i := by simpa using hj
  exact wpOp_step ho (fun K' hK => h K' (fun a w hS hW => hK a w ⟨hS, hW⟩))

theorem wpAnyL_done {listed : Array Bool} {a : Act} {w : World} (hr : Region.ready md ops listed = []) (h : Q .normal a w) :
    ∀ fuel, wpAnyL P md ops Q S z fuel listed a w
  | 0 => ⟨hr, h⟩
  | _ + 1 => ⟨fun _ => h, by rw [hr]; simp⟩

theorem wp_region_L {id : Nat} {a : Act} {w : World} (hm : P.follows .mixedOrders = true)
    (h : wpAnyL P .any ops Q S z ops.size (Array.replicate ops.size false) a w.drew) : (Code.region id ops true).wp P Q a w :=
  wp_region_any hm (wpAny_of_L _ _ _ _ h)
end
end Go.Proofs.YthidgolnajggpaaGreat
