/- Several texts in one. -/
import Derived.Test.YtciidkmonfmipaaGreatVPutTile27
import Derived.Test.YtciidkmonfmipaaGreatVPutTile18
import Derived.RangeFuncNested
import Derived.RangeFuncBound
import Derived.RangeFuncCalls
import Derived.RangeFuncLeaves
import Derived.RangeFuncBox
import Derived.Shelf.Abstract
import Derived.Shelf.RegionOpen
import Derived.OwnWalkIn
import Derived.TacticsInMore
import Derived.LoopNIn
import Derived.LoopIn
import Derived.Test.YtciidkmonfmipaaGreatVPutTile14
import Derived.Test.YtciidkmonfmipaaGreatVPutTile13

/- Which shape is in front at a centre: the program. -/

namespace Go.Proofs.YtciidkmonfmipaaGreat
open Go.RowKit Go.Shelf
attribute [local go_sem] Oper.semAt_some
set_option linter.unusedSimpArgs false
set_option linter.unusedVariables false
set_option maxRecDepth 100000

/-- A shape: its Id, its kind, its width, its points. -/
structure Shp where
  id : Int
  ki : Int
  wi : Int
  g : Nat
  n : Nat
  cg : Nat
  X : Nat → Int
  Y : Nat → Int
abbrev shpV (z : Int) (s : Shp) : Value := .agg #[.int .i64 s.id, .func (.func (byF s.ki)) #[] #[], .slice (some ⟨s.g, 0, none⟩) s.n s.cg, .int .i64 (reachI s.wi z)]
def ShpC (w : World) (p o : Nat) (z : Int) (s : Shp) : Prop := w.cell? ⟨p, o, none⟩ = some (.int .i64 s.id) ∧ w.cell? ⟨p, o + 1, none⟩ = some (.func (.func (byF s.ki)) #[] #[]) ∧ w.cell? ⟨p, o + 2, none⟩ = some (.slice (some ⟨s.g, 0, none⟩) s.n s.cg) ∧ w.cell? ⟨p, o + 3, none⟩ = some (.int .i64 (reachI s.wi z))
/-- The points of a shape are there. -/
def ShpP (w : World) (T : Nat) (s : Shp) : Prop := s.g < T ∧ 0 < s.n ∧ s.n ≤ 40 ∧ s.n ≤ s.cg ∧ PtsAt w s.g 0 s.n (px (dblL s.X s.Y s.n)) (py (dblL s.X s.Y s.n))
theorem ShpP.below {w w' : World} {T : Nat} {s : Shp} (h : ShpP w T s) (hb : Below T w w') : ShpP w' T s := ⟨h.1, h.2.1, h.2.2.1, h.2.2.2.1, h.2.2.2.2.below hb h.1⟩
def ShsAt (w : World) (T p n : Nat) (z : Int) (S : Nat → Shp) : Prop := p < T ∧ ∀ i, i < n → ShpC w p (i * 4) z (S i) ∧ ShpP w T (S i)
theorem ShsAt.below {w w' : World} {T p n : Nat} {z : Int} {S : Nat → Shp} (h : ShsAt w T p n z S) (hb : Below T w w') : ShsAt w' T p n z S := ⟨h.1, fun i hi => by
  obtain ⟨⟨h0, h1, h2, h3⟩, hp⟩ := h.2 i hi
  exact ⟨⟨(hb.cell (p := ⟨p, i * 4, none⟩) h.1).trans h0, (hb.cell (p := ⟨p, i * 4 + 1, none⟩) h.1).trans h1, (hb.cell (p := ⟨p, i * 4 + 2, none⟩) h.1).trans h2, (hb.cell (p := ⟨p, i * 4 + 3, none⟩) h.1).trans h3⟩, hp.below hb⟩⟩
/-- v holds these shapes; or it is nil. -/
def SrcS (T : Nat) (w : World) (v : Value) (n : Nat) (z : Int) (S : Nat → Shp) : Prop := (v = .slice none 0 0 ∧ n = 0) ∨ ∃ p cap, v = .slice (some ⟨p, 0, none⟩) n cap ∧ ShsAt w T p n z S
theorem SrcS.below {T : Nat} {w w' : World} {v : Value} {n : Nat} {z : Int} {S : Nat → Shp} (h : SrcS T w v n z S) (hb : Below T w w') : SrcS T w' v n z S := by
  rcases h with h | ⟨p, cap, e, hs⟩
  · exact .inl h
  · exact .inr ⟨p, cap, e, hs.below hb⟩
abbrev encS (z : Int) (S : Nat → Shp) (i : Nat) : Array Value := #[.int .i64 (i : Int), shpV z (S i)]
set_option maxHeartbeats 4000000 in
theorem back1_in (l Bs T p n cap : Nat) (z : Int) (S : Nat → Shp) (hn : n ≤ 1048576) (J Jx : List (Pl n) → World → Prop) (W : World)
    (hY : ∀ pre (x : Pl n) W1, J pre W1 → pre.length < n → YieldAt Fence.wide 2 Tryz.prog l (encS z S x.1) W1 fun e W' => (e = .returned (.bool true) ∧ J (pre ++ [x]) W' ∧ KS T Bs W1 W') ∨ (e = .returned (.bool false) ∧ Jx (pre ++ [x]) W'))
    (hc : W.cell? ⟨Bs, 0, none⟩ = some (.slice (some ⟨p, 0, none⟩) n cap)) (hS : ShsAt W T p n z S) (h0 : J [] W) :
    CallsIn Fence.wide 3 Tryz.prog 126 #[.func (.yield l) #[] #[], .pointer (some ⟨Bs, 0, none⟩)] W fun e W' => (∃ v, e = .returned v) ∧ ((∃ ys, ys.map (·.1) = downN n n ∧ J ys W') ∨ (∃ pre, pre.map (·.1) <+: downN n n ∧ Jx pre W')) := by
  refine callsIn_of_wp Tryz.func126 rfl trivial ?_ rfl
  simp only [Tryz.ntmps126, List.size_toArray, List.length_cons, List.length_nil, Nat.reduceAdd, Nat.reduceSub, Array.replicate_succ, Array.replicate_zero, List.push_toArray, List.append_toArray, List.nil_append, List.cons_append]
  have hn0 : IntKind.i64.wrap ((n : Int) - 1) = (n : Int) - 1 := IntWalk.i64_in _ (by omega)
  gi_wp2
  gi_loopw [3] (fun i wr => ∃ (k : Nat) (s : List (Pl n)), k ≤ n ∧ i = .int .i64 ((n : Int) - 1 - (k : Int)) ∧ s.map (·.1) = downN n k ∧ J s wr ∧ KS T Bs W wr) (fun i _ => (intOf i + 1).toNat)
  case atStart => exact ⟨0, [], Nat.zero_le _, by simp [hn0], rfl, h0, KS.refl _ _ _⟩
  case round =>
    obtain ⟨k, s, hk, hi, hs, hJs, hB⟩ := hrel
    have hcr := hB.cell hc
    by_cases hlt : k < n
    · obtain ⟨m, hm⟩ : ∃ m : Nat, m = n - 1 - k := ⟨_, rfl⟩
      have em : (n : Int) - 1 - (k : Int) = (m : Int) := by omega
      rw [em] at hi
      subst hi
      have hmn : m < n := by omega
      obtain ⟨⟨q0, q1, q2, q3⟩, hP⟩ := (hS.below hB.1).2 m hmn
      have hsl : s.length = k := by have := congrArg List.length hs; rw [downN_len] at this; simpa using this
      obtain ⟨fn, tmps, assign, body, hy, hR⟩ := hY s ⟨m, hmn⟩ wr hJs (by omega)
      have hi1 : (m : Int) < (n : Int) := by omega
      have hi0 : (0 : Int) ≤ (m : Int) := by omega
      have hm1 : IntKind.i64.wrap ((m : Int) - 1) = (m : Int) - 1 := IntWalk.i64_in _ (by omega)
      have HS : Hid ((s ++ [(⟨m, hmn⟩ : Pl n)]).map (fun x : Pl n => x.1) = downN n (k + 1)) := by show _ = _; rw [downN_succ, ← hm]; simp [hs]
      have HM : Hid (m = n - 1 - k) := hm
      clear hm em
      gi_wp2
      refine hR.mono ?_
      rintro e W3 (⟨rfl, hJ3, hk3⟩ | ⟨rfl, hJx3⟩)
      · gi_wp2
        go_roundw
        case rel => exact ⟨k + 1, s ++ [⟨m, hmn⟩], by omega, by have := HM.out; first | (rw [hm1]; congr 1; omega) | (congr 1; omega), HS.out, hJ3, hB.trans hk3⟩
        case measure => have := HM.out; simp [intOf] <;> omega
      · gi_wp2
        refine bodyPost_ret (results_none rfl _ _ _) rfl ?_
        exact ⟨⟨_, rfl⟩, .inr ⟨_, by rw [HS.out]; exact downN_pre _ _ _ (by omega), hJx3⟩⟩
    · obtain rfl : k = n := by omega
      have em : (k : Int) - 1 - (k : Int) = -1 := by omega
      rw [em] at hi
      subst hi
      gi_wp2
      go_end0
      exact ⟨⟨_, rfl⟩, .inl ⟨s, hs, hJs⟩⟩
set_option maxHeartbeats 1000000 in
theorem back1_nil (l Bs : Nat) (W : World) (hBs : W.cell? ⟨Bs, 0, none⟩ = some (.slice none 0 0)) :
    CallsIn Fence.wide 3 Tryz.prog 126 #[.func (.yield l) #[] #[], .pointer (some ⟨Bs, 0, none⟩)] W fun e W' => (∃ v, e = .returned v) ∧ W = W' := by
  refine callsIn_of_wp Tryz.func126 rfl trivial ?_ rfl
  simp only [Tryz.ntmps126, List.size_toArray, List.length_cons, List.length_nil, Nat.reduceAdd, Nat.reduceSub, Array.replicate_succ, Array.replicate_zero, List.push_toArray, List.append_toArray, List.nil_append, List.cons_append]
  gi_wp2
  gi_loopw [3] (fun i wr => i = .int .i64 (-1) ∧ W = wr) (fun _ _ => 0)
  case atStart => exact ⟨by first | rfl | (congr 1; decide), rfl⟩
  case round =>
    obtain ⟨rfl, rfl⟩ := hrel
    gi_wp2
    go_end0
    exact ⟨⟨_, rfl⟩, rfl⟩
theorem back_stops (Bs T n : Nat) (v : Value) (z : Int) (S : Nat → Shp) (hn : n ≤ 1048576) (w : World) (hBs : Bs < w.heap.size) (hT : T ≤ w.heap.size) (hc : w.cell? ⟨Bs, 0, none⟩ = some v) (hS : SrcS T w v n z S) :
    SeqStopsK Fence.wide 3 Tryz.prog 126 #[.pointer (some ⟨Bs, 0, none⟩)] (fun x : Pl n => encS z S x.1) (KS T Bs) (fun ys => ys.map (·.1) = downN n n) (fun pre => pre.map (·.1) <+: downN n n) n w := fun l J Jx W hW hJ hJx hY h0 => by
  have hc' := (hW.cell (p := ⟨Bs, 0, none⟩) hBs).trans hc
  rcases hS.below (hW.mono hT) with ⟨rfl, rfl⟩ | ⟨p, cap, rfl, hs⟩
  · exact (back1_nil l Bs W hc').mono fun e W' ⟨he, hw⟩ => ⟨he, .inl ⟨[], rfl, hw ▸ h0⟩⟩
  · exact back1_in l Bs T p n cap z S hn J Jx W hY hc' hs h0
theorem backward_any (a : Option Addr) (n cap : Nat) (w : World) : Calls Tryz.prog 99 #[.slice a n cap] w fun e w' => e = .returned (.func (.func 126) #[] #[.pointer (some ⟨w.heap.size, 0, none⟩)]) ∧ w' = w.alloc (.cells #[.slice a n cap] 110) := by
  go_enter Tryz.func99, Tryz.ntmps99
  go_wp2
  go_ret
  exact ⟨rfl, rfl⟩
/-- Whether a shape covers a centre. -/
def covS (z cx cy : Int) (S : Nat → Shp) (i : Nat) : Bool := coverB (S i).ki (S i).wi z cx cy (dblL (S i).X (S i).Y (S i).n)
/-- What holds between two rounds. -/
def FrSt (w : World) (sv : Value) (cx cy : Int) (C : Nat → Bool) {n : Nat} (pre : List (Pl n)) (W : World) : Prop :=
  (W.heap[w.heap.size]? = some (.cells #[.int .i64 cx, .int .i64 cy] 119 (0, 0)) ∧ Boxed W (w.heap.size + 1) 2 (.int .i64 0) ∧ Boxed W (w.heap.size + 1 + 1) 110 sv ∧ (∀ x ∈ pre, C x.1 = false)) ∧ Below w.heap.size w W
theorem FrSt.own (w : World) (sv : Value) (cx cy : Int) (C : Nat → Bool) (n B : Nat) (hB : w.heap.size ≤ B) : OwnFrom B (FrSt w sv cx cy C (n := n)) := fun pre W W' row h hg hr => by
  obtain ⟨⟨h1, h2, h3, h4⟩, h6⟩ := h
  have hr' := fun r e => (hr r e).2
  exact ⟨⟨objS_keep h1 hg hr', objS_keep h2 hg hr', objS_keep h3 hg hr', h4⟩, (ownFrom_below (β := Unit) (Nat.le_refl _) hB) () W W' row h6 hg hr⟩
theorem FrSt.below {w W W' : World} {sv : Value} {cx cy : Int} {C : Nat → Bool} {n : Nat} {pre : List (Pl n)} (h : FrSt w sv cx cy C pre W) (hb : Below W.heap.size W W') : FrSt w sv cx cy C pre W' := by
  obtain ⟨⟨h1, h2, h3, h4⟩, h6⟩ := h
  exact ⟨⟨(hb.block _ (lt_of_heap h1)).trans h1, (hb.block _ (lt_of_heap h2)).trans h2, (hb.block _ (lt_of_heap h3)).trans h3, h4⟩, bl_then h6 hb⟩
theorem FrSt.no {w W : World} {sv : Value} {cx cy : Int} {C : Nat → Bool} {n : Nat} {pre : List (Pl n)} {x : Pl n} (h : FrSt w sv cx cy C pre W) (hx : C x.1 = false) : FrSt w sv cx cy C (pre ++ [x]) W := by
  obtain ⟨⟨h1, h2, h3, h4⟩, h6⟩ := h
  refine ⟨⟨h1, h2, h3, fun y hy => ?_⟩, h6⟩
  rcases List.mem_append.1 hy with hy | hy
  · exact h4 y hy
  · obtain rfl : y = x := by simpa using hy
    exact hx
/-- What holds where one was found. -/
def FrEx (w : World) (C : Nat → Bool) (I : Nat → Int) {n : Nat} (c : Code) (pre : List (Pl n)) (W : World) : Prop :=
  (c = .ret ∧ ∃ (p : List (Pl n)) (x : Pl n), pre = p ++ [x] ∧ (∀ y ∈ p, C y.1 = false) ∧ C x.1 = true ∧ Boxed W (w.heap.size + 1) 2 (.int .i64 (I x.1))) ∧ Below w.heap.size w W
set_option maxHeartbeats 4000000 in
theorem frontOf_any (a : Option Addr) (n cap : Nat) (z cx cy : Int) (S : Nat → Shp) (w : World) (hS : SrcS w.heap.size w (.slice a n cap) n z S) (hP : ∀ i, i < n → ShpP w w.heap.size (S i)) (hn : n ≤ 1048576) :
    Calls Tryz.prog 67 #[.slice a n cap, .agg #[.int .i64 cx, .int .i64 cy]] w fun e w' => e = .returned (.int .i64 (paintI (covS z cx cy S) (fun i => (S i).id) n)) ∧ Below w.heap.size w w' := by
  refine (callsIn_wide (n := 4)).1 ?_
  refine callsIn_of_wp_marks Tryz.func67 rfl trivial ?_ rfl
  simp only [Tryz.ntmps67, List.size_toArray, List.length_cons, List.length_nil, Nat.reduceAdd, Nat.reduceSub, Array.replicate_succ, Array.replicate_zero, List.push_toArray, List.append_toArray, List.nil_append, List.cons_append]
  gi_wp2_with (refine ⟨trivial, ?_⟩; gi_at_call 99; refine (callsIn_wide.2 (backward_any _ _ _ _)).mono ?_; rintro e w' ⟨rfl, rfl⟩)
  obtain ⟨W0, hW0⟩ : ∃ W0, (((w.alloc (.cells #[.int .i64 cx, .int .i64 cy] 119)).alloc (.cells #[.int .i64 0] 2)).alloc (.cells #[.slice a n cap] 110) : World) = W0 := ⟨_, rfl⟩
  have o0 : W0.heap[w.heap.size]? = some (.cells #[.int .i64 cx, .int .i64 cy] 119 (0, 0)) := by
    rw [← hW0]
    rw [Below.heap_alloc _ _ _ (by simp <;> omega), Below.heap_alloc _ _ _ (by simp)]
    exact World.alloc_heap_new w _
  have b1 : Boxed W0 (w.heap.size + 1) 2 (.int .i64 0) := by
    rw [← hW0]
    have := (Boxed.new (w.alloc (.cells #[.int .i64 cx, .int .i64 cy] 119)) 2 (.int .i64 0)).alloc (.cells #[.slice a n cap] 110)
    simpa using this
  have b2 : Boxed W0 (w.heap.size + 1 + 1) 110 (.slice a n cap) := by
    rw [← hW0]
    have := Boxed.new ((w.alloc (.cells #[.int .i64 cx, .int .i64 cy] 119)).alloc (.cells #[.int .i64 0] 2)) 110 (.slice a n cap)
    simpa using this
  have hB0 : Below w.heap.size w W0 := by rw [← hW0]; (repeat (first | exact Below.refl _ _ | assumption | refine Below.drew ?_ | refine bl_alloc ?_ _ | refine bl_then ?_ (by assumption) | refine Below.setCell ?_ (by first | omega | (simp; done) | (simp; omega)) _ | refine bl_store ?_ ?_ _ _))
  have hsz : W0.heap.size = w.heap.size + 3 := by rw [← hW0]; simp
  rw [hW0]
  clear hW0
  have st0 : FrSt w (.slice a n cap) cx cy (covS z cx cy S) (n := n) [] W0 := ⟨⟨o0, b1, b2, fun x hx => by cases hx⟩, hB0⟩
  refine wpIn_rangeFunc_ownH rfl (by omega) (gf := 126) (lb := #[.pointer (some ⟨w.heap.size + 1 + 1, 0, none⟩)]) rfl trivial (enters_of Tryz.func126 (by kernel_rfl) rfl)
    (back_stops (w.heap.size + 1 + 1) w.heap.size n (.slice a n cap) z S hn W0 (by omega) (by omega) b2.cell (hS.below hB0)) (fun h k => KS.trans h k) (KS.put (by omega) (by omega)) (Below.refl _ _) (fun _ => rfl)
    (fun pre W => FrSt w (.slice a n cap) cx cy (covS z cx cy S) pre W)
    (fun c pre W => FrEx w (covS z cx cy S) (fun i => (S i).id) c pre W)
    (FrSt.own w _ cx cy _ n _ (by omega))
    ?hIx
    st0
    (fun x a' W => ∃ Bx, W.heap[Bx]? = some (.cells #[.int .i64 (S x.1).id, .func (.func (byF (S x.1).ki)) #[] #[], .slice (some ⟨(S x.1).g, 0, none⟩) (S x.1).n (S x.1).cg, .int .i64 (reachI (S x.1).wi z)] 114 (0, 0)) ∧ a' = { tmps := #[.slice a n cap, .agg #[.int .i64 cx, .int .i64 cy], undef, .pointer (some ⟨w.heap.size, 0, none⟩), .pointer (some ⟨w.heap.size + 1, 0, none⟩), undef, .pointer (some ⟨Bx, 0, none⟩), .slice a n cap, .func (.func 126) #[] #[.pointer (some ⟨w.heap.size + 1 + 1, 0, none⟩)], .int .i64 (x.1 : Int), shpV z (S x.1), undef, undef, undef, undef, undef], defers := [] })
    ?hAx ?assign ?body ?done ?stop
  case hIx =>
    rintro c pre A B row ⟨⟨hc, p, x, e1, e2, e3, e4⟩, hB⟩ hg hr
    exact ⟨⟨hc, p, x, e1, e2, e3, objS_keep e4 hg (fun r e => (hr r e).2)⟩, (ownFrom_below (β := Unit) (Nat.le_refl _) (by omega)) () A B row hB hg hr⟩
  case hAx =>
    rintro x a' _ X Y row ⟨Bx, e1, e2⟩ hg hr
    exact ⟨Bx, objS_keep e1 hg (fun r e => (hr r e).2), e2⟩
  case assign =>
    rintro l pre x W K hst hK
    have hK2 := hK { tmps := #[.slice a n cap, .agg #[.int .i64 cx, .int .i64 cy], undef, .pointer (some ⟨w.heap.size, 0, none⟩), .pointer (some ⟨w.heap.size + 1, 0, none⟩), undef, .pointer (some ⟨W.heap.size, 0, none⟩), .slice a n cap, .func (.func 126) #[] #[.pointer (some ⟨w.heap.size + 1 + 1, 0, none⟩)], .int .i64 (x.1 : Int), shpV z (S x.1), undef, undef, undef, undef, undef], defers := [] } (W.alloc (.cells #[.int .i64 (S x.1).id, .func (.func (byF (S x.1).ki)) #[] #[], .slice (some ⟨(S x.1).g, 0, none⟩) (S x.1).n (S x.1).cg, .int .i64 (reachI (S x.1).wi z)] 114))
      ((KeepsOthers.alloc _ _).from _) ((KS.refl _ _ _).alloc hst.2.size hst.1.2.2.1.lt _) (hst.below (bl_alloc (Below.refl _ _) _)) ⟨_, World.alloc_heap_new W _, rfl⟩
    have hsf : ∀ (ad : Addr) (m : Mode) (w : World), (store ad (.func (.func (byF (S x.1).ki)) #[] #[]) m).run Tryz.prog w = stored Tryz.prog w ad (.func (.func (byF (S x.1).ki)) #[] #[]) m := fun ad m w => run_store Tryz.prog w ad _ m rfl
    simp only [encS, shpV] at *
    have hsem : ∀ (ρ : Operand → Value) (o : Oper), (∀ c, o.op ≠ .defer c) → Oper.semAt (some l) ρ o = execOp ρ o := fun ρ o h => Oper.semAt_some l ρ o h
    gi_wp2
    exact hK2
  case body =>
    rintro l pre x a' W hl hlr hst ⟨Bx, hE, rfl⟩ hlt
    have HST : Hid (FrSt w (.slice a n cap) cx cy (covS z cx cy S) pre W) := hst
    have hPx := (hP x.1 x.2).below hst.2
    have e0 : W.cell? ⟨Bx, 0, none⟩ = some (.int .i64 (S x.1).id) := by simp [World.cell?, hE]
    have e1 : W.cell? ⟨Bx, 1, none⟩ = some (.func (.func (byF (S x.1).ki)) #[] #[]) := by simp [World.cell?, hE]
    have e2 : W.cell? ⟨Bx, 2, none⟩ = some (.slice (some ⟨(S x.1).g, 0, none⟩) (S x.1).n (S x.1).cg) := by simp [World.cell?, hE]
    have e3 : W.cell? ⟨Bx, 3, none⟩ = some (.int .i64 (reachI (S x.1).wi z)) := by simp [World.cell?, hE]
    have b0 : W.cell? ⟨w.heap.size, 0, none⟩ = some (.int .i64 cx) := by simp [World.cell?, hst.1.1]
    have b1 : W.cell? ⟨w.heap.size, 1, none⟩ = some (.int .i64 cy) := by simp [World.cell?, hst.1.1]
    have HSZ : Hid (w.heap.size ≤ W.heap.size) := hst.2.size
    have HMC : Hid (Calls Tryz.prog 100 #[shpV z (S x.1), .agg #[.int .i64 cx, .int .i64 cy]] W fun e w' => e = .returned (.bool (covS z cx cy S x.1)) ∧ Below W.heap.size W w') := covers_any (S x.1).id (S x.1).ki (S x.1).wi z cx cy (S x.1).g (S x.1).n (S x.1).cg (S x.1).X (S x.1).Y W hPx.2.2.2.2 (Nat.lt_of_lt_of_le hPx.1 hst.2.size) hPx.2.1 hPx.2.2.1 hPx.2.2.2.1
    clear hst hPx
    obtain ⟨mb, hmb⟩ : ∃ mb, covS z cx cy S x.1 = mb := ⟨_, rfl⟩
    have HMB : Hid (covS z cx cy S x.1 = mb) := hmb
    rw [hmb] at HMC
    clear hmb
    have hsem : ∀ (ρ : Operand → Value) (o : Oper), (∀ c, o.op ≠ .defer c) → Oper.semAt (some l) ρ o = execOp ρ o := fun ρ o h => Oper.semAt_some l ρ o h
    cases mb
    · gi_wp2_with (refine ⟨trivial, ?_⟩; gi_at_call 100; refine ((callsIn_wide.2 HMC.out).inRound l).mono ?_; rintro e W1 ⟨rfl, hbm⟩)
      exact ⟨(keepsS hbm).from _, ⟨hbm.mono HSZ.out, hbm.block _ HST.out.1.2.2.1.lt⟩, (HST.out.below hbm).no HMB.out⟩
    · gi_wp2_with (refine ⟨trivial, ?_⟩; gi_at_call 100; refine ((callsIn_wide.2 HMC.out).inRound l).mono ?_; rintro e W1 ⟨rfl, hbm⟩; have hE1 := (hbm.block _ (lt_of_heap hE)).trans hE; have g0 : W1.cell? ⟨Bx, 0, none⟩ = some (.int .i64 (S x.1).id) := (by simp [World.cell?, hE1]); have bR := (HST.out.below hbm).1.2.1; have cR := bR.cell; have fR := bR.frozen)
      exact ⟨((keepsS hbm).trans (KeepsOthers.setCell _ _ _)).from _, ⟨rfl, pre, x, rfl, HST.out.1.2.2.2, HMB.out, bR.set _⟩, (HST.out.below hbm).2.setCell (p := ⟨w.heap.size + 1, 0, none⟩) (by simp) _⟩
  case done =>
    rintro D ys W hD hys ⟨⟨o0, bR, bS, hall⟩, hB⟩ hK
    have cR := bR.cell
    have fR := bR.frozen
    gi_wp2
    have hK' := (KeepsOthers.setCell W ⟨w.heap.size + 1, 0, none⟩ (.int .i64 0)).same D _ hK rfl
    refine ⟨by simp, .inl ⟨_, _, rfl, run_takeDeferred hK', ?_⟩⟩
    have hc5 := cell_kept (World.cell?_setCell_same' W ⟨w.heap.size + 1, 0, none⟩ (.int .i64 0) (by rw [cR]; rfl)) (grownBy_putObj' _ D (.deferred none)) (fun r e => by cases e; exact ⟨_, hK', rfl⟩)
    refine ⟨.int .i64 0, ?_, by rw [front_done hys hall], (hB.setCell (p := ⟨w.heap.size + 1, 0, none⟩) (by simp) _).trans (belowK_b (w := w) (Nat.le_refl _) _ D _ _ (by omega) hK' rfl rfl)⟩
    simp [results, Tryz.f67, go_sem, hc5]
  case stop =>
    rintro D c pre W hD hpre ⟨⟨rfl, p, x, rfl, hall, hx, bR⟩, hB⟩ hK
    have cR := bR.cell
    gi_wp2
    refine ⟨by simp, .inl ⟨_, _, rfl, run_takeDeferred hK, ?_⟩⟩
    have hc5 := cell_kept cR (grownBy_putObj' _ D (.deferred none)) (fun r e => by cases e; exact ⟨_, hK, rfl⟩)
    refine ⟨.int .i64 (S x.1).id, ?_, by rw [front_stop hpre hall hx], hB.trans (belowK_b (w := w) (Nat.le_refl _) W D _ _ (by omega) hK rfl rfl)⟩
    simp [results, Tryz.f67, go_sem, hc5]
end Go.Proofs.YtciidkmonfmipaaGreat
/- Shapes as a row of their own; what a closure over them tells of a pixel: the program. -/

namespace Go.Proofs.YtciidkmonfmipaaGreat
open Go.RowKit
set_option linter.unusedSimpArgs false
set_option linter.unusedVariables false
set_option maxRecDepth 100000

def scell (z : Int) (s : Shp) : List Value := [.int .i64 s.id, .func (.func (byF s.ki)) #[] #[], .slice (some ⟨s.g, 0, none⟩) s.n s.cg, .int .i64 (reachI s.wi z)]
/-- The cells of the first k shapes. -/
def cellsS (z : Int) (S : Nat → Shp) : Nat → List Value
  | 0 => []
  | k + 1 => cellsS z S k ++ scell z (S k)
theorem cellsS_len (z : Int) (S : Nat → Shp) : ∀ k, (cellsS z S k).length = k * 4
  | 0 => rfl
  | k + 1 => by rw [cellsS, List.length_append, cellsS_len z S k]; simp [scell]; omega
theorem cellsS_at (z : Int) (S : Nat → Shp) : ∀ (k i j : Nat), i < k → j < 4 → (cellsS z S k)[i * 4 + j]? = (scell z (S i))[j]?
  | k + 1, i, j, hi, hj => by
    rw [cellsS]
    by_cases e : i = k
    · subst e
      rw [List.getElem?_append_right (by rw [cellsS_len]; omega), cellsS_len]
      congr 1
      omega
    · rw [List.getElem?_append_left (by rw [cellsS_len]; omega)]
      exact cellsS_at z S k i j (by omega) hj
theorem cellsS_congr {z : Int} {S S' : Nat → Shp} : ∀ {k : Nat}, (∀ i, i < k → S i = S' i) → cellsS z S k = cellsS z S' k
  | 0, _ => rfl
  | k + 1, h => by rw [cellsS, cellsS, cellsS_congr (fun i hi => h i (by omega)), h k (by omega)]
def SRow (base : Nat) (w : World) (v : Value) (k : Nat) (z : Int) (S : Nat → Shp) : Prop := w.ownsRow base 114 4 v k (cellsS z S k)
/-- The shape of a feature. -/
def shpOf (s : Shp) (f : Feat) : Prop := s.id = f.id ∧ s.ki = f.ki ∧ s.wi = f.wi ∧ s.n = f.n ∧ s.X = f.X ∧ s.Y = f.Y
theorem SRow.src {base k : Nat} {w : World} {v : Value} {z : Int} {S : Nat → Shp} (h : SRow base w v k z S) (hk : k = 0 → v = .slice none 0 0) (hP : ∀ i, i < k → ShpP w w.heap.size (S i)) : SrcS w.heap.size w v k z S := by
  by_cases h0 : k = 0
  · exact .inl ⟨hk h0, h0⟩
  · obtain ⟨h1, h2 | ⟨g, cp, cur, hv, hg, hh, hkc, hcm, hcs, htk⟩⟩ := id h
    · exact absurd h2.2 h0
    · have hgl : g < w.heap.size := lt_of_heap hh
      subst hv
      have hrow : w.ownsRow base 114 4 (.slice (some ⟨g, 0, none⟩) k cp) k (cellsS z S k) := h
      refine .inr ⟨g, cp, rfl, hgl, fun i hi => ⟨?_, hP i hi⟩⟩
      have c : ∀ j, j < 4 → w.cell? ⟨g, i * 4 + j, none⟩ = (scell z (S i))[j]? := fun j hj => (hrow.cellAt _ (by omega)).trans (cellsS_at z S k i j hi hj)
      exact ⟨c 0 (by omega), c 1 (by omega), c 2 (by omega), c 3 (by omega)⟩
theorem SRow.not_pts {base k n g : Nat} {w : World} {v : Value} {z : Int} {S : Nat → Shp} {X Y : Nat → Int} (h : SRow base w v k z S) (hk : k = 0 → v = .slice none 0 0) (hp : PtsAt w g 0 n X Y) (hn : 0 < n) : some g ≠ v.ownBlock := by
  intro e
  by_cases h0 : k = 0
  · rw [hk h0] at e; cases e
  · obtain ⟨h1, h2 | ⟨g', cp, cur, hv, hg, hh, hkc, hcm, hcs, htk⟩⟩ := id h
    · exact absurd h2.2 h0
    · subst hv
      simp [Value.ownBlock] at e
      subst e
      have hrow : w.ownsRow base 114 4 (.slice (some ⟨g, 0, none⟩) k cp) k (cellsS z S k) := h
      have c1 := (hrow.cellAt 1 (by omega)).trans (cellsS_at z S k 0 1 (by omega) (by omega))
      have c2 := (hp 0 hn).2
      simp only [Nat.zero_mul, Nat.zero_add, Nat.mul_zero] at c2
      rw [c1] at c2
      simp [scell] at c2
theorem covS_same {z cx cy : Int} {S : Nat → Shp} {G : Nat → Feat} {n : Nat} (h : ∀ i, i < n → shpOf (S i) (G i)) : ∀ {k : Nat}, k ≤ n → paintI (covS z cx cy S) (fun i => (S i).id) k = paintI (fun i => covF z cx cy (G i)) (fun i => (G i).id) k
  | 0, _ => rfl
  | k + 1, hk => by
    obtain ⟨e1, e2, e3, e4, e5, e6⟩ := h k (by omega)
    have ec : covS z cx cy S k = covF z cx cy (G k) := by unfold covS covF; rw [e2, e3, e4, e5, e6]
    rw [paintI, paintI, ec, e1, covS_same h (by omega)]
set_option maxHeartbeats 4000000 in
theorem raster1_any (B4 B5 : Nat) (a : Option Addr) (n cap : Nat) (z x y : Int) (S : Nat → Shp) (G : Nat → Feat) (w : World) (h4 : w.cell? ⟨B4, 0, none⟩ = some (.int .i64 z)) (h5 : w.cell? ⟨B5, 0, none⟩ = some (.slice a n cap)) (hS : SrcS w.heap.size w (.slice a n cap) n z S) (hP : ∀ i, i < n → ShpP w w.heap.size (S i)) (hn : n ≤ 12) (hsh : ∀ i, i < n → shpOf (S i) (G i)) (hpx : pixB z x y = true) :
    Calls Tryz.prog 66 #[.int .i64 x, .int .i64 y, .pointer (some ⟨B5, 0, none⟩), .pointer (some ⟨B4, 0, none⟩)] w fun e w' => e = .returned (.int .i64 (paintF G n z x y)) ∧ Below w.heap.size w w' := by
  have hl4 := World.block_lt_of_cell? _ _ h4
  have hl5 := World.block_lt_of_cell? _ _ h5
  have HF : Hid (∀ W, Below w.heap.size w W → Calls Tryz.prog 67 #[.slice a n cap, .agg #[.int .i64 (centI z x), .int .i64 (centI z y)]] W fun e w' => e = .returned (.int .i64 (paintF G n z x y)) ∧ Below W.heap.size W w') := fun W hW => by
    have hS' : SrcS W.heap.size W (.slice a n cap) n z S := by
      rcases hS.below hW with h | ⟨p, c, e, h1, h2⟩
      · exact .inl h
      · exact .inr ⟨p, c, e, Nat.lt_of_lt_of_le h1 hW.size, fun i hi => ⟨(h2 i hi).1, Nat.lt_of_lt_of_le (h2 i hi).2.1 hW.size, (h2 i hi).2.2⟩⟩
    have hP' : ∀ i, i < n → ShpP W W.heap.size (S i) := fun i hi => ⟨Nat.lt_of_lt_of_le (hP i hi).1 hW.size, ((hP i hi).below hW).2⟩
    have := frontOf_any a n cap z (centI z x) (centI z y) S W hS' hP' (by omega)
    rw [covS_same hsh (Nat.le_refl n)] at this
    exact this
  have sC := fun w => impl_CentreOf_any z x y w
  rw [show centV z x y = .agg #[.int .i64 0, .int .i64 (centI z x), .int .i64 (centI z y)] by simp [centV, hpx]] at sC
  have c4 : ∀ W', Below w.heap.size w W' → W'.cell? ⟨B4, 0, none⟩ = some (.int .i64 z) := fun W' h => (h.cell (p := ⟨B4, 0, none⟩) hl4).trans h4
  have c5 : ∀ W', Below w.heap.size w W' → W'.cell? ⟨B5, 0, none⟩ = some (.slice a n cap) := fun W' h => (h.cell (p := ⟨B5, 0, none⟩) hl5).trans h5
  clear hS hP hsh hpx h4 h5
  generalize centI z x = cx at *
  generalize centI z y = cy at *
  generalize paintF G n z x y = pf at *
  have f1 : ∀ w, (Instr.field 121 (.agg #[.int .i64 0, .int .i64 cx, .int .i64 cy]) 1).run Tryz.prog w = .ok (.agg #[.int .i64 cx, .int .i64 cy]) w := fun _ => by kernel_rfl
  have hr : Below w.heap.size w w := Below.refl _ _
  go_enter Tryz.func66, Tryz.ntmps66
  go_wp2_with fail
  go_region_held3 (fun W' => Below w.heap.size w W') ((repeat (first | exact Below.refl _ _ | assumption | refine Below.drew ?_ | refine bl_alloc ?_ _ | refine bl_then ?_ (by assumption) | refine Below.setCell ?_ (by first | omega | (simp; done) | (simp; omega)) _ | refine bl_store ?_ ?_ _ _)))
    (first
      | (go_at_call 68; refine (sC _).mono ?_; rintro e w1 ⟨rfl, hb⟩)
      | (go_at_call 67; refine (HF.out _ (by assumption)).mono ?_; rintro e w1 ⟨rfl, hb⟩)
      | fail)
  go_wp2
  go_ret
  exact ⟨rfl, by assumption⟩
theorem enter_rt1 (args : Array Value) (w : World) : (callFunc 66 args).run Tryz.prog w = .ok (.enter 66 args) w := by
  have h1 : (Tryz.f66).name ≠ "runtime.NumGoroutine" := by
    have : ((Tryz.f66).name == "runtime.NumGoroutine") = false := by kernel_rfl
    simpa using this
  have hb : ∃ c, (Tryz.f66).body = some c := ⟨_, rfl⟩
  obtain ⟨c, hb⟩ := hb
  simp [callFunc, Tryz.func66, h1, hb]
end Go.Proofs.YtciidkmonfmipaaGreat
