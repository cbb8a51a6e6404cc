/- Several texts in one. -/
import Derived.Test.YtciidkmonfmipaaGreatVPutTile13
import Derived.Test.YtciidkmonfmipaaGreatVPutTile5
import Derived.Test.YtciidkmonfmipaaGreatVPutTile3
import Derived.Test.YtciidkmonfmipaaGreatVPutTile18
import Derived.RangeFuncNested
import Derived.RangeFuncBound
import Derived.RangeFuncCalls
import Derived.RangeFuncLeaves
import Derived.RangeFuncBox
import Derived.Shelf.Abstract
import Derived.Shelf.RegionOpen
import Derived.OwnWalkIn
import Derived.TacticsInMore
import Derived.LoopNIn
import Derived.LoopIn

/- A feature as it is at a zoom, and whether it covers a centre: the program. -/

namespace Go.Proofs.YtciidkmonfmipaaGreat
open Go.RowKit
set_option linter.unusedSimpArgs false
set_option linter.unusedVariables false
set_option maxRecDepth 100000

theorem doubled_new (b off n cap : Nat) (X Y : Nat → Int) (w : World) (hp : PtsAt w b off n X Y) (hbl : b < w.heap.size) (hn0 : 0 < n) (hn : n ≤ 40) (hin : ∀ i, i < n → inW (X i) (Y i) = true) :
    Calls Tryz.prog 96 #[.slice (some ⟨b, off, none⟩) n cap] w fun e w' => ∃ g cg, e = .returned (.slice (some ⟨g, 0, none⟩) n cg) ∧ w.heap.size ≤ g ∧ g < w'.heap.size ∧ n ≤ cg ∧ PtsAt w' g 0 n (px (dblL X Y n)) (py (dblL X Y n)) ∧ Below w.heap.size w w' :=
  (doubled_any b off n cap X Y w hp hbl hn hin).mono fun e w' ⟨v, he, hR, hb⟩ => by
    obtain ⟨g, cg, hv, h1, h2, h3, h4⟩ := hR.at (by rw [dblL_len]; exact hn0)
    rw [dblL_len] at hv h3 h4
    exact ⟨g, cg, by rw [he, hv], h1, h2, h3, h4, hb⟩
theorem PtsAt.apart {w : World} {b r o n : Nat} {v : Value} {X Y : Nat → Int} (h : PtsAt w b 0 n X Y) (hr : b ≠ r) : PtsAt (w.setCell ⟨r, o, none⟩ v) b 0 n X Y := fun i hi =>
  ⟨(set1_other (fun e => hr (by injection e with e1; exact e1.symm))).trans (h i hi).1, (set1_other (fun e => hr (by injection e with e1; exact e1.symm))).trans (h i hi).2⟩
/-- What covers, by its kind. -/
def byF (ki : Int) : Nat := if ki = 3 then 124 else 125
/-- A feature as it is at a zoom, as a value. -/
abbrev shapeV (id ki wi z : Int) (g n cg : Nat) : Value := .agg #[.int .i64 id, .func (.func (byF ki)) #[] #[], .slice (some ⟨g, 0, none⟩) n cg, .int .i64 (reachI wi z)]
theorem coveringOf_by (ki : Int) (w : World) : Calls Tryz.prog 95 #[.int .i64 ki] w fun e w' => e = .returned (.func (.func (byF ki)) #[] #[]) ∧ w = w' := by
  unfold byF
  by_cases h : ki = 3
  · subst h
    exact coveringOf_area w
  · rw [if_neg h]
    exact coveringOf_line ki w h
theorem there4s (V : World) (a b c d : Value) (t : TypeId) : There (V.alloc (.cells #[a, b, c, d] t)) V.heap.size 4 := fun o ho => by
  have : o = 0 ∨ o = 1 ∨ o = 2 ∨ o = 3 := by omega
  rcases this with rfl | rfl | rfl | rfl <;> exact ⟨⟨_, by simp [go_sem]; rfl⟩, by simp [go_sem]⟩
set_option maxHeartbeats 4000000 in
theorem shapeOf_any {off : Nat} (id la ki wi z : Int) (b n cap : Nat) (X Y : Nat → Int) (lab : ByteArray) (pr : Int) (w : World) (hp : PtsAt w b off n X Y) (hbl : b < w.heap.size) (hn0 : 0 < n) (hn : n ≤ 40) (hin : ∀ i, i < n → inW (X i) (Y i) = true) (hw : 0 ≤ wi ∧ wi ≤ 3) (hz : zoomB z = true) :
    Calls Tryz.prog 64 #[.agg #[.int .i64 id, .int .i64 la, .int .i64 ki, .int .i64 wi, .slice (some ⟨b, off, none⟩) n cap, .string lab, .int .i64 pr], .int .i64 z] w fun e w' => ∃ g cg, e = .returned (shapeV id ki wi z g n cg) ∧ g < w'.heap.size ∧ n ≤ cg ∧ PtsAt w' g 0 n (px (dblL X Y n)) (py (dblL X Y n)) ∧ Below w.heap.size w w' := by
  have HP : Hid (PtsAt w b off n X Y) := hp
  have HIN : Hid (∀ i, i < n → inW (X i) (Y i) = true) := hin
  have HW : Hid (0 ≤ wi ∧ wi ≤ 3) := hw
  have HR : Hid (∀ W, Calls Tryz.prog 97 #[.agg #[.int .i64 id, .int .i64 la, .int .i64 ki, .int .i64 wi, .slice (some ⟨b, off, none⟩) n cap, .string lab, .int .i64 pr], .int .i64 z] W fun e w' => e = .returned (.int .i64 (reachI wi z)) ∧ Below W.heap.size W w') := fun W => reachAt_any id la ki wi z _ lab pr W hw hz ⟨_, _, _, rfl⟩
  have HV : Hid (∀ W, Calls Tryz.prog 95 #[.int .i64 ki] W fun e w' => e = .returned (.func (.func (byF ki)) #[] #[]) ∧ W = w') := fun W => coveringOf_by ki W
  clear hp hin hw
  show Calls Tryz.prog 64 _ w fun e w' => ∃ g cg, e = .returned (.agg #[.int .i64 id, .func (.func (byF ki)) #[] #[], .slice (some ⟨g, 0, none⟩) n cg, .int .i64 (reachI wi z)]) ∧ g < w'.heap.size ∧ n ≤ cg ∧ PtsAt w' g 0 n (px (dblL X Y n)) (py (dblL X Y n)) ∧ Below w.heap.size w w'
  generalize byF ki = fby at *
  generalize reachI wi z = rch at *
  have hsf : ∀ (a : Addr) (m : Mode) (w : World), (store a (.func (.func fby) #[] #[]) m).run Tryz.prog w = stored Tryz.prog w a (.func (.func fby) #[] #[]) m := fun a m w => run_store Tryz.prog w a _ m rfl
  go_enter Tryz.func64, Tryz.ntmps64
  go_wp2_with fail
  generalize hW : ((w.alloc _).alloc _ : World) = W
  have hB0 : Below w.heap.size w W := by subst hW; (repeat (first | exact Below.refl _ _ | assumption | refine Below.drew ?_ | refine bl_alloc ?_ _ | refine bl_then ?_ (by assumption) | refine Below.setCell ?_ (by first | omega | (simp; done) | (simp; omega)) _ | refine bl_store ?_ ?_ _ _))
  have HT : Hid (There W (w.heap.size + 1) 4) := by
    show There _ _ _
    subst hW
    have := there4s (w.alloc (.cells #[.int .i64 id, .int .i64 la, .int .i64 ki, .int .i64 wi, .slice (some ⟨b, off, none⟩) n cap, .string lab, .int .i64 pr] 101)) (.int .i64 0) .nilFunc (.slice none 0 0) (.int .i64 0) 114
    simpa using this
  have c0 : ∀ W', Below (w.heap.size + 1) W W' → W'.cell? ⟨w.heap.size, 0, none⟩ = some (.int .i64 id) := fun W' h => by
    rw [h.cell (by simp)]; subst hW; simp [go_sem]
  have c1 : ∀ W', Below (w.heap.size + 1) W W' → W'.cell? ⟨w.heap.size, 1, none⟩ = some (.int .i64 la) := fun W' h => by
    rw [h.cell (by simp)]; subst hW; simp [go_sem]
  have c2 : ∀ W', Below (w.heap.size + 1) W W' → W'.cell? ⟨w.heap.size, 2, none⟩ = some (.int .i64 ki) := fun W' h => by
    rw [h.cell (by simp)]; subst hW; simp [go_sem]
  have c3 : ∀ W', Below (w.heap.size + 1) W W' → W'.cell? ⟨w.heap.size, 3, none⟩ = some (.int .i64 wi) := fun W' h => by
    rw [h.cell (by simp)]; subst hW; simp [go_sem]
  have c4 : ∀ W', Below (w.heap.size + 1) W W' → W'.cell? ⟨w.heap.size, 4, none⟩ = some (.slice (some ⟨b, off, none⟩) n cap) := fun W' h => by
    rw [h.cell (by simp)]; subst hW; simp [go_sem]
  have c5 : ∀ W', Below (w.heap.size + 1) W W' → W'.cell? ⟨w.heap.size, 5, none⟩ = some (.string lab) := fun W' h => by
    rw [h.cell (by simp)]; subst hW; simp [go_sem]
  have c6 : ∀ W', Below (w.heap.size + 1) W W' → W'.cell? ⟨w.heap.size, 6, none⟩ = some (.int .i64 pr) := fun W' h => by
    rw [h.cell (by simp)]; subst hW; simp [go_sem]
  have hsz : w.heap.size + 1 < W.heap.size := by subst hW; simp
  clear hW
  have HB0 : Hid (Below w.heap.size w W) := hB0
  have HPW : Hid (PtsAt W b off n X Y) := HP.out.below hB0 hbl
  have hblW : b < W.heap.size := Nat.lt_of_lt_of_le hbl hB0.size
  clear hB0 HP
  refine wp_region_noPanic ?_
  refine wp_region_held_drew (S := fun W' => Below (w.heap.size + 1) W W') (by kernel_rfl) (by (repeat (first | exact Below.refl _ _ | assumption | refine Below.drew ?_ | refine bl_alloc ?_ _ | refine bl_then ?_ (by assumption) | refine Below.setCell ?_ (by first | omega | (simp; done) | (simp; omega)) _ | refine bl_store ?_ ?_ _ _))) (fun hHeld => ?_)
  have hX0 : Below (w.heap.size + 1) W W.drew := hHeld
  refine takeD (i := 0) (d := some 5) (v := ?v0) rfl rfl (by kernel_rfl) (by kernel_rfl) (by kernel_rfl) (fun _ _ _ h => h) (Or.inl ⟨by rfl, ?hy0⟩) (by assumption) ?_
  case hy0 => (intro w hSw; (try dsimp only at hSw); go_simp <;> with_reducible rfl)
  try simp only [Act.put, List.setIfInBounds_toArray, List.set_cons_zero, List.set_cons_succ]
  refine takeD (i := 1) (d := some 6) (v := ?v1) rfl rfl (by kernel_rfl) (by kernel_rfl) (by kernel_rfl) (fun _ _ _ h => h) (Or.inl ⟨by rfl, ?hy1⟩) (by assumption) ?_
  case hy1 => (intro w hSw; (try dsimp only at hSw); go_simp <;> with_reducible rfl)
  try simp only [Act.put, List.setIfInBounds_toArray, List.set_cons_zero, List.set_cons_succ]
  refine takeD (i := 2) (d := some 7) (v := ?v2) rfl rfl (by kernel_rfl) (by kernel_rfl) (by kernel_rfl) (fun _ _ _ h => h) (Or.inl ⟨by rfl, ?hy2⟩) (by assumption) ?_
  case hy2 => (intro w hSw; (try dsimp only at hSw); go_simp <;> with_reducible rfl)
  try simp only [Act.put, List.setIfInBounds_toArray, List.set_cons_zero, List.set_cons_succ]
  refine takeD (i := 3) (d := some 8) (v := ?v3) rfl rfl (by kernel_rfl) (by kernel_rfl) (by kernel_rfl) (fun _ _ _ h => h) (Or.inl ⟨by rfl, ?hy3⟩) (by assumption) ?_
  case hy3 => (intro w hSw; (try dsimp only at hSw); go_simp <;> with_reducible rfl)
  try simp only [Act.put, List.setIfInBounds_toArray, List.set_cons_zero, List.set_cons_succ]
  refine takeD (i := 5) (d := some 10) (v := ?v5) rfl rfl (by kernel_rfl) (by kernel_rfl) (by kernel_rfl) (fun _ _ _ h => h) (Or.inl ⟨by rfl, ?hy5⟩) (by assumption) ?_
  case hy5 => (intro w hSw; (try dsimp only at hSw); go_simp <;> with_reducible rfl)
  try simp only [Act.put, List.setIfInBounds_toArray, List.set_cons_zero, List.set_cons_succ]
  refine takeD (i := 6) (d := some 11) (v := ?v6) rfl rfl (by kernel_rfl) (by kernel_rfl) (by kernel_rfl) (fun _ _ _ h => h) (Or.inl ⟨by rfl, ?hy6⟩) (by assumption) ?_
  case hy6 => (intro w hSw; (try dsimp only at hSw); go_simp <;> with_reducible rfl)
  try simp only [Act.put, List.setIfInBounds_toArray, List.set_cons_zero, List.set_cons_succ]
  refine takeD (i := 8) (d := some 13) (v := ?v8) rfl rfl (by kernel_rfl) (by kernel_rfl) (by kernel_rfl) (fun _ _ _ h => h) (Or.inl ⟨by rfl, ?hy8⟩) (by assumption) ?_
  case hy8 => (intro w hSw; (try dsimp only at hSw); go_simp <;> with_reducible rfl)
  try simp only [Act.put, List.setIfInBounds_toArray, List.set_cons_zero, List.set_cons_succ]
  refine takeD (i := 9) (d := some 14) (v := ?v9) rfl rfl (by kernel_rfl) (by kernel_rfl) (by kernel_rfl) (fun _ _ _ h => h) (Or.inl ⟨by rfl, ?hy9⟩) (by assumption) ?_
  case hy9 => (intro w hSw; (try dsimp only at hSw); go_simp <;> with_reducible rfl)
  try simp only [Act.put, List.setIfInBounds_toArray, List.set_cons_zero, List.set_cons_succ]
  refine wpAnyH_ready (rs := [4]) (by kernel_rfl) (by simp) ?_
  refine (AllReadyH.cons rfl (fun K hK => ?_) AllReadyH.nil)
  go_simp
  refine Calls.mono (HV.out _) ?_
  rintro e w1 ⟨rfl, rfl⟩
  go_wp2_with fail
  refine hK.out _ _ hX0 (fun hHeld => ?_)
  clear hK K
  try simp only [Act.put, List.setIfInBounds_toArray, List.set_cons_zero, List.set_cons_succ]
  refine wpAnyH_ready (rs := [7]) (by kernel_rfl) (by simp) ?_
  refine (AllReadyH.cons rfl (fun K hK => ?_) AllReadyH.nil)
  go_simp
  refine Calls.mono (doubled_new b off n cap X Y _ (PtsAt.below HPW.out (show Below W.heap.size W W.drew by (repeat (first | exact Below.refl _ _ | assumption | refine Below.drew ?_ | refine bl_alloc ?_ _ | refine bl_then ?_ (by assumption) | refine Below.setCell ?_ (by first | omega | (simp; done) | (simp; omega)) _ | refine bl_store ?_ ?_ _ _))) hblW) hblW hn0 hn HIN.out) ?_
  rintro e w2 ⟨g, cg, rfl, hgg, hgl, hcg, hPg, hb2⟩
  have hgW : W.heap.size ≤ g := hgg
  have hF2 : Below W.heap.size W w2 := (show Below W.heap.size W W.drew by (repeat (first | exact Below.refl _ _ | assumption | refine Below.drew ?_ | refine bl_alloc ?_ _ | refine bl_then ?_ (by assumption) | refine Below.setCell ?_ (by first | omega | (simp; done) | (simp; omega)) _ | refine bl_store ?_ ?_ _ _))).trans hb2
  have hX2 : Below (w.heap.size + 1) W w2 := hF2.mono (Nat.le_of_lt hsz)
  go_wp2_with fail
  refine hK.out _ _ hX2 (fun hHeld => ?_)
  clear hK K hb2
  try simp only [Act.put, List.setIfInBounds_toArray, List.set_cons_zero, List.set_cons_succ]
  refine wpAnyH_ready (rs := [10]) (by kernel_rfl) (by simp) ?_
  refine (AllReadyH.cons rfl (fun K hK => ?_) AllReadyH.nil)
  go_simp
  refine Calls.mono (HR.out _) ?_
  rintro e w3 ⟨rfl, hb3⟩
  have hF3 : Below W.heap.size W w3 := bl_then hF2 hb3
  have hX3 : Below (w.heap.size + 1) W w3 := hF3.mono (Nat.le_of_lt hsz)
  have hP3 : PtsAt w3 g 0 n (px (dblL X Y n)) (py (dblL X Y n)) := PtsAt.below hPg hb3 hgl
  have hg3 : g < w3.heap.size := Nat.lt_of_lt_of_le hgl hb3.size
  have hge : W.heap.size ≤ g ∨ True := .inr trivial
  go_wp2_with fail
  refine hK.out _ _ hX3 (fun hHeld => ?_)
  clear hK K hb3
  try simp only [Act.put, List.setIfInBounds_toArray, List.set_cons_zero, List.set_cons_succ]
  refine takeD (i := 11) (d := some 16) (v := ?v11) rfl rfl (by kernel_rfl) (by kernel_rfl) (by kernel_rfl) (fun _ _ _ h => h) (Or.inl ⟨by rfl, ?hy11⟩) (by assumption) ?_
  case hy11 => (intro w hSw; (try dsimp only at hSw); go_simp <;> with_reducible rfl)
  try simp only [Act.put, List.setIfInBounds_toArray, List.set_cons_zero, List.set_cons_succ]
  have hT3 := HT.out.below hF3
  have HT3 : Hid (There w3 (w.heap.size + 1) 4) := hT3
  have t0 := hT3.cell 0 (by omega)
  have t1 := hT3.cell 1 (by omega)
  have t2 := hT3.cell 2 (by omega)
  have t3 := hT3.cell 3 (by omega)
  have f0 := (hT3 0 (by omega)).2
  have f1 := (hT3 1 (by omega)).2
  have f2 := (hT3 2 (by omega)).2
  have f3 := (hT3 3 (by omega)).2
  clear hT3
  refine wpAnyH_ready (rs := [12]) (by kernel_rfl) (by simp) ?_
  refine (AllReadyH.cons rfl (fun K hK => ?_) AllReadyH.nil)
  go_simp
  have HBs : Below (w.heap.size + 1) W ((((w3.setCell ⟨w.heap.size + 1, 0, none⟩ (.int .i64 id)).setCell ⟨w.heap.size + 1, 1, none⟩ (.func (.func fby) #[] #[])).setCell ⟨w.heap.size + 1, 2, none⟩ (.slice (some ⟨g, 0, none⟩) n cg)).setCell ⟨w.heap.size + 1, 3, none⟩ (.int .i64 rch)) := (((hX3.setCell (Nat.le_refl _) _).setCell (Nat.le_refl _) _).setCell (Nat.le_refl _) _).setCell (Nat.le_refl _) _
  refine hK.out _ _ HBs (fun hHeld => ?_)
  clear hK K
  try simp only [Act.put, List.setIfInBounds_toArray, List.set_cons_zero, List.set_cons_succ]
  refine wpAnyH_done (by kernel_rfl) ?_ _
  refine NoPanic.normal ?_
  go_wp2_with fail
  obtain ⟨q0, q1, q2, q3⟩ := set4_at (a := .int .i64 id) (b := .func (.func fby) #[] #[]) (c := .slice (some ⟨g, 0, none⟩) n cg) (d := .int .i64 rch) HT3.out
  refine bodyPost_ret (v := .agg #[.int .i64 id, .func (.func fby) #[] #[], .slice (some ⟨g, 0, none⟩) n cg, .int .i64 rch]) (by simp [results, Tryz.results64, go_sem, q0, q1, q2, q3]) rfl ⟨g, cg, rfl, by simpa [World.setCell] using hg3, hcg, ?_, (HB0.out.trans (HBs.mono (Nat.le_succ _)))⟩
  exact (((hP3.apart (by omega)).apart (by omega)).apart (by omega)).apart (by omega)
theorem enter_of {f : Nat} {fn : Func} (hf : Tryz.prog.funcs[f]? = some fn) (h1 : (fn.name == "runtime.NumGoroutine") = false) (hb : fn.body.isSome = true) (args : Array Value) (w : World) : (callFunc f args).run Tryz.prog w = .ok (.enter f args) w := by
  have h1' : fn.name ≠ "runtime.NumGoroutine" := by simpa using h1
  obtain ⟨c, hc⟩ := Option.isSome_iff_exists.1 hb
  simp [callFunc, hf, h1', hc]
theorem enter_by (ki : Int) (args : Array Value) (w : World) : (callFunc (byF ki) args).run Tryz.prog w = .ok (.enter (byF ki) args) w := by
  unfold byF
  split
  · exact enter_of Tryz.func124 (by kernel_rfl) (by kernel_rfl) args w
  · exact enter_of Tryz.func125 (by kernel_rfl) (by kernel_rfl) args w
/-- What a kind covers with. -/
theorem by_any (ki wi z cx cy : Int) (g n cg : Nat) (X Y : Nat → Int) (w : World) (hp : PtsAt w g 0 n (px (dblL X Y n)) (py (dblL X Y n))) (hg : g < w.heap.size) (hn0 : 0 < n) (hn : n ≤ 40) (hcg : n ≤ cg) :
    Calls Tryz.prog (byF ki) #[.agg #[.int .i64 cx, .int .i64 cy], .slice (some ⟨g, 0, none⟩) n cg, .int .i64 (reachI wi z)] w fun e w' => e = .returned (.bool (coverB ki wi z cx cy (dblL X Y n))) ∧ Below w.heap.size w w' := by
  have hdl := dblL_len X Y n
  unfold byF coverB
  by_cases h : ki = 3
  · rw [if_pos h, if_pos h, hdl]
    exact isInArea_any _ _ _ g n cg _ _ _ hp hg (by omega) hcg
  · rw [if_neg h, if_neg h, hdl]
    exact isByLine_any _ _ _ g n cg _ _ _ hp hg hn0 (by omega) hcg
set_option maxHeartbeats 4000000 in
theorem covers_any (id ki wi z cx cy : Int) (g n cg : Nat) (X Y : Nat → Int) (w : World) (hp : PtsAt w g 0 n (px (dblL X Y n)) (py (dblL X Y n))) (hg : g < w.heap.size) (hn0 : 0 < n) (hn : n ≤ 40) (hcg : n ≤ cg) :
    Calls Tryz.prog 100 #[shapeV id ki wi z g n cg, .agg #[.int .i64 cx, .int .i64 cy]] w fun e w' => e = .returned (.bool (coverB ki wi z cx cy (dblL X Y n))) ∧ Below w.heap.size w w' := by
  have HP : Hid (PtsAt w g 0 n (px (dblL X Y n)) (py (dblL X Y n))) := hp
  have HC : Hid (∀ W, PtsAt W g 0 n (px (dblL X Y n)) (py (dblL X Y n)) → g < W.heap.size → Calls Tryz.prog (byF ki) #[.agg #[.int .i64 cx, .int .i64 cy], .slice (some ⟨g, 0, none⟩) n cg, .int .i64 (reachI wi z)] W fun e w' => e = .returned (.bool (coverB ki wi z cx cy (dblL X Y n))) ∧ Below W.heap.size W w') := fun W h1 h2 => by_any ki wi z cx cy g n cg X Y W h1 h2 hn0 hn hcg
  have hce := enter_by ki
  clear hp
  show Calls Tryz.prog 100 #[.agg #[.int .i64 id, .func (.func (byF ki)) #[] #[], .slice (some ⟨g, 0, none⟩) n cg, .int .i64 (reachI wi z)], _] w _
  generalize byF ki = fby at *
  generalize reachI wi z = rch at *
  generalize coverB ki wi z cx cy (dblL X Y n) = cv at *
  go_enter Tryz.func100, Tryz.ntmps100
  go_wp2_with fail
  generalize hW : ((w.alloc _).alloc _ : World) = W
  have hB0 : Below w.heap.size w W := by subst hW; (repeat (first | exact Below.refl _ _ | assumption | refine Below.drew ?_ | refine bl_alloc ?_ _ | refine bl_then ?_ (by assumption) | refine Below.setCell ?_ (by first | omega | (simp; done) | (simp; omega)) _ | refine bl_store ?_ ?_ _ _))
  clear hW
  refine Calls.mono (HC.out W (HP.out.below hB0 hg) (Nat.lt_of_lt_of_le hg hB0.size)) ?_
  rintro e w' ⟨rfl, hb⟩
  have HB : Hid (Below w.heap.size w w') := bl_then hB0 hb
  clear hb hB0
  go_wp2
  go_ret
  exact ⟨rfl, HB.out⟩
end Go.Proofs.YtciidkmonfmipaaGreat
/- What a range over a list from its last on down needs. -/

namespace Go.Proofs.YtciidkmonfmipaaGreat
open Go.RowKit Go.Shelf
attribute [local go_sem] Oper.semAt_some
set_option linter.unusedSimpArgs false
set_option linter.unusedVariables false
set_option maxRecDepth 100000

/-- What lies below T stays, and block Bs. -/
def KS (T Bs : Nat) (A B : World) : Prop := Below T A B ∧ B.heap[Bs]? = A.heap[Bs]?
theorem KS.refl (T Bs : Nat) (A : World) : KS T Bs A A := ⟨Below.refl _ _, rfl⟩
theorem KS.trans {T Bs : Nat} {A B C : World} (h : KS T Bs A B) (k : KS T Bs B C) : KS T Bs A C := ⟨h.1.trans k.1, k.2.trans h.2⟩
theorem KS.alloc {T Bs : Nat} {A B : World} (h : KS T Bs A B) (hT : T ≤ A.heap.size) (hB : Bs < A.heap.size) (o : Obj) : KS T Bs A (B.alloc o) := ⟨h.1.alloc (Nat.le_trans hT h.1.size) o, (Below.heap_alloc B o Bs (Nat.lt_of_lt_of_le hB h.1.size)).trans h.2⟩
theorem KS.cell {T Bs : Nat} {A B : World} (h : KS T Bs A B) {v : Value} (hc : A.cell? ⟨Bs, 0, none⟩ = some v) : B.cell? ⟨Bs, 0, none⟩ = some v := (World.cell?_of_block (w := A) (a := ⟨Bs, 0, none⟩) h.2).trans hc
theorem KS.put {T Bs : Nat} {w : World} (hT : T ≤ w.heap.size) (hB : Bs < w.heap.size) (W : World) (l : Nat) (o o' : Obj) (hl : w.heap.size ≤ l) (h1 : W.heap[l]? = some o) (h2 : o.isCells = false) (h3 : o.isWalk = false) : KS T Bs W (W.putObj l o') := ⟨belowK_b (w := w) hT W l o o' hl h1 h2 h3, by
  have := (belowK_b (w := w) (n₀ := Bs + 1) hB W l o o' hl h1 h2 h3).block Bs (Nat.lt_succ_self _)
  exact this⟩
theorem objS_keep {W W' : World} {row : Option Nat} {b : Nat} {arr : Array Value} {t : TypeId} {fz : Nat × Nat} (h : W.heap[b]? = some (.cells arr t fz)) (hg : W.grownBy W' row) (hr : ∀ r, row = some r → ∃ o : Obj, W.heap[r]? = some o ∧ o.isCells = false) : W'.heap[b]? = some (.cells arr t fz) := by
  rw [hg.block b (lt_of_heap h) (fun e => by
    obtain ⟨o, ho, hc⟩ := hr b e.symm
    rw [h] at ho
    cases ho
    cases hc)]
  exact h
theorem keepsS {W W' : World} (h : Below W.heap.size W W') : KeepsOthers W W' := ⟨h.size, fun k o hk _ => (h.block k (lt_of_heap hk)).trans hk⟩
/-- From the last on down. -/
def downN (n k : Nat) : List Nat := (List.range k).map fun j => n - 1 - j
theorem downN_succ (n k : Nat) : downN n (k + 1) = downN n k ++ [n - 1 - k] := by simp [downN, List.range_succ]
theorem downN_len (n k : Nat) : (downN n k).length = k := by simp [downN]
theorem downN_pre (n k m : Nat) (h : k ≤ m) : downN n k <+: downN n m := by
  obtain ⟨d, rfl⟩ : ∃ d, m = k + d := ⟨m - k, by omega⟩
  unfold downN
  rw [List.range_add, List.map_append]
  exact List.prefix_append _ _
theorem downN_of_pre {n : Nat} {l : List Nat} (h : l <+: downN n n) : l = downN n l.length ∧ l.length ≤ n := by
  have hl := h.length_le
  rw [downN_len] at hl
  have h1 := downN_pre n l.length n hl
  refine ⟨?_, hl⟩
  exact (List.prefix_of_prefix_length_le h h1 (by rw [downN_len]; exact Nat.le_refl _)).eq_of_length (by rw [downN_len])
/-- A place of a list of n. -/
abbrev Pl (n : Nat) := { i : Nat // i < n }
theorem paintI_none {C : Nat → Bool} {I : Nat → Int} : ∀ {n : Nat}, (∀ i, i < n → C i = false) → paintI C I n = 0
  | 0, _ => rfl
  | n + 1, h => by rw [paintI, h n (by omega), if_neg (by simp)]; exact paintI_none fun i hi => h i (by omega)
theorem paintI_some {C : Nat → Bool} {I : Nat → Int} : ∀ {n i : Nat}, i < n → C i = true → (∀ j, i < j → j < n → C j = false) → paintI C I n = I i
  | n + 1, i, hi, h, hn => by
    rw [paintI]
    by_cases e : i = n
    · subst e; rw [h, if_pos rfl]
    · rw [hn n (by omega) (by omega), if_neg (by simp)]
      exact paintI_some (by omega) h fun j h1 h2 => hn j h1 (by omega)
theorem front_done {C : Nat → Bool} {I : Nat → Int} {n : Nat} {ys : List (Pl n)} (h : ys.map (·.1) = downN n n) (ha : ∀ x ∈ ys, C x.1 = false) : paintI C I n = 0 := by
  refine paintI_none fun i hi => ?_
  have hm : i ∈ ys.map (·.1) := by
    rw [h]
    unfold downN
    exact List.mem_map.2 ⟨n - 1 - i, List.mem_range.2 (by omega), by omega⟩
  obtain ⟨x, hx, rfl⟩ := List.mem_map.1 hm
  exact ha x hx
theorem front_stop {C : Nat → Bool} {I : Nat → Int} {n : Nat} {p : List (Pl n)} {x : Pl n} (h : (p ++ [x]).map (·.1) <+: downN n n) (ha : ∀ y ∈ p, C y.1 = false) (hx : C x.1 = true) : paintI C I n = I x.1 := by
  obtain ⟨h1, h2⟩ := downN_of_pre h
  have hl : ((p ++ [x]).map (·.1)).length = p.length + 1 := by simp
  rw [hl] at h1 h2
  rw [downN_succ, List.map_append] at h1
  have e1 : p.map (·.1) = downN n p.length := by
    have := List.append_inj_left h1 (by rw [downN_len]; simp)
    exact this
  have e2 : x.1 = n - 1 - p.length := by
    have := List.append_inj_right h1 (by rw [downN_len]; simp)
    simpa using this
  refine paintI_some x.2 hx fun j h3 h4 => ?_
  have hm : j ∈ p.map (·.1) := by
    rw [e1]
    unfold downN
    exact List.mem_map.2 ⟨n - 1 - j, List.mem_range.2 (by omega), by omega⟩
  obtain ⟨y, hy, rfl⟩ := List.mem_map.1 hm
  exact ha y hy
end Go.Proofs.YtciidkmonfmipaaGreat
