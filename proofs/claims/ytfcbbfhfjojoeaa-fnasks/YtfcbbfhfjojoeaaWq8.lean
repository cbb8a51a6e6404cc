/- A tile is asked for: the program. -/
import Derived.Test.YtfcbbfhfjojoeaaWq4
import Derived.Test.YtfcbbfhfjojoeaaWq6
import Derived.Test.YtfcbbfhfjojoeaaWq7
import Derived.Test.YtfcbbfhfjojoeaaCo
import Derived.Test.YtfcbbfhfjojoeaaTake
namespace Go.Proofs.Ytfcbbfhfjojoeaa
open Go.RowKit
set_option linter.unusedSimpArgs false
set_option linter.unusedVariables false
set_option maxRecDepth 100000

/-- A time that is not right. -/
def timC (now : Int) : Int := if inB now 0 9000 = true then 0 else 3
theorem timC_in {now : Int} (h : timC now = 0) : 0 ≤ now ∧ now ≤ 9000 := by
  unfold timC at h
  cases hb : inB now 0 9000
  · simp [hb] at h
  · simpa [inB] using hb
/-- What comes ahead of asking. -/
def preC (n : Nat) (E : Nat → Req) (z x y now : Int) : Int := or3 (reqsC n E) (timC now) (refC z x y)
theorem preC_zero {n : Nat} {E : Nat → Req} {z x y now : Int} (h : preC n E z x y now = 0) : reqsC n E = 0 ∧ timC now = 0 ∧ refC z x y = 0 := by
  unfold preC or3 at h
  by_cases h1 : reqsC n E = 0
  · rw [if_pos h1] at h
    by_cases h2 : timC now = 0
    · rw [if_pos h2] at h
      exact ⟨h1, h2, h⟩
    · rw [if_neg h2] at h
      exact absurd h h2
  · rw [if_neg h1] at h
    exact absurd h h1
theorem reqsC_le {n : Nat} {E : Nat → Req} (h : reqsC n E = 0) : n ≤ 8 := by
  unfold reqsC at h
  by_cases h8 : 8 < n
  · rw [if_pos h8] at h; cases h
  · omega
/-- What AskTile tells. -/
def askC (n : Nat) (E : Nat → Req) (z x y now : Int) : Int := if preC n E z x y now = 0 then (if 0 ≤ atW n E z x y then 0 else if 8 ≤ n then 7 else 0) else preC n E z x y now
def askL (n : Nat) (E : Nat → Req) (z x y now : Int) : List Req := if preC n E z x y now = 0 then (if 0 ≤ atW n E z x y then listW n E else if 8 ≤ n then [] else listW n E ++ [⟨z, x, y, now + 3, 1⟩]) else []
def askS (n : Nat) (E : Nat → Req) (z x y now : Int) : List Req := if preC n E z x y now = 0 then (if 0 ≤ atW n E z x y then [] else if 8 ≤ n then [] else [⟨z, x, y, now + 3, 1⟩]) else []
theorem ask_bad {n : Nat} {E : Nat → Req} {z x y now : Int} (h : preC n E z x y now ≠ 0) : askC n E z x y now = preC n E z x y now ∧ askL n E z x y now = [] ∧ askS n E z x y now = [] := by
  unfold askC askL askS
  rw [if_neg h, if_neg h, if_neg h]
  exact ⟨rfl, rfl, rfl⟩
theorem ask_there {n : Nat} {E : Nat → Req} {z x y now : Int} (h : preC n E z x y now = 0) (h2 : 0 ≤ atW n E z x y) : askC n E z x y now = 0 ∧ askL n E z x y now = listW n E ∧ askS n E z x y now = [] := by
  unfold askC askL askS
  rw [if_pos h, if_pos h, if_pos h, if_pos h2, if_pos h2, if_pos h2]
  exact ⟨rfl, rfl, rfl⟩
theorem ask_full {n : Nat} {E : Nat → Req} {z x y now : Int} (h : preC n E z x y now = 0) (h2 : ¬ 0 ≤ atW n E z x y) (h3 : 8 ≤ n) : askC n E z x y now = 7 ∧ askL n E z x y now = [] ∧ askS n E z x y now = [] := by
  unfold askC askL askS
  rw [if_pos h, if_pos h, if_pos h, if_neg h2, if_neg h2, if_neg h2, if_pos h3, if_pos h3, if_pos h3]
  exact ⟨rfl, rfl, rfl⟩
theorem ask_new {n : Nat} {E : Nat → Req} {z x y now : Int} (h : preC n E z x y now = 0) (h2 : ¬ 0 ≤ atW n E z x y) (h3 : ¬ 8 ≤ n) : askC n E z x y now = 0 ∧ askL n E z x y now = listW n E ++ [⟨z, x, y, now + 3, 1⟩] ∧ askS n E z x y now = [⟨z, x, y, now + 3, 1⟩] := by
  unfold askC askL askS
  rw [if_pos h, if_pos h, if_pos h, if_neg h2, if_neg h2, if_neg h2, if_neg h3, if_neg h3, if_neg h3]
  exact ⟨rfl, rfl, rfl⟩
theorem run_iminq (ts : Array TypeId) (t : TypeId) (a b : Int) (w : World) : (Builtin.min_ ts t #[.int .i64 a, .int .i64 b]).run Try.prog w = .ok (.int .i64 (min a b)) w := by
  simp only [Builtin.min_, Builtin.min2, List.foldlM]
  by_cases h : b < a
  · have e : min a b = b := by omega
    simp [h, e]
  · have e : min a b = a := by omega
    simp [h, e]
theorem there3q (V : World) (a b c : Value) (t : TypeId) : There (V.alloc (.cells #[a, b, c] t)) V.heap.size 3 := there3r V a b c t
theorem there5q (V : World) (a b c d e : Value) (t : TypeId) : There (V.alloc (.cells #[a, b, c, d, e] t)) V.heap.size 5 := fun o ho => by
  have hc : o = 0 ∨ o = 1 ∨ o = 2 ∨ o = 3 ∨ o = 4 := by omega
  rcases hc with rfl | rfl | rfl | rfl | rfl <;> exact ⟨⟨_, by simp [go_sem]; rfl⟩, by simp [go_sem]⟩
theorem set3q {W : World} {r : Nat} {a b c : Value} (hT : There W r 3) :
    (((W.setCell ⟨r, 0, none⟩ a).setCell ⟨r, 1, none⟩ b).setCell ⟨r, 2, none⟩ c).cell? ⟨r, 0, none⟩ = some a ∧
    (((W.setCell ⟨r, 0, none⟩ a).setCell ⟨r, 1, none⟩ b).setCell ⟨r, 2, none⟩ c).cell? ⟨r, 1, none⟩ = some b ∧
    (((W.setCell ⟨r, 0, none⟩ a).setCell ⟨r, 1, none⟩ b).setCell ⟨r, 2, none⟩ c).cell? ⟨r, 2, none⟩ = some c := by
  obtain ⟨x0, h0⟩ := (hT 0 (by omega)).1
  obtain ⟨x1, h1⟩ := (hT 1 (by omega)).1
  obtain ⟨x2, h2⟩ := (hT 2 (by omega)).1
  have ne : ∀ i j : Nat, i ≠ j → (⟨r, i, none⟩ : Addr) ≠ ⟨r, j, none⟩ := fun i j hij h => hij (by injection h)
  refine ⟨?_, ?_, ?_⟩
  · rw [set1_other (ne 2 0 (by omega)), set1_other (ne 1 0 (by omega))]; exact set1_same h0
  · rw [set1_other (ne 2 1 (by omega))]; exact set1_same (by rw [set1_other (ne 0 1 (by omega))]; exact h1)
  · exact set1_same (by rw [set1_other (ne 1 2 (by omega)), set1_other (ne 0 2 (by omega))]; exact h2)
theorem lit_cells (w : World) (cs : Array Value) (t : TypeId) : ∀ j u, cs.toList[j]? = some u → (w.alloc (.cells cs t)).cell? ((⟨w.heap.size, 0, none⟩ : Addr).add j) = some u := fun j u h => by
  have h1 : (w.alloc (.cells cs t)).cell? ⟨w.heap.size, j, none⟩ = some u := by
    rw [World.cell?_alloc_at _ _ _ _ rfl]
    simpa using h
  by_cases hj : j = 0
  · subst hj; simpa [Addr.add] using h1
  · simpa [Addr.add, hj] using h1
theorem lit_refs {base : Nat} (w : World) (e : Req) (hb : base ≤ w.heap.size) : RowS base (w.alloc (.cells #[.int .i64 e.z, .int .i64 e.x, .int .i64 e.y] 26)) (.slice (some ⟨w.heap.size, 0, none⟩) 1 1) [e] :=
  World.ownsRow_lit (base := base) (size := 3) w #[.int .i64 e.z, .int .i64 e.x, .int .i64 e.y] 1 hb (by unfold maxLen; omega) rfl
theorem reqCells_one (e : Req) : ∀ u ∈ reqCells e, u.oneCell' = true := fun u hu => cellsW_cell [e] u (by rw [cellsW_one]; exact hu)
theorem RowW.slice {base : Nat} {w : World} {v : Value} {l : List Req} (h : RowW base w v l) : ∃ a c, v = .slice a l.length c := by
  obtain ⟨a, c, hv, _⟩ := h.own
  exact ⟨a, c, hv⟩
theorem RowS.slice {base : Nat} {w : World} {v : Value} {l : List Req} (h : RowS base w v l) : ∃ a c, v = .slice a l.length c := by
  obtain ⟨a, c, hv, _⟩ := h.own
  exact ⟨a, c, hv⟩
theorem RowW.block {base : Nat} {w : World} {v : Value} {l : List Req} (h : RowW base w v l) : ∀ s, v.ownBlock = some s → base ≤ s := fun s hs => by
  obtain ⟨_, h2 | ⟨g, cp, cur, hv, hg, _⟩⟩ := h
  · rw [h2.1] at hs; cases hs
  · rw [hv] at hs
    simp [Value.ownBlock] at hs
    omega
theorem RowS.block {base : Nat} {w : World} {v : Value} {l : List Req} (h : RowS base w v l) : ∀ s, v.ownBlock = some s → base ≤ s := fun s hs => by
  obtain ⟨_, h2 | ⟨g, cp, cur, hv, hg, _⟩⟩ := h
  · rw [h2.1] at hs; cases hs
  · rw [hv] at hs
    simp [Value.ownBlock] at hs
    omega
theorem RowW.set3 {base B r : Nat} {w : World} {v a b c : Value} {l : List Req} (h : RowW B w v l) (hr : r < B) (hB : base ≤ B) : RowW base (((w.setCell ⟨r, 0, none⟩ a).setCell ⟨r, 1, none⟩ b).setCell ⟨r, 2, none⟩ c) v l :=
  ownsRow_wideW (ownsRow_setW (ownsRow_setW (ownsRow_setW h hr) hr) hr) hB
theorem RowS.set3 {base B r : Nat} {w : World} {v a b c : Value} {l : List Req} (h : RowS B w v l) (hr : r < B) (hB : base ≤ B) : RowS base (((w.setCell ⟨r, 0, none⟩ a).setCell ⟨r, 1, none⟩ b).setCell ⟨r, 2, none⟩ c) v l :=
  ownsRow_wideW (ownsRow_setW (ownsRow_setW (ownsRow_setW h hr) hr) hr) hB
theorem timeFault_any (now : Int) (w : World) : Calls Try.prog 34 #[.int .i64 now] w fun e w' => e = .returned (.int .i64 (timC now)) ∧ Below w.heap.size w w' := by
  cases h : inB now 0 9000
  all_goals
    have hk : Hid (timC now = if inB now 0 9000 = true then 0 else 3) := rfl
    rw [h] at hk
    go_enter Try.func34, Try.ntmps34
    go_wp2_with (go_at_call 61; refine (isWithin_any _ _ _ _).mono ?_; rintro e w' ⟨rfl, rfl⟩)
    go_ret
    exact ⟨ret_int (by rw [hk.out]; rfl), by (repeat (first | exact Below.refl _ _ | assumption | refine Below.drew ?_ | refine bl_alloc ?_ _ | refine bl_then ?_ (by assumption) | refine Below.setCell ?_ (by first | omega | (simp; done) | (simp; omega)) _ | refine bl_store ?_ ?_ _ _))⟩
set_option maxHeartbeats 2000000 in
theorem sentAt_any (e : Req) (now : Int) (w : World) (hn : 0 ≤ now ∧ now ≤ 9000) (ht : 0 ≤ e.tr ∧ e.tr ≤ 99) : Calls Try.prog 38 #[reqV e, .int .i64 now] w fun r w' => r = .returned (reqV ⟨e.z, e.x, e.y, now + 3, min (e.tr + 1) 99⟩) ∧ Below w.heap.size w w' := by
  obtain ⟨n0, n1⟩ := hn
  obtain ⟨t0, t1⟩ := ht
  have hmin := run_iminq
  go_enter Try.func38, Try.ntmps38
  go_wp2
  exact bodyPost_ret (v := reqV ⟨e.z, e.x, e.y, now + 3, min (e.tr + 1) 99⟩) (by simp [results, Try.results38, go_sem]) rfl ⟨rfl, by (repeat (first | exact Below.refl _ _ | assumption | refine Below.drew ?_ | refine bl_alloc ?_ _ | refine bl_then ?_ (by assumption) | refine Below.setCell ?_ (by first | omega | (simp; done) | (simp; omega)) _ | refine bl_store ?_ ?_ _ _))⟩
theorem resAsk {T : Array Value} {Wf : World} {r : Nat} {c : Int} {v1 v2 : Value} (hT : T[6]?.getD undef = .pointer (some ⟨r, 0, none⟩)) (h0 : Wf.cell? ⟨r, 0, none⟩ = some (.int .i64 c)) (h1 : Wf.cell? ⟨r, 1, none⟩ = some v1) (h2 : Wf.cell? ⟨r, 2, none⟩ = some v2) :
    (results Try.f11 T).run Try.prog Wf = .ok (rqV c v1 v2) Wf := by
  simp [results, Try.results11, go_sem, hT, h0, h1, h2]
set_option maxHeartbeats 8000000 in
theorem impl_AskTile_any (a : Option Addr) (n cap : Nat) (E : Nat → Req) (z x y now : Int) (w : World) (hp : IsWs w a n E) (hn : n ≤ 1048576) (hcap : n ≤ cap) :
    Calls Try.prog 11 #[.slice a n cap, refV z x y, .int .i64 now] w fun e w' => ∃ v1 v2, e = .returned (rqV (askC n E z x y now) v1 v2) ∧ RowS w.heap.size w' v1 (askS n E z x y now) ∧ RowW w.heap.size w' v2 (askL n E z x y now) ∧ Below w.heap.size w w' := by
  obtain ⟨i0, hi, hz0, hz1, hz2⟩ := info_parts info_req
  have HP : Hid (IsWs w a n E) := hp
  have HT : Hid (∀ W, Calls Try.prog 34 #[.int .i64 now] W fun e w' => e = .returned (.int .i64 (timC now)) ∧ Below W.heap.size W w') := fun W => timeFault_any now W
  have HR : Hid (∀ W, Calls Try.prog 35 #[refV z x y] W fun e w' => e = .returned (.int .i64 (refC z x y)) ∧ Below W.heap.size W w') := fun W => refFault_any z x y W
  have HF0 : Hid (∀ W, Below w.heap.size w W → Calls Try.prog 16 #[.slice a n cap] W fun e w' => e = .returned (.int .i64 (reqsC n E)) ∧ Below W.heap.size W w') := fun W h => impl_RequestsFault_any a n cap E W (hp.below h) hn hcap
  have HI : Hid (∀ W, Below w.heap.size w W → Calls Try.prog 37 #[.slice a n cap, refV z x y] W fun e w' => e = .returned (.int .i64 (atW n E z x y)) ∧ Below W.heap.size W w') := fun W h => requestOf_any a n cap E z x y W (hp.below h) hn
  have HC : Hid (∀ W, Below w.heap.size w W → Calls Try.prog 36 #[.slice a n cap] W fun e w' => ∃ v, e = .returned v ∧ RowW W.heap.size w' v (listW n E) ∧ Below W.heap.size W w') := fun W h => cloneW_any a n cap E W (hp.below h) hn
  have HPC : Hid (preC n E z x y now = or3 (reqsC n E) (timC now) (refC z x y)) := rfl
  have HLE : Hid (preC n E z x y now = 0 → (0 ≤ now ∧ now ≤ 9000) ∧ n ≤ 8) := fun h => ⟨timC_in (preC_zero h).2.1, reqsC_le (preC_zero h).1⟩
  clear hp
  generalize reqsC n E = k1 at *
  generalize timC now = k2 at *
  generalize refC z x y = k3 at *
  go_enter Try.func11, Try.ntmps11
  go_wp2_with fail
  generalize hW : ((w.alloc _).alloc _ : World) = W
  have HB0 : Hid (Below w.heap.size w W) := by show Below _ _ _; subst hW; (repeat (first | exact Below.refl _ _ | assumption | refine Below.drew ?_ | refine bl_alloc ?_ _ | refine bl_then ?_ (by assumption) | refine Below.setCell ?_ (by first | omega | (simp; done) | (simp; omega)) _ | refine bl_store ?_ ?_ _ _))
  have HSZ : Hid (w.heap.size + 1 < W.heap.size) := by show _ < _; subst hW; simp
  have c0 : ∀ W', Below W.heap.size W W' → W'.cell? ⟨w.heap.size, 0, none⟩ = some (.int .i64 z) := fun W' h => by rw [h.cell (by subst hW; simp; omega)]; subst hW; simp [go_sem]
  have c1 : ∀ W', Below W.heap.size W W' → W'.cell? ⟨w.heap.size, 1, none⟩ = some (.int .i64 x) := fun W' h => by rw [h.cell (by subst hW; simp; omega)]; subst hW; simp [go_sem]
  have c2 : ∀ W', Below W.heap.size W W' → W'.cell? ⟨w.heap.size, 2, none⟩ = some (.int .i64 y) := fun W' h => by rw [h.cell (by subst hW; simp; omega)]; subst hW; simp [go_sem]
  have HTH : Hid (There W (w.heap.size + 1) 3) := by
    show There _ _ _
    subst hW
    have := there3q (w.alloc (.cells #[.int .i64 z, .int .i64 x, .int .i64 y] 26)) (.int .i64 0) (.slice none 0 0) (.slice none 0 0) 31
    simpa using this
  clear hW
  have HF : Hid (∀ W', Below W.heap.size W W' → Calls Try.prog 16 #[.slice a n cap] W' fun e w' => e = .returned (.int .i64 k1) ∧ Below W'.heap.size W' w') := fun W' h => HF0.out W' (bl_then HB0.out h)
  refine wp_region_noPanic ?_
  refine wp_region_held_drew (S := fun W' => Below W.heap.size W W') (by kernel_rfl) (by (repeat (first | exact Below.refl _ _ | assumption | refine Below.drew ?_ | refine bl_alloc ?_ _ | refine bl_then ?_ (by assumption) | refine Below.setCell ?_ (by first | omega | (simp; done) | (simp; omega)) _ | refine bl_store ?_ ?_ _ _))) (fun hHeld => ?_)
  have hX0 : Below W.heap.size W W.drew := hHeld
  refine takeD (i := 0) (d := some 9) (v := ?v0) rfl rfl (by kernel_rfl) (by kernel_rfl) (by kernel_rfl) (fun _ _ _ h => h) (Or.inl ⟨by rfl, ?hy0⟩) (by assumption) ?_
  case hy0 => (intro w hSw; (try dsimp only at hSw); go_simp <;> with_reducible rfl)
  try simp only [Act.put, List.setIfInBounds_toArray, List.set_cons_zero, List.set_cons_succ]
  refine takeD (i := 2) (d := some 11) (v := ?v2) rfl rfl (by kernel_rfl) (by kernel_rfl) (by kernel_rfl) (fun _ _ _ h => h) (Or.inl ⟨by rfl, ?hy2⟩) (by assumption) ?_
  case hy2 => (intro w hSw; (try dsimp only at hSw); go_simp <;> with_reducible rfl)
  try simp only [Act.put, List.setIfInBounds_toArray, List.set_cons_zero, List.set_cons_succ]
  refine takeD (i := 4) (d := some 13) (v := ?v4) rfl rfl (by kernel_rfl) (by kernel_rfl) (by kernel_rfl) (fun _ _ _ h => h) (Or.inl ⟨by rfl, ?hy4⟩) (by assumption) ?_
  case hy4 => (intro w hSw; (try dsimp only at hSw); go_simp <;> with_reducible rfl)
  try simp only [Act.put, List.setIfInBounds_toArray, List.set_cons_zero, List.set_cons_succ]
  refine wpAnyH_ready (rs := [1]) (by kernel_rfl) (by simp) ?_
  refine (AllReadyH.cons rfl (fun K hK => ?_) AllReadyH.nil)
  go_simp
  refine Calls.mono (HF.out _ hX0) ?_
  rintro e wo1 ⟨rfl, hbo1⟩
  have hX1 : Below W.heap.size W wo1 := bl_then hX0 hbo1
  go_wp2_with fail
  refine hK.out _ _ hX1 (fun hHeld => ?_)
  clear hK K
  try simp only [Act.put, List.setIfInBounds_toArray, List.set_cons_zero, List.set_cons_succ]
  refine wpAnyH_ready (rs := [3]) (by kernel_rfl) (by simp) ?_
  refine (AllReadyH.cons rfl (fun K hK => ?_) AllReadyH.nil)
  go_simp
  refine Calls.mono (HT.out _) ?_
  rintro e wo2 ⟨rfl, hbo2⟩
  have hX2 : Below W.heap.size W wo2 := bl_then hX1 hbo2
  go_wp2_with fail
  refine hK.out _ _ hX2 (fun hHeld => ?_)
  clear hK K
  try simp only [Act.put, List.setIfInBounds_toArray, List.set_cons_zero, List.set_cons_succ]
  refine wpAnyH_ready (rs := [5]) (by kernel_rfl) (by simp) ?_
  refine (AllReadyH.cons rfl (fun K hK => ?_) AllReadyH.nil)
  go_simp
  refine Calls.mono (HR.out _) ?_
  rintro e wo3 ⟨rfl, hbo3⟩
  have hX3 : Below W.heap.size W wo3 := bl_then hX2 hbo3
  go_wp2_with fail
  refine hK.out _ _ hX3 (fun hHeld => ?_)
  clear hK K
  try simp only [Act.put, List.setIfInBounds_toArray, List.set_cons_zero, List.set_cons_succ]
  refine wpAnyH_ready (rs := [6]) (by kernel_rfl) (by simp) ?_
  refine (AllReadyH.cons rfl (fun K hK => ?_) AllReadyH.nil)
  go_simp
  generalize hw4 : (World.alloc _ _ : World) = wo4
  have hb4 : Below wo3.heap.size wo3 wo4 := by subst hw4; (repeat (first | exact Below.refl _ _ | assumption | refine Below.drew ?_ | refine bl_alloc ?_ _ | refine bl_then ?_ (by assumption) | refine Below.setCell ?_ (by first | omega | (simp; done) | (simp; omega)) _ | refine bl_store ?_ ?_ _ _))
  have g0 : wo4.cell? ⟨wo3.heap.size, 0, none⟩ = some (.int .i64 k1) := by subst hw4; simp [go_sem]
  have g1 : wo4.cell? ⟨wo3.heap.size, 1, none⟩ = some (.int .i64 k2) := by subst hw4; simp [go_sem]
  have g2 : wo4.cell? ⟨wo3.heap.size, 2, none⟩ = some (.int .i64 k3) := by subst hw4; simp [go_sem]
  have hX4 : Below W.heap.size W wo4 := bl_then hX3 hb4
  clear hw4
  refine hK.out _ _ hX4 (fun hHeld => ?_)
  clear hK K hb4
  try simp only [Act.put, List.setIfInBounds_toArray, List.set_cons_zero, List.set_cons_succ]
  refine wpAnyH_ready (rs := [7]) (by kernel_rfl) (by simp) ?_
  refine (AllReadyH.cons rfl (fun K hK => ?_) AllReadyH.nil)
  go_simp
  refine (cmpOr3_any _ _ k1 k2 k3 _ g0 g1 g2).mono ?_
  rintro e w5 ⟨rfl, rfl⟩
  go_wp2_with fail
  refine hK.out _ _ hX4 (fun hHeld => ?_)
  clear hK K g0 g1 g2
  try simp only [Act.put, List.setIfInBounds_toArray, List.set_cons_zero, List.set_cons_succ]
  refine takeD (i := 8) (d := some 7) (v := ?v8) rfl rfl (by kernel_rfl) (by kernel_rfl) (by kernel_rfl) (fun _ _ _ h => h) (Or.inl ⟨by rfl, ?hy8⟩) (by assumption) ?_
  case hy8 => (intro w hSw; (try dsimp only at hSw); go_simp <;> with_reducible rfl)
  try simp only [Act.put, List.setIfInBounds_toArray, List.set_cons_zero, List.set_cons_succ]
  refine wpAnyH_done (by kernel_rfl) ?_ _
  refine NoPanic.normal ?_
  simp only [Exit.then]
  refine (by assumption : ∀ (a : Act) (w : World), _ → _) _ _ ?_
  have hB5 : Below W.heap.size W w5 := hX4
  have hT5 := HTH.out.below hB5
  have HSZ5 : Hid (w.heap.size + 1 < w5.heap.size) := by have := hB5.size; have := HSZ.out; show _ < _; omega
  have HBS : Hid (W.heap.size ≤ w5.heap.size) := hB5.size
  rw [← HPC.out]
  clear hX0 hX1 hX2 hX3 hX4 hHeld hbo1 hbo2 hbo3 HF HF0 HT HR
  by_cases hp0 : preC n E z x y now = 0
  · rw [hp0]
    obtain ⟨⟨n0, n1⟩, hn8⟩ := HLE.out hp0
    have HP0 : Hid (preC n E z x y now = 0) := hp0
    clear hp0 hT5
    go_wp2_with fail
    refine (HC.out _ (bl_then HB0.out hB5)).mono ?_
    rintro e w6 ⟨v, rfl, hrow, hb6⟩
    obtain ⟨va, vc, hv⟩ := hrow.slice
    rw [listW_len] at hv
    subst hv
    have hB6 : Below W.heap.size W w6 := bl_then hB5 hb6
    have HRW : Hid (RowW w5.heap.size w6 (.slice va n vc) (listW n E)) := hrow
    have HS6 : Hid (w5.heap.size ≤ w6.heap.size) := hb6.size
    have m0 := c0 w6 hB6
    have m1 := c1 w6 hB6
    have m2 := c2 w6 hB6
    clear hb6 hrow hB5
    go_wp2_with fail
    refine (HI.out _ (bl_then HB0.out hB6)).mono ?_
    rintro e w7 ⟨rfl, hb7⟩
    have hB7 : Below W.heap.size W w7 := bl_then hB6 hb7
    have HRW7 : Hid (RowW w5.heap.size w7 (.slice va n vc) (listW n E)) := HRW.out.below hb7
    have hT7 := HTH.out.below hB7
    have hs7 : w5.heap.size ≤ w7.heap.size := Nat.le_trans HS6.out hb7.size
    have k0 := c0 w7 hB7
    have k1' := c1 w7 hB7
    have k2' := c2 w7 hB7
    have t0 := hT7.cell 0 (by omega)
    have t1 := hT7.cell 1 (by omega)
    have t2 := hT7.cell 2 (by omega)
    have f0 := (hT7 0 (by omega)).2
    have f1 := (hT7 1 (by omega)).2
    have f2 := (hT7 2 (by omega)).2
    have HT7 : Hid (There w7 (w.heap.size + 1) 3) := hT7
    clear hT7 hb7 HRW HI HC m0 m1 m2
    by_cases hat : 0 ≤ atW n E z x y
    · obtain ⟨ha, hl, hs⟩ := ask_there HP0.out hat
      have HA : Hid (askC n E z x y now = 0) := ha
      have HL : Hid (askL n E z x y now = listW n E) := hl
      have HS : Hid (askS n E z x y now = []) := hs
      clear ha hl hs
      generalize atW n E z x y = q at *
      go_wp2_with fail
      obtain ⟨q0, q1, q2⟩ := set3q (a := .int .i64 0) (b := .slice none 0 0) (c := .slice va n vc) HT7.out
      refine bodyPost_ret (resAsk rfl q0 q1 q2) rfl ⟨_, _, by rw [HA.out], by rw [HS.out]; exact RowS.no _ _, by rw [HL.out]; exact HRW7.out.set3 HSZ5.out (by have := HSZ5.out; omega), ?_⟩
      exact (((bl_then HB0.out hB7).setCell (Nat.le_succ _) _).setCell (Nat.le_succ _) _).setCell (Nat.le_succ _) _
    · by_cases h8 : 8 ≤ n
      · obtain ⟨ha, hl, hs⟩ := ask_full HP0.out hat h8
        have HA : Hid (askC n E z x y now = 7) := ha
        have HL : Hid (askL n E z x y now = []) := hl
        have HS : Hid (askS n E z x y now = []) := hs
        obtain rfl : n = 8 := by omega
        clear ha hl hs
        generalize atW 8 E z x y = q at *
        go_wp2_with fail
        obtain ⟨q0, q1, q2⟩ := set3q (a := .int .i64 7) (b := .slice none 0 0) (c := .slice none 0 0) HT7.out
        refine bodyPost_ret (resAsk rfl q0 q1 q2) rfl ⟨_, _, by rw [HA.out], by rw [HS.out]; exact RowS.no _ _, by rw [HL.out]; exact RowW.no _ _, ?_⟩
        exact (((bl_then HB0.out hB7).setCell (Nat.le_succ _) _).setCell (Nat.le_succ _) _).setCell (Nat.le_succ _) _
      · obtain ⟨ha, hl, hs⟩ := ask_new HP0.out hat h8
        have HA : Hid (askC n E z x y now = 0) := ha
        have HL : Hid (askL n E z x y now = listW n E ++ [⟨z, x, y, now + 3, 1⟩]) := hl
        have HS : Hid (askS n E z x y now = [⟨z, x, y, now + 3, 1⟩]) := hs
        have HLEN : Hid ((listW n E).length = n) := listW_len n E
        have hn8' : ((n : Int) == 8) = false := by simp; omega
        clear ha hl hs t0 t1 t2 f0 f1 f2
        generalize atW n E z x y = q at *
        go_wp2_with fail
        refine (sentAt_any ⟨z, x, y, 0, 0⟩ now _ ⟨n0, n1⟩ ⟨by simp, by simp⟩).mono ?_
        rintro e w8 ⟨rfl, hb8⟩
        have hB8 : Below W.heap.size W w8 := bl_then hB7 hb8
        have HR8 : Hid (RowW w5.heap.size w8 (.slice va n vc) (listW n E)) := HRW7.out.below hb8
        have hs8 : w5.heap.size ≤ w8.heap.size := Nat.le_trans hs7 hb8.size
        clear hb8 k0 k1' k2' HRW7 HT7
        have hm1 : min ((0 : Int) + 1) 99 = 1 := by decide
        dsimp only
        simp only [hm1]
        go_wp2_with (first
          | (at_builtin; go_must (refine wpList_append_own _ rfl _ _ 24 rfl w5.heap.size 36 i0 (.agg #[.int .i64 0, .int .i64 0, .int .i64 0, .int .i64 0, .int .i64 0]) 5 40 Try.underlying24 hi hz0 hz1 hz2 rfl (by decide) (.slice va n vc) n (cellsW (listW n E)) rfl ?r0 ⟨w8.heap.size, 0, none⟩ 1 1 (reqCells ⟨z, x, y, now + 3, 1⟩) rfl rfl ?r1 ?r2 ?r3 ?r4 ?r5 ?_)))
        case r0 =>
          have h := HR8.out
          unfold RowW at h
          rw [HLEN.out] at h
          exact World.ownsRow.alloc h _
        case r1 => exact lit_cells _ _ _
        case r2 => exact reqCells_one _
        case r3 => unfold maxLen; omega
        case r4 => omega
        case r5 => simp; omega
        intro v' w9 hown' hgrow hnil
        have HR9 : RowW w5.heap.size w9 v' (listW n E ++ [⟨z, x, y, now + 3, 1⟩]) := by
          unfold RowW
          rw [cellsW_app, cellsW_one, List.length_append, HLEN.out]
          exact hown'
        have hB9 : Below W.heap.size W w9 := by
          refine (Below.alloc hB8 hB8.size _).trans (below_rowR hgrow (fun s hs => ?_) (by have := hB8.size; simp; omega))
          have := HR8.out.block s hs
          have := HBS.out
          omega
        have hs9 : w5.heap.size ≤ w9.heap.size := by have := hgrow.size; simp at this; omega
        obtain ⟨va', vc', hv'⟩ := RowW.slice HR9
        have hl1 : (listW n E ++ [(⟨z, x, y, now + 3, 1⟩ : Req)]).length = n + 1 := by rw [List.length_append, listW_len]; rfl
        rw [hl1] at hv'
        subst hv'
        have HR9' : Hid (RowW w5.heap.size w9 (.slice va' (n + 1) vc') (listW n E ++ [⟨z, x, y, now + 3, 1⟩])) := HR9
        clear hl1
        have k0 := c0 w9 hB9
        have k1' := c1 w9 hB9
        have k2' := c2 w9 hB9
        have hT9 := HTH.out.below hB9
        have HT9 : Hid (There (w9.alloc (.cells #[.int .i64 z, .int .i64 x, .int .i64 y] 26)) (w.heap.size + 1) 3) := hT9.below (by (repeat (first | exact Below.refl _ _ | assumption | refine Below.drew ?_ | refine bl_alloc ?_ _ | refine bl_then ?_ (by assumption) | refine Below.setCell ?_ (by first | omega | (simp; done) | (simp; omega)) _ | refine bl_store ?_ ?_ _ _)))
        have t0 := HT9.out.cell 0 (by omega)
        have t1 := HT9.out.cell 1 (by omega)
        have t2 := HT9.out.cell 2 (by omega)
        have f0 := (HT9.out 0 (by omega)).2
        have f1 := (HT9.out 1 (by omega)).2
        have f2 := (HT9.out 2 (by omega)).2
        have HB9 : Hid (Below w.heap.size w (w9.alloc (.cells #[.int .i64 z, .int .i64 x, .int .i64 y] 26))) := by
          have h1 : Below w.heap.size w w9 := bl_then HB0.out hB9
          show Below _ _ _
          (repeat (first | exact Below.refl _ _ | assumption | refine Below.drew ?_ | refine bl_alloc ?_ _ | refine bl_then ?_ (by assumption) | refine Below.setCell ?_ (by first | omega | (simp; done) | (simp; omega)) _ | refine bl_store ?_ ?_ _ _))
        clear hT9 hown' hgrow hnil HR9 HR8 hB8
        go_wp2_with fail
        obtain ⟨q0, q1, q2⟩ := set3q (a := .int .i64 0) (b := .slice (some ⟨w9.heap.size, 0, none⟩) 1 1) (c := .slice va' (n + 1) vc') HT9.out
        refine bodyPost_ret (resAsk rfl q0 q1 q2) rfl ⟨_, _, by rw [HA.out], ?_, ?_, ?_⟩
        · rw [HS.out]; exact (lit_refs w9 ⟨z, x, y, now + 3, 1⟩ hs9).set3 HSZ5.out (by have := HSZ5.out; omega)
        · rw [HL.out]; exact (HR9'.out.below (by (repeat (first | exact Below.refl _ _ | assumption | refine Below.drew ?_ | refine bl_alloc ?_ _ | refine bl_then ?_ (by assumption) | refine Below.setCell ?_ (by first | omega | (simp; done) | (simp; omega)) _ | refine bl_store ?_ ?_ _ _)))).set3 HSZ5.out (by have := HSZ5.out; omega)
        · exact ((HB9.out.setCell (Nat.le_succ _) _).setCell (Nat.le_succ _) _).setCell (Nat.le_succ _) _
  · have hpb : (preC n E z x y now == 0) = false := by simpa using hp0
    obtain ⟨ha, hl, hs⟩ := ask_bad hp0
    have HA : Hid (askC n E z x y now = preC n E z x y now) := ha
    have HL : Hid (askL n E z x y now = []) := hl
    have HS : Hid (askS n E z x y now = []) := hs
    have t0 := hT5.cell 0 (by omega)
    have t1 := hT5.cell 1 (by omega)
    have t2 := hT5.cell 2 (by omega)
    have f0 := (hT5 0 (by omega)).2
    have f1 := (hT5 1 (by omega)).2
    have f2 := (hT5 2 (by omega)).2
    clear hp0 ha hl hs
    have HT5 : Hid (There w5 (w.heap.size + 1) 3) := hT5
    clear hT5
    go_wp2_with fail
    obtain ⟨q0, q1, q2⟩ := set3q (a := .int .i64 (preC n E z x y now)) (b := .slice none 0 0) (c := .slice none 0 0) HT5.out
    refine bodyPost_ret (resAsk rfl q0 q1 q2) rfl ⟨_, _, by rw [HA.out], by rw [HS.out]; exact RowS.no _ _, by rw [HL.out]; exact RowW.no _ _, ?_⟩
    exact (((bl_then HB0.out hB5).setCell (Nat.le_succ _) _).setCell (Nat.le_succ _) _).setCell (Nat.le_succ _) _
end Go.Proofs.Ytfcbbfhfjojoeaa
